/-
  PickRows: the model. Conditions: none.
-/
import Derived.Test.YthklfkfhhdglcaaPkr
namespace Go.Proofs.Ythklfkfhhdglcaa
open Go.RowKit Go.Deep Go.WideShapes Go.ChangeShapes
set_option linter.unusedVariables false
attribute [local go_sem] World.drewN_zero

theorem exa_end {w wX : World} {g : Nat} {t : TypeId} {x0 x1 x2 x3 x4 x5 : Value} (h : Blk wX g t #[x0, x1, x2, x3, x4, x5]) (hb : Below w.heap.size w wX) (hg : w.heap.size ≤ g) (y0 y1 y2 y3 y4 y5 : Value) :
    ((((((wX.setCell ⟨g, 0, none⟩ y0).setCell ⟨g, 1, none⟩ y1).setCell ⟨g, 2, none⟩ y2).setCell ⟨g, 3, none⟩ y3).setCell ⟨g, 4, none⟩ y4).setCell ⟨g, 5, none⟩ y5).cell? ⟨g, 0, none⟩ = some y0 ∧ ((((((wX.setCell ⟨g, 0, none⟩ y0).setCell ⟨g, 1, none⟩ y1).setCell ⟨g, 2, none⟩ y2).setCell ⟨g, 3, none⟩ y3).setCell ⟨g, 4, none⟩ y4).setCell ⟨g, 5, none⟩ y5).cell? ⟨g, 1, none⟩ = some y1 ∧ ((((((wX.setCell ⟨g, 0, none⟩ y0).setCell ⟨g, 1, none⟩ y1).setCell ⟨g, 2, none⟩ y2).setCell ⟨g, 3, none⟩ y3).setCell ⟨g, 4, none⟩ y4).setCell ⟨g, 5, none⟩ y5).cell? ⟨g, 2, none⟩ = some y2 ∧
    ((((((wX.setCell ⟨g, 0, none⟩ y0).setCell ⟨g, 1, none⟩ y1).setCell ⟨g, 2, none⟩ y2).setCell ⟨g, 3, none⟩ y3).setCell ⟨g, 4, none⟩ y4).setCell ⟨g, 5, none⟩ y5).cell? ⟨g, 3, none⟩ = some y3 ∧ ((((((wX.setCell ⟨g, 0, none⟩ y0).setCell ⟨g, 1, none⟩ y1).setCell ⟨g, 2, none⟩ y2).setCell ⟨g, 3, none⟩ y3).setCell ⟨g, 4, none⟩ y4).setCell ⟨g, 5, none⟩ y5).cell? ⟨g, 4, none⟩ = some y4 ∧ ((((((wX.setCell ⟨g, 0, none⟩ y0).setCell ⟨g, 1, none⟩ y1).setCell ⟨g, 2, none⟩ y2).setCell ⟨g, 3, none⟩ y3).setCell ⟨g, 4, none⟩ y4).setCell ⟨g, 5, none⟩ y5).cell? ⟨g, 5, none⟩ = some y5 ∧
    Below w.heap.size w ((((((wX.setCell ⟨g, 0, none⟩ y0).setCell ⟨g, 1, none⟩ y1).setCell ⟨g, 2, none⟩ y2).setCell ⟨g, 3, none⟩ y3).setCell ⟨g, 4, none⟩ y4).setCell ⟨g, 5, none⟩ y5) := by
  obtain ⟨hk, hgr⟩ := store6 h (y0 := y0) (y1 := y1) (y2 := y2) (y3 := y3) (y4 := y4) (y5 := y5)
  obtain ⟨m0, m1, m2, m3, m4, m5, _⟩ := tb6 hk
  exact ⟨m0, m1, m2, m3, m4, m5, Below.at_ hb hgr hg⟩
theorem inB_take {R : Int} {rows : List Int} {j : Nat} (h : (rows.take j).all (inB R) = true) (hj : j < rows.length) (hb : inB R (rows.getD j 0) = true) : (rows.take (j + 1)).all (inB R) = true := by
  rw [take_one' hj, List.all_append, h, List.all_cons, hb]
  rfl
theorem inB_no {R : Int} {rows : List Int} {j : Nat} (hj : j < rows.length) (hb : inB R (rows.getD j 0) = false) : rows.all (inB R) = false := by
  rw [List.all_eq_false]
  refine ⟨rows.getD j 0, ?_, by rw [hb]; exact Bool.false_ne_true⟩
  simp [List.getD, hj]
def PsRel (r c r' c' : Int) (rows : List Int) (a b : Option Addr) (n m ca cb : Nat) (w : World) (iv : Value) (wr : World) : Prop :=
  ∃ j : Nat, j ≤ rows.length ∧ iv = .int .i64 j ∧ (rows.take j).all (inB r) = true ∧ Blk wr w.heap.size 51 #[.int .i64 r, .int .i64 c, .slice a n ca, .int .i64 r', .int .i64 c', .slice b m cb] ∧
    Blk wr (w.heap.size + 1) 51 #[.int .i64 0, .int .i64 0, .slice none 0 0, .int .i64 0, .int .i64 0, .slice none 0 0] ∧ Below w.heap.size w wr
set_option maxRecDepth 20000 in
set_option maxHeartbeats 4000000 in
theorem t_sPickRows (r c r' c' : Int) (x y : List Nat) (rows : List Int) (a b ra : Option Addr) (ca cb rc : Nat) (w : World) (hx : IsFloats .f32 w a x.length ca x) (hy : IsFloats .f32 w b y.length cb y) (hr : IsRow .i64 w ra rows.length rc rows) :
    Calls Try.prog 35 #[.agg #[.int .i64 r, .int .i64 c, .slice a x.length ca, .int .i64 r', .int .i64 c', .slice b y.length cb], .slice ra rows.length rc] w (RetPk (vPick r c r' c' x y rows) w) := by
  have hn : x.length ≤ 9223372036854775807 := by have h1 := hx.1; have h2 := hx.2.1; unfold maxLen at h2; omega
  have hm : y.length ≤ 9223372036854775807 := by have h1 := hy.1; have h2 := hy.2.1; unfold maxLen at h2; omega
  have hrm : rows.length ≤ 9223372036854775807 := by have h1 := hr.1; have h2 := hr.2.1; unfold maxLen at h2; omega
  obtain ⟨xn, hxn⟩ : ∃ n, x.length = n := ⟨_, rfl⟩
  obtain ⟨yn, hyn⟩ : ∃ n, y.length = n := ⟨_, rfl⟩
  obtain ⟨L, hL⟩ : ∃ L, rows.length = L := ⟨_, rfl⟩
  have HXN := Lib.hid hxn
  have HYN := Lib.hid hyn
  have HL := Lib.hid hL
  rw [hxn] at hx hn ⊢
  rw [hyn] at hy hm ⊢
  rw [hL] at hr hrm ⊢
  have HX := Lib.hid hx
  have HY := Lib.hid hy
  have HR := Lib.hid hr
  clear hxn hyn hL
  obtain ⟨k1, k2, b0⟩ := two_boxes w 51 #[.int .i64 r, .int .i64 c, .slice a xn ca, .int .i64 r', .int .i64 c', .slice b yn cb] #[.int .i64 0, .int .i64 0, .slice none 0 0, .int .i64 0, .int .i64 0, .slice none 0 0]
  have K1 := Lib.hid k1
  have K2 := Lib.hid k2
  have B0 := Lib.hid b0
  have HD := Lib.hid (fun W h0 h1 h2 h3 h4 h5 => c_l07Data w.heap.size r c r' c' a b xn yn ca cb hn hm W h0 h1 h2 h3 h4 h5)
  clear hx hy hr k1 k2 b0
  cases hv : exaB r c r' c' xn yn with
  | false =>
    have HV := Lib.hid (vPick_no (show okPick r c r' c' x.length y.length rows = false by rw [okPick, HXN.out, HYN.out, hv]; rfl))
    rw [HV.out]
    rw [hv] at HD
    go_enter Try.func35, Try.ntmps35
    go_wp2_with fail
    generalize (w.alloc (.cells #[.int .i64 r, .int .i64 c, .slice a xn ca, .int .i64 r', .int .i64 c', .slice b yn cb] 51)).alloc (.cells #[.int .i64 0, .int .i64 0, .slice none 0 0, .int .i64 0, .int .i64 0, .slice none 0 0] 51) = w1 at K1 K2 B0 ⊢
    obtain ⟨p0, p1, p2, p3, p4, p5, p6⟩ := tb6 K1.out
    refine (HD.out _ p0 p1 p2 p3 p4 p5).mono ?_
    rintro e w2 ⟨rfl, d, rfl⟩
    have bd : Below w1.heap.size w1 (w1.drewN d) := below_drewN (Below.refl _ _) _
    have K2d := Lib.hid (K2.out.below bd)
    have B2 := Lib.hid (Below.next B0.out bd)
    clear bd p0 p1 p2 p3 p4 p5 p6 K1 K2 B0
    obtain ⟨q0, q1, q2, q3, q4, q5, q6⟩ := tb6 K2d.out
    obtain ⟨f0, f1, f2, f3, f4, f5⟩ := tbf6 K2d.out
    obtain ⟨m0, m1, m2, m3, m4, m5, mb⟩ := exa_end K2d.out B2.out (Nat.le_succ _) (.int .i64 0) (.int .i64 0) (.slice none 0 0) (.int .i64 0) (.int .i64 0) (.slice none 0 0)
    have MB := Lib.hid mb
    clear mb
    go_wp2_with fail
    exact bodyPost_ret (v := .tuple #[.agg #[.int .i64 0, .int .i64 0, .slice none 0 0, .int .i64 0, .int .i64 0, .slice none 0 0], .bool false]) (by simp [results, Try.results35, go_sem, m0, m1, m2, m3, m4, m5]) rfl (retPk_no MB.out)
  | true =>
    rw [hv] at HD
    have HV0 := Lib.hid hv
    obtain ⟨R, C, C', rfl, rfl, rfl, rfl, g1, g2, g3, g4, g5, g6, g7, g8⟩ := exa_nat hv
    have HXL := Lib.hid g7
    have HYL := Lib.hid g8
    clear hv g7 g8 hn hm
    by_cases hlen : 1 ≤ L ∧ L ≤ 16
    case neg =>
      have HV := Lib.hid (vPick_no (show okPick (R : Int) C R C' x.length y.length rows = false by
        rw [okPick, HXN.out, HYN.out, HV0.out, HL.out]
        rcases Nat.lt_or_ge L 1 with h | h
        · simp [show ¬ 1 ≤ L by omega]
        · simp [show ¬ L ≤ 16 by omega]))
      rw [HV.out]
      have hcs : decide ((L : Int) < 1) = true ∨ (decide ((L : Int) < 1) = false ∧ decide ((16 : Int) < (L : Int)) = true) := by
        simp only [decide_eq_true_eq, decide_eq_false_iff_not]
        omega
      clear hlen
      rcases hcs with hc | ⟨hc, hc2⟩
      all_goals
        go_enter Try.func35, Try.ntmps35
        go_wp2_with fail
        generalize (w.alloc (.cells #[.int .i64 R, .int .i64 C, .slice a xn ca, .int .i64 R, .int .i64 C', .slice b yn cb] 51)).alloc (.cells #[.int .i64 0, .int .i64 0, .slice none 0 0, .int .i64 0, .int .i64 0, .slice none 0 0] 51) = w1 at K1 K2 B0 ⊢
        obtain ⟨p0, p1, p2, p3, p4, p5, p6⟩ := tb6 K1.out
        refine (HD.out _ p0 p1 p2 p3 p4 p5).mono ?_
        rintro e w2 ⟨rfl, d, rfl⟩
        have bd : Below w1.heap.size w1 (w1.drewN d) := below_drewN (Below.refl _ _) _
        have K2d := Lib.hid (K2.out.below bd)
        have B2 := Lib.hid (Below.next B0.out bd)
        clear bd p0 p1 p2 p3 p4 p5 p6 K1 K2 B0
        obtain ⟨q0, q1, q2, q3, q4, q5, q6⟩ := tb6 K2d.out
        obtain ⟨f0, f1, f2, f3, f4, f5⟩ := tbf6 K2d.out
        obtain ⟨m0, m1, m2, m3, m4, m5, mb⟩ := exa_end K2d.out B2.out (Nat.le_succ _) (.int .i64 0) (.int .i64 0) (.slice none 0 0) (.int .i64 0) (.int .i64 0) (.slice none 0 0)
        have MB := Lib.hid mb
        clear mb
        go_wp2_with fail
        exact bodyPost_ret (v := .tuple #[.agg #[.int .i64 0, .int .i64 0, .slice none 0 0, .int .i64 0, .int .i64 0, .slice none 0 0], .bool false]) (by simp [results, Try.results35, go_sem, m0, m1, m2, m3, m4, m5]) rfl (retPk_no MB.out)
    case pos =>
      obtain ⟨l1, l2⟩ := hlen
      have hc : ¬ (L : Int) < 1 := by omega
      have hc2 : (L : Int) ≤ 16 := by omega
      have hR1 : (R : Int) ≤ 16 := by omega
      have hR0 : (1 : Int) ≤ (R : Int) := by omega
      have hok : okPick (R : Int) C R C' x.length y.length rows = rows.all (inB R) := by rw [okPick, HXN.out, HYN.out, HV0.out, HL.out]; simp [l1, l2]
      have HOK := Lib.hid hok
      clear hok
      go_enter Try.func35, Try.ntmps35
      go_wp2_with fail
      generalize (w.alloc (.cells #[.int .i64 R, .int .i64 C, .slice a xn ca, .int .i64 R, .int .i64 C', .slice b yn cb] 51)).alloc (.cells #[.int .i64 0, .int .i64 0, .slice none 0 0, .int .i64 0, .int .i64 0, .slice none 0 0] 51) = w1 at K1 K2 B0 ⊢
      obtain ⟨p0, p1, p2, p3, p4, p5, p6⟩ := tb6 K1.out
      refine (HD.out _ p0 p1 p2 p3 p4 p5).mono ?_
      rintro e w2 ⟨rfl, d, rfl⟩
      have bd : Below w1.heap.size w1 (w1.drewN d) := below_drewN (Below.refl _ _) _
      have HST := Lib.hid (show PsRel R C R C' rows a b xn yn ca cb w (.int .i64 0) (w1.drewN d) from ⟨0, Nat.zero_le _, rfl, by simp, K1.out.below bd, K2.out.below bd, Below.next B0.out bd⟩)
      clear bd p0 p1 p2 p3 p4 p5 p6 K1 K2 B0
      go_wp2_with fail
      go_loopw [6] (fun iv wr => PsRel R C R C' rows a b xn yn ca cb w iv wr) (fun iv _ => L - (intOf iv).toNat)
      case atStart => exact HST.out
      case round =>
        obtain ⟨j, hj, rfl, hall, hk1, hk2, hb⟩ := hrel
        have K1 := Lib.hid hk1
        have K2 := Lib.hid hk2
        have HB := Lib.hid hb
        have HALL := Lib.hid hall
        rw [HL.out] at hj
        have hj0 : (0 : Int) ≤ (j : Int) := by omega
        clear HST hk1 hk2 hb hall
        by_cases hlt : j < L
        · have hlt' : (j : Int) < (L : Int) := by omega
          have hjl : j < rows.length := by rw [HL.out]; exact hlt
          rcases HR.out.2.2.2.2 with h' | ⟨rb0, ro, rfl, hrb, hrc⟩
          · omega
          have cr := (HB.out.cell (p := ⟨rb0, ro + j, none⟩) hrb).trans (hrc j hlt)
          have HT := Lib.hid (fun h => inB_take HALL.out hjl h)
          have HN := Lib.hid (fun h => inB_no (R := R) hjl h)
          obtain ⟨z, hz⟩ : ∃ z, rows.getD j 0 = z := ⟨_, rfl⟩
          rw [hz] at cr HT HN
          obtain ⟨p0, p1, p2, p3, p4, p5, p6⟩ := tb6 K1.out
          cases hq : inB R z with
          | true =>
            rw [hq] at HT HN
            have HQ := Lib.hid (show (decide (0 ≤ z) && decide (z ≤ (R : Int) - 1)) = true from hq)
            clear hrc hz hq
            go_wp2_with fail
            go_quiet ((go_at_call 77; exact quiet_same (c_l00In _ _ _ true HQ.out _)))
            clear p0 p1 p2 p3 p4 p5 p6 cr
            go_wp2_with fail
            go_roundw
            case rel =>
              exact ⟨j + 1, by rw [HL.out]; omega, by go_num, HT.out trivial, K1.out.below (below_drewN (Below.refl _ _) _), K2.out.below (below_drewN (Below.refl _ _) _), Below.next HB.out (below_drewN (Below.refl _ _) _)⟩
            case measure => simp [intOf]; omega
          | false =>
            rw [hq] at HN
            have HQ := Lib.hid (show (decide (0 ≤ z) && decide (z ≤ (R : Int) - 1)) = false from hq)
            have HV := Lib.hid (vPick_no (x := x) (y := y) (rows := rows) (HOK.out.trans (HN.out rfl)))
            clear hrc hz hq
            go_wp2_with fail
            go_quiet ((go_at_call 77; exact quiet_same (c_l00In _ _ _ false HQ.out _)))
            have K2d := Lib.hid (K2.out.below (below_drewN (Below.refl wr.heap.size wr) nq))
            have B2 := Lib.hid (Below.next HB.out (below_drewN (Below.refl wr.heap.size wr) nq))
            generalize wr.drewN nq = wq at K2d B2 ⊢
            clear p0 p1 p2 p3 p4 p5 p6 cr K1 K2 HB
            obtain ⟨q0, q1, q2, q3, q4, q5, q6⟩ := tb6 K2d.out
            obtain ⟨f0, f1, f2, f3, f4, f5⟩ := tbf6 K2d.out
            obtain ⟨m0, m1, m2, m3, m4, m5, mb⟩ := exa_end K2d.out B2.out (Nat.le_succ _) (.int .i64 0) (.int .i64 0) (.slice none 0 0) (.int .i64 0) (.int .i64 0) (.slice none 0 0)
            have MB := Lib.hid mb
            clear mb
            go_wp2_with fail
            refine bodyPost_ret (v := .tuple #[.agg #[.int .i64 0, .int .i64 0, .slice none 0 0, .int .i64 0, .int .i64 0, .slice none 0 0], .bool false]) (by simp [results, Try.results35, go_sem, m0, m1, m2, m3, m4, m5]) rfl ?_
            rw [HV.out]
            exact retPk_no MB.out
        · obtain rfl : j = L := by omega
          have hful : rows.all (inB R) = true := by have h := HALL.out; rwa [List.take_of_length_le (by rw [HL.out]; exact Nat.le_refl _)] at h
          have hvy := vPick_yes (HOK.out.trans hful)
          have HAL := Lib.hid (inB_all hful)
          obtain ⟨P, hP⟩ : ∃ P, rowsF C x rows = P := ⟨_, rfl⟩
          obtain ⟨Q, hQ⟩ : ∃ Q, rowsF C' y rows = Q := ⟨_, rfl⟩
          have HC1 := Lib.hid (fun w1 (hb : Below w.heap.size w w1) (hg : w.heap.size < w1.heap.size) h0 h1 h2 => c_sRows0 w.heap.size R C a xn ca x rows ra rc w1 (HX.out.kept hb) g2 g3 g4 HXL.out (by rw [HL.out]; exact rowKept HR.out hb) HAL.out (by rw [HL.out]; exact l2) hg h0 h1 h2)
          have HC2 := Lib.hid (fun w1 (hb : Below w.heap.size w w1) (hg : w.heap.size < w1.heap.size) h0 h1 h2 => c_sRows3 w.heap.size R C' b yn cb y rows ra rc w1 (HY.out.kept hb) g2 g5 g6 HYL.out (by rw [HL.out]; exact rowKept HR.out hb) HAL.out (by rw [HL.out]; exact l2) hg h0 h1 h2)
          simp only [Int.toNat_natCast] at hvy
          rw [hP, hQ, HL.out] at hvy
          have HV := Lib.hid hvy
          clear hvy
          rw [hP, HL.out] at HC1
          rw [hQ, HL.out] at HC2
          clear hful hP hQ
          obtain ⟨p0, p1, p2, p3, p4, p5, p6⟩ := tb6 K1.out
          go_wp2_with fail
          refine (HC1.out _ HB.out p6 p0 p1 p2).mono ?_
          rintro e w3 ⟨a2, c2, rfl, hf, hb⟩
          have S1 := Lib.hid (show w.heap.size + 1 < wr.heap.size from K2.out.lt)
          have A3 := Lib.hid hf
          have K13 := Lib.hid (K1.out.below hb)
          have K23 := Lib.hid (K2.out.below hb)
          have B3 := Lib.hid (Below.next HB.out hb)
          clear hf hb p0 p1 p2 p3 p4 p5 p6 K1 K2 HB
          obtain ⟨p0, p1, p2, p3, p4, p5, p6⟩ := tb6 K13.out
          go_wp2_with fail
          refine (HC2.out _ B3.out p6 p3 p4 p5).mono ?_
          rintro e w4 ⟨b2, d2, rfl, hf, hb⟩
          have S3 := Lib.hid (show w.heap.size + 1 < w3.heap.size from K23.out.lt)
          have NAB := Lib.hid (lt_apart A3.out.lt hf.lt)
          have A4 := Lib.hid (A3.out.kept hb)
          have C4 := Lib.hid hf
          have K24 := Lib.hid (K23.out.below hb)
          have B4 := Lib.hid (Below.next B3.out hb)
          clear hf hb p0 p1 p2 p3 p4 p5 p6 K13 K23 A3 B3
          obtain ⟨q0, q1, q2, q3, q4, q5, q6⟩ := tb6 K24.out
          obtain ⟨f0, f1, f2, f3, f4, f5⟩ := tbf6 K24.out
          obtain ⟨hk, hg⟩ := store6 K24.out (y0 := .int .i64 j) (y1 := .int .i64 C) (y2 := .slice a2 P.length c2) (y3 := .int .i64 j) (y4 := .int .i64 C') (y5 := .slice b2 Q.length d2)
          obtain ⟨m0, m1, m2, m3, m4, m5, m6⟩ := tb6 hk
          have A5 := Lib.hid (A4.out.apart (b := some ⟨w.heap.size + 1, 0, none⟩) hg (fun g h1 h2 => by have := (A4.out.lt g h1).1; have := S1.out; simp [blk] at h2; omega))
          have C5 := Lib.hid (C4.out.apart (b := some ⟨w.heap.size + 1, 0, none⟩) hg (fun g h1 h2 => by have := (C4.out.lt g h1).1; have := S3.out; simp [blk] at h2; omega))
          have B5 := Lib.hid (Below.at_ B4.out hg (by omega))
          have T1 := Lib.hid (show w.heap.size ≤ wr.heap.size by have := S1.out; omega)
          have T3 := Lib.hid (show w.heap.size ≤ w3.heap.size by have := S3.out; omega)
          clear hk hg m6
          go_wp2_with fail
          refine bodyPost_ret (v := .tuple #[.agg #[.int .i64 j, .int .i64 C, .slice a2 P.length c2, .int .i64 j, .int .i64 C', .slice b2 Q.length d2], .bool true]) (by simp [results, Try.results35, go_sem, m0, m1, m2, m3, m4, m5]) rfl ?_
          rw [HV.out]
          exact ⟨a2, c2, b2, d2, rfl, A5.out.base T1.out, C5.out.base T3.out, NAB.out, B5.out⟩
end Go.Proofs.Ythklfkfhhdglcaa
