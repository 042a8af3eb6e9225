/-
  PickRows: the program. Conditions: none.
-/
import Derived.Test.YthklfkfhhdglcaaPks
import Derived.Test.YthklfkfhhdglcaaShr
namespace Go.Proofs.Ythklfkfhhdglcaa
open Go.RowKit Go.Deep Go.WideShapes Go.ChangeShapes
set_option linter.unusedVariables false
attribute [local go_sem] World.drewN_zero

theorem c_isRow1 (R z : Int) (g : Nat) (w : World) (h0 : w.cell? ⟨g, 0, none⟩ = some (.int .i64 R)) :
    Calls Try.prog 86 #[.int .i64 z, .pointer (some ⟨g, 0, none⟩)] w fun e w' => e = .returned (.bool (inB R z)) ∧ w = w' := by
  by_cases h1 : 0 ≤ z
  · have hb : inB R z = decide (z < R) := by
      simp only [inB, decide_eq_true h1, Bool.true_and]
      exact decide_eq_decide.2 ⟨fun h => by omega, fun h => by omega⟩
    have HB := Lib.hid hb
    rw [hb]
    clear hb
    go_enter Try.func86, Try.ntmps86
    go_wp2_with fail
    go_ret
    exact ⟨rfl, rfl⟩
  · have hb : inB R z = false := by
      simp only [inB, decide_eq_false h1, Bool.false_and]
    rw [hb]
    clear hb
    go_enter Try.func86, Try.ntmps86
    go_wp2_with fail
    go_ret
    exact ⟨rfl, rfl⟩
set_option maxRecDepth 20000 in
set_option maxHeartbeats 4000000 in
theorem t_iPickRows (r c r' c' : Int) (x y : List Nat) (rows : List Int) (a b ra : Option Addr) (ca cb rc : Nat) (w : World) (hx : IsFloats .f32 w a x.length ca x) (hy : IsFloats .f32 w b y.length cb y) (hr : IsRow .i64 w ra rows.length rc rows) :
    Calls Try.prog 37 #[.agg #[.int .i64 r, .int .i64 c, .slice a x.length ca, .int .i64 r', .int .i64 c', .slice b y.length cb], .slice ra rows.length rc] w (RetPk (vPick r c r' c' x y rows) w) := by
  have hrm : rows.length ≤ 9223372036854775807 := by have h1 := hr.1; have h2 := hr.2.1; unfold maxLen at h2; omega
  obtain ⟨xn, hxn⟩ : ∃ n, x.length = n := ⟨_, rfl⟩
  obtain ⟨yn, hyn⟩ : ∃ n, y.length = n := ⟨_, rfl⟩
  obtain ⟨L, hL⟩ : ∃ L, rows.length = L := ⟨_, rfl⟩
  have HXN := Lib.hid hxn
  have HYN := Lib.hid hyn
  have HL := Lib.hid hL
  rw [hxn] at hx ⊢
  rw [hyn] at hy ⊢
  rw [hL] at hr hrm ⊢
  have HX := Lib.hid hx
  have HY := Lib.hid hy
  have HR := Lib.hid hr
  clear hxn hyn hL
  obtain ⟨k1, k2, b0⟩ := two_boxes w 51 #[.int .i64 r, .int .i64 c, .slice a xn ca, .int .i64 r', .int .i64 c', .slice b yn cb] #[.int .i64 0, .int .i64 0, .slice none 0 0, .int .i64 0, .int .i64 0, .slice none 0 0]
  have K1 := Lib.hid k1
  have K2 := Lib.hid k2
  have B0 := Lib.hid b0
  have HD := Lib.hid (fun W => c_iValidExa r c r' c' a b xn yn ca cb W)
  have HS := Lib.hid (fun W => c_isSideV (L : Int) W)
  have HOK := Lib.hid (show okPick r c r' c' x.length y.length rows = ((exaB r c r' c' xn yn && (decide (1 ≤ L) && decide (L ≤ 16))) && rows.all (inB r)) by rw [okPick, HXN.out, HYN.out, HL.out])
  have HA := Lib.hid (fun W (hb : Below w.heap.size w W) (hg : w.heap.size < W.heap.size) (h0 : W.cell? ⟨w.heap.size, 0, none⟩ = some (.int .i64 r)) => c_isAllIC 86 #[.pointer (some ⟨w.heap.size, 0, none⟩)] (inB r) ra L rc rows W (rowKept HR.out hb) (enters_of Try.func86 (by kernel_rfl) (by kernel_rfl))
    (fun z wr hbr _ _ => c_isRow1 r z w.heap.size wr ((hbr.cell (p := ⟨w.heap.size, 0, none⟩) hg).trans h0)))
  obtain ⟨u, hu⟩ : ∃ u, exaB r c r' c' xn yn = u := ⟨_, rfl⟩
  obtain ⟨s, hs⟩ : ∃ s, isSideV (L : Int) = s := ⟨_, rfl⟩
  obtain ⟨t, ht⟩ : ∃ t, rows.all (inB r) = t := ⟨_, rfl⟩
  have HU := Lib.hid hu
  have HSV := Lib.hid hs
  have HT := Lib.hid ht
  have hs' : (decide (1 ≤ L) && decide (L ≤ 16)) = s := by
    rw [← hs, isSideV]
    congr 1 <;> exact decide_eq_decide.2 ⟨fun h => by omega, fun h => by omega⟩
  rw [hu] at HD
  rw [hs] at HS
  rw [ht] at HA
  rw [hu, ht, hs'] at HOK
  clear hu hs ht hs' hx hy hr k1 k2 b0
  have HNO := Lib.hid (fun (h : (u && s && t) = false) => vPick_no (r := r) (c := c) (r' := r') (c' := c') (x := x) (y := y) (rows := rows) (HOK.out.trans h))
  have HYES := Lib.hid (fun (h : (u && s && t) = true) => vPick_yes (r := r) (c := c) (r' := r') (c' := c') (x := x) (y := y) (rows := rows) (HOK.out.trans h))
  cases u with
  | false =>
    go_enter Try.func37, Try.ntmps37
    go_wp2_with fail
    generalize (w.alloc (.cells #[.int .i64 r, .int .i64 c, .slice a xn ca, .int .i64 r', .int .i64 c', .slice b yn cb] 51)).alloc (.cells #[.int .i64 0, .int .i64 0, .slice none 0 0, .int .i64 0, .int .i64 0, .slice none 0 0] 51) = w1 at K1 K2 B0 ⊢
    obtain ⟨p0, p1, p2, p3, p4, p5, p6⟩ := tb6 K1.out
    go_wp2_with fail
    refine (HD.out _).mono ?_
    rintro e w2 ⟨rfl, hb⟩
    have K2d := Lib.hid (K2.out.below hb)
    have B2 := Lib.hid (Below.next B0.out hb)
    clear hb p0 p1 p2 p3 p4 p5 p6 K1 K2 B0
    obtain ⟨q0, q1, q2, q3, q4, q5, q6⟩ := tb6 K2d.out
    obtain ⟨f0, f1, f2, f3, f4, f5⟩ := tbf6 K2d.out
    obtain ⟨m0, m1, m2, m3, m4, m5, mb⟩ := exa_end K2d.out B2.out (Nat.le_succ _) (.int .i64 0) (.int .i64 0) (.slice none 0 0) (.int .i64 0) (.int .i64 0) (.slice none 0 0)
    have MB := Lib.hid mb
    clear mb
    go_wp2_with fail
    refine bodyPost_ret (v := .tuple #[.agg #[.int .i64 0, .int .i64 0, .slice none 0 0, .int .i64 0, .int .i64 0, .slice none 0 0], .bool false]) (by simp [results, Try.results37, go_sem, m0, m1, m2, m3, m4, m5]) rfl ?_
    rw [HNO.out rfl]
    exact retPk_no MB.out
  | true =>
  cases s with
  | false =>
    go_enter Try.func37, Try.ntmps37
    go_wp2_with fail
    generalize (w.alloc (.cells #[.int .i64 r, .int .i64 c, .slice a xn ca, .int .i64 r', .int .i64 c', .slice b yn cb] 51)).alloc (.cells #[.int .i64 0, .int .i64 0, .slice none 0 0, .int .i64 0, .int .i64 0, .slice none 0 0] 51) = w1 at K1 K2 B0 ⊢
    obtain ⟨p0, p1, p2, p3, p4, p5, p6⟩ := tb6 K1.out
    go_wp2_with fail
    refine (HD.out _).mono ?_
    rintro e w2 ⟨rfl, hb⟩
    have K2d := Lib.hid (K2.out.below hb)
    have B2 := Lib.hid (Below.next B0.out hb)
    clear hb p0 p1 p2 p3 p4 p5 p6 K1 K2 B0
    obtain ⟨q0, q1, q2, q3, q4, q5, q6⟩ := tb6 K2d.out
    obtain ⟨f0, f1, f2, f3, f4, f5⟩ := tbf6 K2d.out
    obtain ⟨m0, m1, m2, m3, m4, m5, mb⟩ := exa_end K2d.out B2.out (Nat.le_succ _) (.int .i64 0) (.int .i64 0) (.slice none 0 0) (.int .i64 0) (.int .i64 0) (.slice none 0 0)
    have MB := Lib.hid mb
    clear mb
    go_wp2_with fail
    refine (HS.out _).mono ?_
    rintro e w3 ⟨rfl, rfl⟩
    go_wp2_with fail
    refine bodyPost_ret (v := .tuple #[.agg #[.int .i64 0, .int .i64 0, .slice none 0 0, .int .i64 0, .int .i64 0, .slice none 0 0], .bool false]) (by simp [results, Try.results37, go_sem, m0, m1, m2, m3, m4, m5]) rfl ?_
    rw [HNO.out rfl]
    exact retPk_no MB.out
  | true =>
  cases t with
  | false =>
    go_enter Try.func37, Try.ntmps37
    go_wp2_with fail
    generalize (w.alloc (.cells #[.int .i64 r, .int .i64 c, .slice a xn ca, .int .i64 r', .int .i64 c', .slice b yn cb] 51)).alloc (.cells #[.int .i64 0, .int .i64 0, .slice none 0 0, .int .i64 0, .int .i64 0, .slice none 0 0] 51) = w1 at K1 K2 B0 ⊢
    obtain ⟨p0, p1, p2, p3, p4, p5, p6⟩ := tb6 K1.out
    go_wp2_with fail
    refine (HD.out _).mono ?_
    rintro e w2 ⟨rfl, hb⟩
    have K12 := Lib.hid (K1.out.below hb)
    have K22 := Lib.hid (K2.out.below hb)
    have B2 := Lib.hid (Below.next B0.out hb)
    clear hb p0 p1 p2 p3 p4 p5 p6 K1 K2 B0
    go_wp2_with fail
    refine (HS.out _).mono ?_
    rintro e w3 ⟨rfl, rfl⟩
    obtain ⟨p0, p1, p2, p3, p4, p5, p6⟩ := tb6 K12.out
    have HP0 := Lib.hid p0
    have HP6 := Lib.hid p6
    clear p0 p1 p2 p3 p4 p5 p6
    go_wp2_with fail
    refine (HA.out _ B2.out HP6.out HP0.out).mono ?_
    rintro e w4 ⟨rfl, hb⟩
    have K2d := Lib.hid (K22.out.below hb)
    have B4 := Lib.hid (Below.next B2.out hb)
    clear hb K12 K22 B2 HP0 HP6
    obtain ⟨q0, q1, q2, q3, q4, q5, q6⟩ := tb6 K2d.out
    obtain ⟨f0, f1, f2, f3, f4, f5⟩ := tbf6 K2d.out
    obtain ⟨m0, m1, m2, m3, m4, m5, mb⟩ := exa_end K2d.out B4.out (Nat.le_succ _) (.int .i64 0) (.int .i64 0) (.slice none 0 0) (.int .i64 0) (.int .i64 0) (.slice none 0 0)
    have MB := Lib.hid mb
    clear mb
    go_wp2_with fail
    refine bodyPost_ret (v := .tuple #[.agg #[.int .i64 0, .int .i64 0, .slice none 0 0, .int .i64 0, .int .i64 0, .slice none 0 0], .bool false]) (by simp [results, Try.results37, go_sem, m0, m1, m2, m3, m4, m5]) rfl ?_
    rw [HNO.out rfl]
    exact retPk_no MB.out
  | true =>
    obtain ⟨R, C, C', rfl, rfl, rfl, rfl, g1, g2, g3, g4, g5, g6, g7, g8⟩ := exa_nat HU.out
    have h16 : L ≤ 16 := by have h := HSV.out; simp only [isSideV, Bool.and_eq_true, decide_eq_true_eq] at h; omega
    have HPK := Lib.hid (fun W (hb : Below w.heap.size w W) => c_iExaPick R C C' a b xn yn ca cb x y rows ra rc W (HX.out.kept hb) (HY.out.kept hb) g2 g3 g4 g5 g6 g7 g8 (by rw [HL.out]; exact rowKept HR.out hb) (inB_all HT.out) (by rw [HL.out]; exact h16))
    have hvy := HYES.out rfl
    simp only [Int.toNat_natCast] at hvy
    obtain ⟨P, hP⟩ : ∃ P, rowsF C x rows = P := ⟨_, rfl⟩
    obtain ⟨Q, hQ⟩ : ∃ Q, rowsF C' y rows = Q := ⟨_, rfl⟩
    rw [hP, hQ, HL.out] at HPK hvy
    have HV := Lib.hid hvy
    clear hvy hP hQ g7 g8
    go_enter Try.func37, Try.ntmps37
    go_wp2_with fail
    generalize (w.alloc (.cells #[.int .i64 R, .int .i64 C, .slice a xn ca, .int .i64 R, .int .i64 C', .slice b yn cb] 51)).alloc (.cells #[.int .i64 0, .int .i64 0, .slice none 0 0, .int .i64 0, .int .i64 0, .slice none 0 0] 51) = w1 at K1 K2 B0 ⊢
    obtain ⟨p0, p1, p2, p3, p4, p5, p6⟩ := tb6 K1.out
    go_wp2_with fail
    refine (HD.out _).mono ?_
    rintro e w2 ⟨rfl, hb⟩
    have K12 := Lib.hid (K1.out.below hb)
    have K22 := Lib.hid (K2.out.below hb)
    have B2 := Lib.hid (Below.next B0.out hb)
    clear hb p0 p1 p2 p3 p4 p5 p6 K1 K2 B0
    go_wp2_with fail
    refine (HS.out _).mono ?_
    rintro e w3 ⟨rfl, rfl⟩
    obtain ⟨p0, p1, p2, p3, p4, p5, p6⟩ := tb6 K12.out
    have HP0 := Lib.hid p0
    have HP6 := Lib.hid p6
    clear p0 p1 p2 p3 p4 p5 p6
    go_wp2_with fail
    refine (HA.out _ B2.out HP6.out HP0.out).mono ?_
    rintro e w4 ⟨rfl, hb⟩
    have K1d := Lib.hid (K12.out.below hb)
    have K2d := Lib.hid (K22.out.below hb)
    have B4 := Lib.hid (Below.next B2.out hb)
    clear hb K12 K22 B2 HP0 HP6
    obtain ⟨p0, p1, p2, p3, p4, p5, p6⟩ := tb6 K1d.out
    go_wp2_with fail
    refine (HPK.out _ B4.out).mono ?_
    rintro e w5 ⟨a2, c2, b2, d2, rfl, hfa, hfb, hab, hb⟩
    have S4 := Lib.hid (show w.heap.size + 1 < w4.heap.size from K2d.out.lt)
    have K2e := Lib.hid (K2d.out.below hb)
    have B5 := Lib.hid (Below.next B4.out hb)
    have A5 := Lib.hid hfa
    have C5 := Lib.hid hfb
    have NAB := Lib.hid hab
    clear hfa hfb hab hb p0 p1 p2 p3 p4 p5 p6 K1d K2d B4
    obtain ⟨q0, q1, q2, q3, q4, q5, q6⟩ := tb6 K2e.out
    obtain ⟨f0, f1, f2, f3, f4, f5⟩ := tbf6 K2e.out
    obtain ⟨hk, hg⟩ := store6 K2e.out (y0 := .int .i64 L) (y1 := .int .i64 C) (y2 := .slice a2 P.length c2) (y3 := .int .i64 L) (y4 := .int .i64 C') (y5 := .slice b2 Q.length d2)
    obtain ⟨m0, m1, m2, m3, m4, m5, m6⟩ := tb6 hk
    have A6 := Lib.hid (A5.out.apart (b := some ⟨w.heap.size + 1, 0, none⟩) hg (fun g h1 h2 => by have := (A5.out.lt g h1).1; have := S4.out; simp [blk] at h2; omega))
    have C6 := Lib.hid (C5.out.apart (b := some ⟨w.heap.size + 1, 0, none⟩) hg (fun g h1 h2 => by have := (C5.out.lt g h1).1; have := S4.out; simp [blk] at h2; omega))
    have B6 := Lib.hid (Below.at_ B5.out hg (by omega))
    have T1 := Lib.hid (show w.heap.size ≤ w4.heap.size by have := S4.out; omega)
    clear hk hg m6
    go_wp2_with fail
    refine bodyPost_ret (v := .tuple #[.agg #[.int .i64 L, .int .i64 C, .slice a2 P.length c2, .int .i64 L, .int .i64 C', .slice b2 Q.length d2], .bool true]) (by simp [results, Try.results37, go_sem, m0, m1, m2, m3, m4, m5]) rfl ?_
    rw [HV.out]
    exact ⟨a2, c2, b2, d2, rfl, A6.out.base T1.out, C6.out.base T1.out, NAB.out, B6.out⟩
def RetPq (ok : Bool) (n d d' : Int) (P Q : List Nat) (w : World) (e : Ending) (w' : World) : Prop :=
  ∃ a ca b cb, e = .returned (.tuple #[.agg #[.int .i64 n, .int .i64 d, .slice a P.length ca, .int .i64 n, .int .i64 d', .slice b Q.length cb], .bool ok]) ∧ OwnF w' w.heap.size a ca P ∧ OwnF w' w.heap.size b cb Q ∧ (∀ g, blk a = some g → blk b ≠ some g) ∧ Below w.heap.size w w'
theorem retPk_eq (ok : Bool) (n d d' : Int) (P Q : List Nat) : RetPk (ok, n, d, d', P, Q) = RetPq ok n d d' P Q := rfl
theorem vPick_len (r c r' c' : Int) (x y : List Nat) (rows : List Int) : (vPick r c r' c' x y rows).2.2.2.2.1.length ≤ 256 ∧ (vPick r c r' c' x y rows).2.2.2.2.2.length ≤ 256 := by
  unfold vPick
  split
  case isFalse => exact ⟨by simp, by simp⟩
  case isTrue h =>
    unfold okPick at h
    simp only [Bool.and_eq_true, decide_eq_true_eq] at h
    obtain ⟨⟨h1, _, h16⟩, _⟩ := h
    obtain ⟨R, C, C', rfl, rfl, rfl, rfl, g1, g2, g3, g4, g5, g6, g7, g8⟩ := exa_nat h1
    simp only [Int.toNat_natCast]
    exact ⟨Nat.le_trans rowsF_length (Nat.le_trans (Nat.mul_le_mul h16 g4) (by decide)), Nat.le_trans rowsF_length (Nat.le_trans (Nat.mul_le_mul h16 g6) (by decide))⟩
end Go.Proofs.Ythklfkfhhdglcaa
