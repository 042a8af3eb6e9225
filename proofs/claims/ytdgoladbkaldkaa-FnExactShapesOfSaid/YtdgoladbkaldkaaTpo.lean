/-
  The program's shapesOf: the shapes of all values of a tape, and whether it is valid. Conditions: the cells can be read.
-/
import Derived.Test.YtdgoladbkaldkaaTps2
import Derived.Test.YtdgoladbkaldkaaTpr
import Derived.Test.YtdgoladbkaldkaaFun
namespace Go.Proofs.Ytdgoladbkaldkaa
open Go.RowKit Go.Deep Go.WideShapes Go.ChangeShapes
set_option linter.unusedVariables false
set_option linter.unusedSimpArgs false

theorem info_shp : (Try.prog.info? 66).map (fun i => (i.zero, i.size, i.bytes)) = some (some (.agg #[.int .i64 0, .int .i64 0]), 2, 16) := by kernel_rfl
theorem fl2_rep (n : Nat) : fl2 (List.replicate n (0, 0)) = List.replicate (n * 2) (.int .i64 0) := by
  induction n with
  | zero => rfl
  | succ n ih => rw [List.replicate_succ, fl2_cons, ih, show (n + 1) * 2 = n * 2 + 1 + 1 by omega, List.replicate_succ, List.replicate_succ]
theorem madeShape (n : Nat) : (madeCells #[.int .i64 0, .int .i64 0] (n * 2)).toList = shV [] n := by
  unfold shV
  rw [List.nil_append, List.length_nil, Nat.sub_zero, fl2_rep]
  unfold madeCells
  simp only [List.eq_replicate_iff]
  refine ⟨by simp, fun b hb => ?_⟩
  simp only [Array.toList_map, List.mem_map] at hb
  simp at hb
  obtain ⟨x, _, rfl⟩ := hb
  rcases Nat.mod_two_eq_zero_or_one x with h | h <;> simp [h]
def RetShp (r : Option (List (Int × Int))) (w : World) (e : Ending) (w' : World) : Prop := match r with
  | some l => ∃ a, e = .returned (.tuple #[.slice (some ⟨a, 0, none⟩) l.length l.length, .bool true]) ∧ w'.ownsRow w.heap.size 66 2 (.slice (some ⟨a, 0, none⟩) l.length l.length) l.length (shV l l.length) ∧ Below w.heap.size w w'
  | none => e = .returned (.tuple #[.slice none 0 0, .bool false]) ∧ Below w.heap.size w w'
theorem x_behind (bx k : Nat) (x : Int) (w : World) (q : w.cell? ⟨bx, 0, none⟩ = some (.int .i64 k)) : Calls Try.prog 54 (#[.int .i64 x] ++ #[.pointer (some ⟨bx, 0, none⟩)]) w fun e w' => e = .returned (.bool (behind k x)) ∧ w = w' := by
  show Calls Try.prog 54 #[.int .i64 x, .pointer (some ⟨bx, 0, none⟩)] _ _
  by_cases h1 : 0 ≤ x
  · rw [show behind k x = decide (x < (k : Int)) by simp [behind, h1]]
    go_enter Try.func54, Try.ntmps54
    go_wp2_with fail
    go_ret
    exact ⟨rfl, rfl⟩
  · rw [show behind k x = false by simp [behind, h1]]
    go_enter Try.func54, Try.ntmps54
    go_wp2_with fail
    go_ret
    exact ⟨rfl, rfl⟩
theorem shp_store {w : World} {g : Nat} {t : TypeId} {x0 x1 y0 y1 : Value} (h : Blk w g t #[x0, x1]) : Blk ((w.setCell ⟨g, 0, none⟩ y0).setCell ⟨g, 1, none⟩ y1) g t #[y0, y1] ∧ w.grownBy ((w.setCell ⟨g, 0, none⟩ y0).setCell ⟨g, 1, none⟩ y1) (some g) := by
  constructor
  · unfold Blk at h ⊢
    simp [World.setCell, Array.getElem?_modify, h]
  · have st : ∀ (w : World) (i : Nat) (u : Value), w.grownBy (w.setCell ⟨g, i, none⟩ u) (some g) := fun w i u =>
      ⟨rfl, rfl, rfl, by simp, fun k _ hk => by
        have hne : ¬ g = k := fun e => hk (by rw [e])
        simp [World.setCell, Array.getElem?_modify, hne]⟩
    exact grown_set (st w 0 y0) (st _ 1 y1)
def ShRel (ls : List TpA) (n : Nat) (w : World) (i : Value) (wr : World) : Prop :=
  ∃ (k : Nat) (l : List (Int × Int)), k ≤ n ∧ i = .int .i64 k ∧ shUp (ls.map TpA.p) k = some l ∧ wr.ownsRow w.heap.size 66 2 (.slice (some ⟨w.heap.size, 0, none⟩) n n) n (shV l n) ∧ Below w.heap.size w wr
set_option maxRecDepth 20000 in
set_option maxHeartbeats 8000000 in
theorem c_shapesOf (g : Option Addr) (cap : Nat) (ls : List TpA) (w : World) (h : TpsAt w g ls.length cap ls) : Calls Try.prog 33 #[.slice g ls.length cap] w (RetShp (vShapes (ls.map TpA.p)) w) := by
  obtain ⟨n, hn⟩ : ∃ n, ls.length = n := ⟨_, rfl⟩
  have hmax : n ≤ 9223372036854775807 := by have h1 := h.2.1; have h2 := h.2.2.1; unfold maxLen at h2; omega
  have H := Lib.hid h
  have HN := Lib.hid hn
  by_cases h1 : 1 ≤ n
  case neg =>
    rw [show vShapes (ls.map TpA.p) = none by unfold vShapes; rw [List.length_map, hn, if_neg (by simp; omega)]]
    rw [hn]
    have h1' : (n : Int) < 1 := by omega
    clear h hn h1
    go_enter Try.func33, Try.ntmps33
    go_wp2_with fail
    go_ret2
    exact ⟨rfl, Below.refl _ _⟩
  case pos =>
  by_cases h2 : n ≤ 48
  case neg =>
    rw [show vShapes (ls.map TpA.p) = none by unfold vShapes; rw [List.length_map, hn, if_neg (by simp; omega)]]
    rw [hn]
    have h1' : ¬ (n : Int) < 1 := by omega
    have h2' : (n : Int) > 48 := by omega
    clear h hn h1 h2
    go_enter Try.func33, Try.ntmps33
    go_wp2_with fail
    go_ret2
    exact ⟨rfl, Below.refl _ _⟩
  case pos =>
  rw [show vShapes (ls.map TpA.p) = shUp (ls.map TpA.p) n by unfold vShapes; rw [List.length_map, hn, if_pos (by simp; omega)]]
  rw [hn]
  have h1' : ¬ (n : Int) < 1 := by omega
  have h2' : ¬ (n : Int) > 48 := by omega
  obtain ⟨i0, hi, hz0, hz1, hz2⟩ := info_parts info_shp
  have HI := Lib.hid hi
  have HZ0 := Lib.hid hz0
  have HZ1 := Lib.hid hz1
  have HZ2 := Lib.hid hz2
  clear h hn hi hz0 hz1 hz2
  go_enter Try.func33, Try.ntmps33
  go_wp2_with (at_make; refine wpList_make_full _ rfl _ _ 58 rfl w.heap.size 66 i0 (.agg #[.int .i64 0, .int .i64 0]) 2 Try.underlying58 HI.out HZ0.out HZ1.out _ _ _ _ n rfl rfl rfl rfl ?c1 ?c2 ?c3 ?_)
  case c1 => rw [HZ2.out]; omega
  case c2 => unfold maxLen; omega
  intro w1 hown hgrow
  have hb1 : Below w.heap.size w w1 := (Below.refl _ _).grown hgrow (Nat.le_refl _) (fun k h => by cases h)
  have HO := Lib.hid (show w1.ownsRow w.heap.size 66 2 (.slice (some ⟨w.heap.size, 0, none⟩) n n) n (shV [] n) by rw [← madeShape]; exact hown)
  have HB := Lib.hid hb1
  clear hown hb1 hgrow
  go_wp2_with fail
  go_loopw [23] (fun i wr => ShRel ls n w i wr) (fun i _ => n - (intOf i).toNat)
  case atStart => exact ⟨0, [], Nat.zero_le _, rfl, rfl, HO.out, HB.out⟩
  case round =>
    obtain ⟨k, l, hk, rfl, hu, ho, hb⟩ := hrel
    have HU := Lib.hid hu
    have HLN := Lib.hid (shUp_len hu)
    have HO2 := Lib.hid ho
    have HB2 := Lib.hid hb
    have hk0 : (0 : Int) ≤ (k : Int) := by omega
    clear hu ho hb
    by_cases hlt : k < n
    · have hlt' : (k : Int) < (n : Int) := by omega
      have hat := H.out.kept HB2.out
      rw [HN.out] at hat
      obtain ⟨b, off, kd, xa, xb, nu, rw, cl, zd, a0, c0, rfl, hbk, hx, q0, q1, q2, q3, q4, q5, q6, fx, f0⟩ := hat.one hlt
      have hzl : zd.length ≤ 9223372036854775807 := by have h1 := f0.1; have h2 := f0.2.1; unfold maxLen at h2; omega
      have HX := Lib.hid (show (ls.map TpA.p)[k]? = some ⟨kd, xa, xb, nu, rw, cl, zd⟩ by simp [hx])
      have HZL := Lib.hid hzl
      clear hat hx fx f0 hzl
      go_upto_region 8 with fail
      have bN := (Below.refl wr.heap.size wr).alloc (Nat.le_refl _) (.cells #[.int .i64 k] 3)
      have bP := (Below.refl (wr.alloc (.cells #[.int .i64 k] 3)).heap.size (wr.alloc (.cells #[.int .i64 k] 3))).alloc (Nat.le_refl _) (.cells #[.int .i64 kd, .int .i64 xa, .int .i64 xb, .float .f32 nu, .int .i64 rw, .int .i64 cl, .slice a0 zd.length c0] 56)
      have kN := (Blk.new wr 3 #[.int .i64 k]).below bP
      have kP := Blk.new (wr.alloc (.cells #[.int .i64 k] 3)) 56 #[.int .i64 kd, .int .i64 xa, .int .i64 xb, .float .f32 nu, .int .i64 rw, .int .i64 cl, .slice a0 zd.length c0]
      simp only [World.size_alloc] at kP
      have bb := Below.next bN bP
      have N0 := Lib.hid kN
      have P0 := Lib.hid kP
      have R0 := Lib.hid (row_kept HO2.out bb)
      have B0 := Lib.hid bb
      clear bN bP kN kP bb q0 q1 q2 q3 q4 q5 q6
      generalize (wr.alloc (.cells #[.int .i64 k] 3)).alloc (.cells #[.int .i64 kd, .int .i64 xa, .int .i64 xb, .float .f32 nu, .int .i64 rw, .int .i64 cl, .slice a0 zd.length c0] 56) = u0 at N0 P0 R0 B0 ⊢
      obtain ⟨p0, p1, p2, p3, p4, p5, p6, pl⟩ := P0.out.tpbox
      go_wp2_with fail
      obtain ⟨z, hz⟩ : ∃ z, othersZ kd xa xb nu rw cl zd.length = z := ⟨_, rfl⟩
      have hc := c_hasOthersZero kd xa xb nu rw cl a0 zd.length c0 u0 HZL.out
      rw [hz] at hc
      refine hc.mono ?_
      rintro e u1 ⟨rfl, bl⟩
      have N1 := Lib.hid (N0.out.below bl)
      have P1 := Lib.hid (P0.out.below bl)
      have R1 := Lib.hid (row_kept R0.out bl)
      have B1 := Lib.hid (Below.next B0.out bl)
      clear hc bl p0 p1 p2 p3 p4 p5 p6 pl N0 P0 R0 B0
      obtain ⟨p0, p1, p2, p3, p4, p5, p6, pl⟩ := P1.out.tpbox
      have HZ := Lib.hid hz
      clear hz
      cases z with
      | false =>
        have HNO := Lib.hid (shUp_none (shUp_stop HU.out HX.out (by unfold opShape; simp only; rw [HZ.out]; rfl)) n (by omega))
        go_wp2_with fail
        go_ret2
        rw [HNO.out]
        exact ⟨rfl, Below.next HB2.out B1.out⟩
      | true =>
        go_wp2_with fail
        refine (c_operands kd xa xb nu rw cl a0 zd.length c0 u1).mono ?_
        rintro e u2 ⟨oa, oc, rfl, ho, bl⟩
        have HOP := Lib.hid (rowI_own ho)
        have N2 := Lib.hid (N1.out.below bl)
        have P2 := Lib.hid (P1.out.below bl)
        have R2 := Lib.hid (row_kept R1.out bl)
        have B2 := Lib.hid (Below.next B1.out bl)
        clear ho bl p0 p1 p2 p3 p4 p5 p6 pl N1 P1 R1 B1
        obtain ⟨v, hv⟩ : ∃ v, (opsOf kd xa xb).all (behind k) = v := ⟨_, rfl⟩
        have hc := c_isAllR 54 #[.pointer (some ⟨wr.heap.size, 0, none⟩)] (behind k) oa _ oc _ u2 HOP.out (enters_of Try.func54 (by kernel_rfl) (by kernel_rfl)) (fun x wr' hb _ => x_behind wr.heap.size k x wr' ((N2.out.below hb).cell 0))
        rw [hv] at hc
        go_wp2_with fail
        refine hc.mono ?_
        rintro e u3 ⟨rfl, bl⟩
        have N3 := Lib.hid (N2.out.below bl)
        have P3 := Lib.hid (P2.out.below bl)
        have R3 := Lib.hid (row_kept R2.out bl)
        have B3 := Lib.hid (Below.next B2.out bl)
        have HV := Lib.hid hv
        clear hc bl hv N2 P2 R2 B2 HOP
        cases v with
        | false =>
          have HNO := Lib.hid (shUp_none (shUp_stop HU.out HX.out (by unfold opShape; simp only; rw [HZ.out, HLN.out, HV.out]; rfl)) n (by omega))
          go_wp2_with fail
          go_ret2
          rw [HNO.out]
          exact ⟨rfl, Below.next HB2.out B3.out⟩
        | true =>
          have hr := op_range (p := ⟨kd, xa, xb, nu, rw, cl, zd⟩) hlt (by simp only; rw [HZ.out, HV.out]; rfl)
          simp only at hr
          obtain ⟨⟨r1, r2⟩, r3, r4⟩ := hr
          obtain ⟨XA, rfl⟩ := Int.eq_ofNat_of_zero_le r1
          obtain ⟨XB, rfl⟩ := Int.eq_ofNat_of_zero_le r3
          have HLK := HLN.out
          obtain ⟨s1, s2⟩ := shV_get (l := l) (n := n) (j := XA) (by omega) (by omega)
          obtain ⟨s3, s4⟩ := shV_get (l := l) (n := n) (j := XB) (by omega) (by omega)
          obtain ⟨⟨va1, va2⟩, hva⟩ : ∃ s, l.getD XA (0, 0) = s := ⟨_, rfl⟩
          obtain ⟨⟨vb1, vb2⟩, hvb⟩ : ∃ s, l.getD XB (0, 0) = s := ⟨_, rfl⟩
          rw [hva] at s1 s2
          rw [hvb] at s3 s4
          have CEL := Lib.hid (fun (W : World) (hr : W.ownsRow w.heap.size 66 2 (.slice (some ⟨w.heap.size, 0, none⟩) n n) n (shV l n)) => And.intro ((hr.cellAt (XA * 2) (by omega)).trans s1) (And.intro ((hr.cellAt (XA * 2 + 1) (by omega)).trans s2) (And.intro ((hr.cellAt (XB * 2) (by omega)).trans s3) ((hr.cellAt (XB * 2 + 1) (by omega)).trans s4))))
          obtain ⟨⟨⟨t1, t2⟩, ok⟩, hsa⟩ : ∃ s, shapeA kd rw cl zd.length (va1, va2) (vb1, vb2) = s := ⟨_, rfl⟩
          have HSA := Lib.hid (fun W => (show Calls Try.prog 57 #[.agg #[.int .i64 kd, .int .i64 XA, .int .i64 XB, .float .f32 nu, .int .i64 rw, .int .i64 cl, .slice a0 zd.length c0], .agg #[.int .i64 va1, .int .i64 va2], .agg #[.int .i64 vb1, .int .i64 vb2]] W (fun e w' => e = .returned (.tuple #[.agg #[.int .i64 t1, .int .i64 t2], .bool ok]) ∧ Below W.heap.size W w') by have hq := c_shapeAfter kd XA XB nu rw cl a0 zd.length c0 va1 va2 vb1 vb2 W HZL.out; rw [hsa] at hq; exact hq))
          have HOS := Lib.hid (show opShape ⟨kd, XA, XB, nu, rw, cl, zd⟩ l = if ok = true then some (t1, t2) else none by
            unfold opShape
            simp only [Int.toNat_natCast]
            rw [HZ.out, HLK, HV.out, hva, hvb, hsa]
            rfl)
          clear s1 s2 s3 s4 hva hvb hsa r1 r3 HLK
          obtain ⟨c1, c2, c3, c4⟩ := CEL.out _ R3.out
          obtain ⟨p0, p1, p2, p3, p4, p5, p6, pl⟩ := P3.out.tpbox
          have HS3 := Lib.hid (show wr.heap.size ≤ u3.heap.size from B3.out.size)
          cases ok with
          | false =>
            have HNO := Lib.hid (shUp_none (shUp_stop HU.out HX.out (by rw [HOS.out]; rfl)) n (by omega))
            go_wp2_with fail
            go_region_held3 (fun w' => w'.cell? ⟨wr.heap.size + 1, 0, none⟩ = some (.int .i64 kd) ∧ w'.cell? ⟨wr.heap.size + 1, 1, none⟩ = some (.int .i64 XA) ∧ w'.cell? ⟨wr.heap.size + 1, 2, none⟩ = some (.int .i64 XB) ∧ w'.cell? ⟨wr.heap.size + 1, 3, none⟩ = some (.float .f32 nu) ∧ w'.cell? ⟨wr.heap.size + 1, 4, none⟩ = some (.int .i64 rw) ∧ w'.cell? ⟨wr.heap.size + 1, 5, none⟩ = some (.int .i64 cl) ∧ w'.cell? ⟨wr.heap.size + 1, 6, none⟩ = some (.slice a0 zd.length c0) ∧ w'.cell? ⟨w.heap.size, XA * 2, none⟩ = some (.int .i64 va1) ∧ w'.cell? ⟨w.heap.size, XA * 2 + 1, none⟩ = some (.int .i64 va2) ∧ w'.cell? ⟨w.heap.size, XB * 2, none⟩ = some (.int .i64 vb1) ∧ w'.cell? ⟨w.heap.size, XB * 2 + 1, none⟩ = some (.int .i64 vb2)) (go_keep)
              (first
                | (go_at_call 57
                   refine (HSA.out u3.drew).mono ?_
                   rintro e u4 ⟨rfl, bl⟩
                   have WAYA := Lib.hid trivial
                   have bb := Below.next ((Below.refl u3.heap.size u3).drew) bl
                   have N4 := Lib.hid (N3.out.below bb)
                   have P4 := Lib.hid (P3.out.below bb)
                   have R4 := Lib.hid (row_kept R3.out bb)
                   have B4 := Lib.hid (Below.next B3.out bb)
                   clear bl bb p0 p1 p2 p3 p4 p5 p6 pl c1 c2 c3 c4
                   obtain ⟨p0, p1, p2, p3, p4, p5, p6, pl⟩ := P4.out.tpbox
                   obtain ⟨c1, c2, c3, c4⟩ := CEL.out u4 R4.out)
                | (go_at_call 57
                   refine (HSA.out (u3.alloc (.cells #[.int .i64 0, .int .i64 0] 66)).drew).mono ?_
                   rintro e u4 ⟨rfl, bl⟩
                   have bb := Below.next (((Below.refl u3.heap.size u3).alloc (Nat.le_refl _) (.cells #[.int .i64 0, .int .i64 0] 66)).drew) bl
                   have kz := (((Blk.new u3 66 #[.int .i64 0, .int .i64 0]).below ((Below.refl _ _).drew)).below bl)
                   have WAYB := Lib.hid kz
                   have N4 := Lib.hid (N3.out.below bb)
                   have P4 := Lib.hid (P3.out.below bb)
                   have R4 := Lib.hid (row_kept R3.out bb)
                   have B4 := Lib.hid (Below.next B3.out bb)
                   obtain ⟨z0, z1, zl⟩ := tpb2 kz
                   have e0 := kz.frozen 0
                   have e1 := kz.frozen 1
                   have m1 := Lib.hid R3.out
                   have ne1 : ¬ u3.heap.size = wr.heap.size + 1 := by have := P3.out.lt; omega
                   have ne1' : ¬ wr.heap.size + 1 = u3.heap.size := by omega
                   have h9 : w.heap.size < u3.heap.size := (R3.out.lt _ rfl).2
                   have ne2 : ¬ u3.heap.size = w.heap.size := by omega
                   have ne2' : ¬ w.heap.size = u3.heap.size := by omega
                   clear bl bb kz p0 p1 p2 p3 p4 p5 p6 pl c1 c2 c3 c4 m1
                   obtain ⟨p0, p1, p2, p3, p4, p5, p6, pl⟩ := P4.out.tpbox
                   obtain ⟨c1, c2, c3, c4⟩ := CEL.out u4 R4.out))
            all_goals
              go_wp2_with fail
              go_ret2
              rw [HNO.out]
              refine ⟨rfl, Below.next HB2.out ?_⟩
              repeat (first | exact B4.out | refine Below.drew ?_ | refine Below.setCell ?_ HS3.out _ | refine Below.alloc ?_ (by have := B4.out.size; first | omega | (simp; omega)) _)
          | true =>
            have HNX := Lib.hid (shUp_next HU.out HX.out (by rw [HOS.out]; rfl))
            go_wp2_with fail
            go_region_held3 (fun w' => w'.cell? ⟨wr.heap.size + 1, 0, none⟩ = some (.int .i64 kd) ∧ w'.cell? ⟨wr.heap.size + 1, 1, none⟩ = some (.int .i64 XA) ∧ w'.cell? ⟨wr.heap.size + 1, 2, none⟩ = some (.int .i64 XB) ∧ w'.cell? ⟨wr.heap.size + 1, 3, none⟩ = some (.float .f32 nu) ∧ w'.cell? ⟨wr.heap.size + 1, 4, none⟩ = some (.int .i64 rw) ∧ w'.cell? ⟨wr.heap.size + 1, 5, none⟩ = some (.int .i64 cl) ∧ w'.cell? ⟨wr.heap.size + 1, 6, none⟩ = some (.slice a0 zd.length c0) ∧ w'.cell? ⟨w.heap.size, XA * 2, none⟩ = some (.int .i64 va1) ∧ w'.cell? ⟨w.heap.size, XA * 2 + 1, none⟩ = some (.int .i64 va2) ∧ w'.cell? ⟨w.heap.size, XB * 2, none⟩ = some (.int .i64 vb1) ∧ w'.cell? ⟨w.heap.size, XB * 2 + 1, none⟩ = some (.int .i64 vb2)) (go_keep)
              (first
                | (go_at_call 57
                   refine (HSA.out u3.drew).mono ?_
                   rintro e u4 ⟨rfl, bl⟩
                   have WAYA := Lib.hid trivial
                   have bb := Below.next ((Below.refl u3.heap.size u3).drew) bl
                   have N4 := Lib.hid (N3.out.below bb)
                   have P4 := Lib.hid (P3.out.below bb)
                   have R4 := Lib.hid (row_kept R3.out bb)
                   have B4 := Lib.hid (Below.next B3.out bb)
                   clear bl bb p0 p1 p2 p3 p4 p5 p6 pl c1 c2 c3 c4
                   obtain ⟨p0, p1, p2, p3, p4, p5, p6, pl⟩ := P4.out.tpbox
                   obtain ⟨c1, c2, c3, c4⟩ := CEL.out u4 R4.out)
                | (go_at_call 57
                   refine (HSA.out (u3.alloc (.cells #[.int .i64 0, .int .i64 0] 66)).drew).mono ?_
                   rintro e u4 ⟨rfl, bl⟩
                   have bb := Below.next (((Below.refl u3.heap.size u3).alloc (Nat.le_refl _) (.cells #[.int .i64 0, .int .i64 0] 66)).drew) bl
                   have kz := (((Blk.new u3 66 #[.int .i64 0, .int .i64 0]).below ((Below.refl _ _).drew)).below bl)
                   have WAYB := Lib.hid kz
                   have N4 := Lib.hid (N3.out.below bb)
                   have P4 := Lib.hid (P3.out.below bb)
                   have R4 := Lib.hid (row_kept R3.out bb)
                   have B4 := Lib.hid (Below.next B3.out bb)
                   obtain ⟨z0, z1, zl⟩ := tpb2 kz
                   have e0 := kz.frozen 0
                   have e1 := kz.frozen 1
                   have m1 := Lib.hid R3.out
                   have ne1 : ¬ u3.heap.size = wr.heap.size + 1 := by have := P3.out.lt; omega
                   have ne1' : ¬ wr.heap.size + 1 = u3.heap.size := by omega
                   have h9 : w.heap.size < u3.heap.size := (R3.out.lt _ rfl).2
                   have ne2 : ¬ u3.heap.size = w.heap.size := by omega
                   have ne2' : ¬ w.heap.size = u3.heap.size := by omega
                   clear bl bb kz p0 p1 p2 p3 p4 p5 p6 pl c1 c2 c3 c4 m1
                   obtain ⟨p0, p1, p2, p3, p4, p5, p6, pl⟩ := P4.out.tpbox
                   obtain ⟨c1, c2, c3, c4⟩ := CEL.out u4 R4.out))
            · first | clear WAYA | skip
              go_upto_region 13 with fail
              have ba := (Below.refl u4.heap.size u4).alloc (Nat.le_refl _) (.cells #[.int .i64 t1, .int .i64 t2] 66)
              have S5 := Lib.hid (Blk.new u4 66 #[.int .i64 t1, .int .i64 t2])
              have N5 := Lib.hid (N4.out.below ba)
              have R5 := Lib.hid (row_kept R4.out ba)
              have B5 := Lib.hid (Below.next B4.out ba)
              clear ba p0 p1 p2 p3 p4 p5 p6 pl c1 c2 c3 c4
              generalize u4.alloc (.cells #[.int .i64 t1, .int .i64 t2] 66) = u5 at S5 N5 R5 B5 ⊢
              obtain ⟨n0, nl⟩ := tb1 N5.out
              obtain ⟨s0, s1, sl⟩ := tpb2 S5.out
              obtain ⟨f0, v0, g0⟩ := row_cell R5.out (k * 2) (by omega)
              obtain ⟨f1, v1, g1⟩ := row_cell R5.out (k * 2 + 1) (by omega)
              go_wp2_with fail
              clear n0 nl s0 s1 sl f0 g0 f1 g1
              go_roundw
              case rel =>
                have hl := HLN.out
                have o2 := (((R5.out.stored (k * 2) (.int .i64 t1)).1).stored (k * 2 + 1) (.int .i64 t2)).1
                have e := shV_set (l := l) (n := n) (by omega) (t1, t2)
                rw [hl] at e
                simp only at e
                rw [e] at o2
                exact ⟨k + 1, l ++ [(t1, t2)], by omega, by go_num, HNX.out, o2, ((Below.next HB2.out B5.out).setCell (p := ⟨w.heap.size, _, none⟩) (Nat.le_refl _) _).setCell (p := ⟨w.heap.size, _, none⟩) (Nat.le_refl _) _⟩
              case measure => simp [intOf]; omega
            · go_upto_region 13 with fail
              obtain ⟨hk5, hg5⟩ := shp_store WAYB.out (y0 := .int .i64 t1) (y1 := .int .i64 t2)
              have S5 := Lib.hid hk5
              have N5 := Lib.hid (N4.out.off hg5 (by have := N3.out.lt; omega))
              have R5 := Lib.hid (R4.out.kept (row := some u3.heap.size) hg5 (.inr (by simp [Value.ownBlock]; exact ne2')))
              have B5 := Lib.hid (Below.at_ B4.out hg5 HS3.out)
              clear hk5 hg5 p0 p1 p2 p3 p4 p5 p6 pl c1 c2 c3 c4 z0 z1 zl e0 e1
              generalize (u4.setCell ⟨u3.heap.size, 0, none⟩ (.int .i64 t1)).setCell ⟨u3.heap.size, 1, none⟩ (.int .i64 t2) = u5 at S5 N5 R5 B5 ⊢
              obtain ⟨n0, nl⟩ := tb1 N5.out
              obtain ⟨s0, s1, sl⟩ := tpb2 S5.out
              obtain ⟨f0, v0, g0⟩ := row_cell R5.out (k * 2) (by omega)
              obtain ⟨f1, v1, g1⟩ := row_cell R5.out (k * 2 + 1) (by omega)
              go_wp2_with fail
              clear n0 nl s0 s1 sl f0 g0 f1 g1
              go_roundw
              case rel =>
                have hl := HLN.out
                have o2 := (((R5.out.stored (k * 2) (.int .i64 t1)).1).stored (k * 2 + 1) (.int .i64 t2)).1
                have e := shV_set (l := l) (n := n) (by omega) (t1, t2)
                rw [hl] at e
                simp only at e
                rw [e] at o2
                exact ⟨k + 1, l ++ [(t1, t2)], by omega, by go_num, HNX.out, o2, ((Below.next HB2.out B5.out).setCell (p := ⟨w.heap.size, _, none⟩) (Nat.le_refl _) _).setCell (p := ⟨w.heap.size, _, none⟩) (Nat.le_refl _) _⟩
              case measure => simp [intOf]; omega
    · have hlt' : ¬ (k : Int) < (n : Int) := by omega
      obtain rfl : k = n := by omega
      go_wp2_with fail
      go_ret2
      rw [HU.out]
      have ho := HO2.out
      have hl := HLN.out
      exact ⟨w.heap.size, by rw [hl]; rfl, by rw [hl]; exact ho, HB2.out⟩
end Go.Proofs.Ytdgoladbkaldkaa
