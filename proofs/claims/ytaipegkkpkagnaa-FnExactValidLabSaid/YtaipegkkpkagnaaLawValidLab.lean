/-
  ValidLab answers as its model. Conditions: none; a lab over the laws' own bound is passed over by the law itself.
-/
import Derived.Test.YtaipegkkpkagnaaCls
import Derived.Test.YtaipegkkpkagnaaLbs
import Derived.Test.YtaipegkkpkagnaaLbc
import Derived.ChangeOld
import Derived.Below
namespace Go.Proofs.Ytaipegkkpkagnaa.fnExactValidLab
open Go.ChangeShapes Go.WideShapes Go.ChangeAt Go.RowKit
open Go.ChangeMaps (open_string shut_string)
set_option linter.unusedVariables false

set_option maxHeartbeats 4000000 in
set_option maxRecDepth 100000 in
theorem core (x : LabA) (w : World) (hx : LabAt w x) (hL : labSum x ≤ 1048576) : Calls Try.prog 3 #[.agg x.cells] w fun e w' => e = .returned (.bool true) ∧ Below w.heap.size w w' := by
  obtain ⟨l, hl⟩ : ∃ l, 1048576 - labSum x = l := ⟨_, rfl⟩
  obtain ⟨b, hb0⟩ : ∃ b, vLab x = b := ⟨_, rfl⟩
  have d0 := fun (W : World) (hb : Below w.heap.size w W) => c_szLab x 1048576 l W (hx.kept hb) (Nat.le_refl _) hL hl
  have dt := fun (W : World) (hb : Below w.heap.size w W) => c_toLab x W (hx.kept hb) hL
  have ds := fun (y : LabA) (W : World) (hy : LabAt W y) (he : LabEq y x) => (show Calls Try.prog 13 #[.agg y.cells] W (RetB b W) by rw [← hb0, ← vLab_of he]; exact t_sValidLab y W hy)
  have di := fun (y : LabA) (W : World) (hy : LabAt W y) (he : LabEq y x) => (show Calls Try.prog 15 #[.agg y.cells] W (RetB b W) by rw [← hb0, ← vLab_of he]; exact t_iValidLab y W hy)
  have hl0 : (0 : Int) ≤ (l : Int) := by omega
  obtain ⟨k, r, b1, b2, ep, er, ec, er2, ec2, ex, ey, ea, eb, eca, ecb, ⟨g, c, ls, h, d, ss, st, sd, sc⟩⟩ := x
  have hbb : (b != b) = false := by simp
  obtain ⟨CS, hCS⟩ : ∃ CS, (#[.int .i64 k, .float .f32 r, .float .f32 b1, .float .f32 b2, .float .f32 ep, .int .i64 er, .int .i64 ec, .slice ea ex.length eca, .int .i64 er2, .int .i64 ec2, .slice eb ey.length ecb, .slice g ls.length c, .slice h ss.length d, .int .i64 st, .int .i64 sd, .float .f32 sc] : Array Value) = CS := ⟨_, rfl⟩
  rw [show LabA.cells ⟨k, r, b1, b2, ep, er, ec, er2, ec2, ex, ey, ea, eb, eca, ecb, ⟨g, c, ls, h, d, ss, st, sd, sc⟩⟩ = CS from hCS] at d0 dt
  have D0 := Lib.hid d0
  have DT := Lib.hid dt
  have DS := Lib.hid ds
  have DI := Lib.hid di
  have HSZ := Lib.hid (show CS.size = 16 by rw [← hCS]; rfl)
  have HCS := Lib.hid hCS
  clear d0 dt ds di hl hL hx hb0 hCS
  unfold LabA.cells
  simp only
  go_enter Try.func3, Try.ntmps3
  go_upto_region 2 with fail
  have K0 := Lib.hid (Blk.new w 37 #[.int .i64 k, .float .f32 r, .float .f32 b1, .float .f32 b2, .float .f32 ep, .int .i64 er, .int .i64 ec, .slice ea ex.length eca, .int .i64 er2, .int .i64 ec2, .slice eb ey.length ecb, .slice g ls.length c, .slice h ss.length d, .int .i64 st, .int .i64 sd, .float .f32 sc])
  have B0 := Lib.hid ((Below.refl w.heap.size w).alloc (Nat.le_refl _) (.cells #[.int .i64 k, .float .f32 r, .float .f32 b1, .float .f32 b2, .float .f32 ep, .int .i64 er, .int .i64 ec, .slice ea ex.length eca, .int .i64 er2, .int .i64 ec2, .slice eb ey.length ecb, .slice g ls.length c, .slice h ss.length d, .int .i64 st, .int .i64 sd, .float .f32 sc] 37))
  generalize w.alloc (.cells #[.int .i64 k, .float .f32 r, .float .f32 b1, .float .f32 b2, .float .f32 ep, .int .i64 er, .int .i64 ec, .slice ea ex.length eca, .int .i64 er2, .int .i64 ec2, .slice eb ey.length ecb, .slice g ls.length c, .slice h ss.length d, .int .i64 st, .int .i64 sd, .float .f32 sc] 37) = w1 at B0 K0 ⊢
  rw [HCS.out] at K0 ⊢
  go_wp2_with (refine wpList_load_row rfl 37 (.tmp 1) rfl (w.heap.size) rfl 37 CS _ _ K0.out Try.underlying37 rfl (by rw [HSZ.out]; kernel_rfl) ?_)
  refine (D0.out _ B0.out).mono ?_
  rintro e w2 ⟨rfl, hb⟩
  have K2 := Lib.hid (K0.out.below hb)
  have B2 := Lib.hid (Below.next B0.out hb)
  clear hb
  go_wp2_with (refine wpList_load_row rfl 37 (.tmp 1) rfl (w.heap.size) rfl 37 CS _ _ K2.out Try.underlying37 rfl (by rw [HSZ.out]; kernel_rfl) ?_)
  refine (DT.out _ B2.out).mono ?_
  rintro e w3 ⟨y1, rfl, he1, ha1, hb⟩
  have HE1 := Lib.hid he1
  have HA1 := Lib.hid ha1
  clear he1 ha1
  have K3 := Lib.hid (K2.out.below hb)
  have B3 := Lib.hid (Below.next B2.out hb)
  clear hb
  obtain ⟨Y1, hY1⟩ : ∃ Y, y1.cells = Y := ⟨_, rfl⟩
  have d1 := DS.out y1 _ HA1.out HE1.out
  rw [hY1] at d1 ⊢
  have D1 := Lib.hid d1
  clear d1 hY1
  go_wp2_with fail
  refine D1.out.mono ?_
  rintro e w4 ⟨rfl, hb⟩
  have K4 := Lib.hid (K3.out.below hb)
  have B4 := Lib.hid (Below.next B3.out hb)
  clear hb
  go_wp2_with (refine wpList_load_row rfl 37 (.tmp 1) rfl (w.heap.size) rfl 37 CS _ _ K4.out Try.underlying37 rfl (by rw [HSZ.out]; kernel_rfl) ?_)
  refine (DT.out _ B4.out).mono ?_
  rintro e w5 ⟨y2, rfl, he2, ha2, hb⟩
  have HE2 := Lib.hid he2
  have HA2 := Lib.hid ha2
  clear he2 ha2
  have K5 := Lib.hid (K4.out.below hb)
  have B5 := Lib.hid (Below.next B4.out hb)
  clear hb
  unfold LabA.cells
  go_upto_region 7 with fail
  have ba := (Below.refl w5.heap.size w5).alloc (Nat.le_refl _) (.cells #[.int .i64 y2.k, .float .f32 y2.r, .float .f32 y2.b1, .float .f32 y2.b2, .float .f32 y2.ep, .int .i64 y2.er, .int .i64 y2.ec, .slice y2.ea y2.ex.length y2.eca, .int .i64 y2.er2, .int .i64 y2.ec2, .slice y2.eb y2.ey.length y2.ecb, .slice y2.q.g y2.q.ls.length y2.q.c, .slice y2.q.h y2.q.ss.length y2.q.d, .int .i64 y2.q.st, .int .i64 y2.q.sd, .float .f32 y2.q.sc] 50)
  have X6 := Lib.hid (Blk.new w5 50 #[.int .i64 y2.k, .float .f32 y2.r, .float .f32 y2.b1, .float .f32 y2.b2, .float .f32 y2.ep, .int .i64 y2.er, .int .i64 y2.ec, .slice y2.ea y2.ex.length y2.eca, .int .i64 y2.er2, .int .i64 y2.ec2, .slice y2.eb y2.ey.length y2.ecb, .slice y2.q.g y2.q.ls.length y2.q.c, .slice y2.q.h y2.q.ss.length y2.q.d, .int .i64 y2.q.st, .int .i64 y2.q.sd, .float .f32 y2.q.sc])
  have K6 := Lib.hid (K5.out.below ba)
  have B6 := Lib.hid (Below.next B5.out ba)
  have HA6 := Lib.hid (HA2.out.kept ba)
  clear ba
  generalize w5.alloc (.cells #[.int .i64 y2.k, .float .f32 y2.r, .float .f32 y2.b1, .float .f32 y2.b2, .float .f32 y2.ep, .int .i64 y2.er, .int .i64 y2.ec, .slice y2.ea y2.ex.length y2.eca, .int .i64 y2.er2, .int .i64 y2.ec2, .slice y2.eb y2.ey.length y2.ecb, .slice y2.q.g y2.q.ls.length y2.q.c, .slice y2.q.h y2.q.ss.length y2.q.d, .int .i64 y2.q.st, .int .i64 y2.q.sd, .float .f32 y2.q.sc] 50) = w6 at X6 K6 B6 HA6 ⊢
  obtain ⟨YS, hYS⟩ : ∃ Y, (#[.int .i64 y2.k, .float .f32 y2.r, .float .f32 y2.b1, .float .f32 y2.b2, .float .f32 y2.ep, .int .i64 y2.er, .int .i64 y2.ec, .slice y2.ea y2.ex.length y2.eca, .int .i64 y2.er2, .int .i64 y2.ec2, .slice y2.eb y2.ey.length y2.ecb, .slice y2.q.g y2.q.ls.length y2.q.c, .slice y2.q.h y2.q.ss.length y2.q.d, .int .i64 y2.q.st, .int .i64 y2.q.sd, .float .f32 y2.q.sc] : Array Value) = Y := ⟨_, rfl⟩
  have hY2 : y2.cells = YS := hYS
  have d6 := DI.out y2 w6 HA6.out HE2.out
  rw [hY2] at d6
  have D6 := Lib.hid d6
  have HY2 := Lib.hid hY2
  have HSY := Lib.hid (show YS.size = 16 by rw [← hYS]; rfl)
  rw [hYS] at X6 ⊢
  clear d6 hY2 hYS
  go_wp2_with (refine wpList_load_row rfl 50 (.tmp 5) rfl (w5.heap.size) rfl 50 YS _ _ X6.out Try.underlying50 rfl (by rw [HSY.out]; kernel_rfl) ?_)
  refine D6.out.mono ?_
  rintro e w7 ⟨rfl, hb⟩
  have K7 := Lib.hid (K6.out.below hb)
  have X7 := Lib.hid (X6.out.below hb)
  have B7 := Lib.hid (Below.next B6.out hb)
  have HA7 := Lib.hid (HA6.out.kept hb)
  clear hb
  go_wp2_with fail
  have hb : Below w7.heap.size w7 w7.drew := (Below.refl _ _).drew
  have K8 := Lib.hid (K7.out.below hb)
  have X8 := Lib.hid (X7.out.below hb)
  have B8 := Lib.hid (Below.next B7.out hb)
  have HA8 := Lib.hid (HA7.out.kept hb)
  clear hb
  refine wp_region_any (by kernel_rfl) ?_
  try (change wpAny _ _ _ _ _ _ _ (World.drew _))
  refine wpAny_ready (rs := [0, 1]) (by kernel_rfl) (by simp) ?_
  refine AllReady.cons rfl (fun K hK => ?_) ?_
  · skip
    rw [if_pos (by simp [Region.wanted])]
    refine wp_load_row 50 (.tmp 5) rfl (w5.heap.size) rfl 50 YS _ _ X8.out Try.underlying50 rfl (by rw [HSY.out]; kernel_rfl) (hK _ _ ?_)
    clear hK K
    refine wpAny_ready (rs := [1]) (by kernel_rfl) (by simp) ?_
    refine AllReady.cons rfl (fun K hK => ?_) AllReady.nil
    rw [if_pos (by simp [Region.wanted])]
    refine wp_load_row 37 (.tmp 1) rfl (w.heap.size) rfl 37 CS _ _ K8.out Try.underlying37 rfl (by rw [HSZ.out]; kernel_rfl) (hK _ _ ?_)
    clear hK K
    refine wpAny_ready (rs := [2]) (by kernel_rfl) (by simp) ?_
    refine AllReady.cons rfl (fun K hK => ?_) AllReady.nil
    go_simp
    refine (DT.out _ B8.out).mono ?_
    rintro e w9 ⟨y3, rfl, he3, ha3, hb⟩
    have d9 := c_eqLab y2 y3 w9 (HA8.out.kept hb) ha3 (LabEq.trans he3 HE2.out.symm)
    rw [HY2.out] at d9
    obtain ⟨Y3, hY3⟩ : ∃ Y, y3.cells = Y := ⟨_, rfl⟩
    rw [hY3] at d9 ⊢
    have D9 := Lib.hid d9
    have X9 := Lib.hid (X8.out.below hb)
    have B9 := Lib.hid (Below.next B8.out hb)
    clear he3 ha3 hb d9 hY3
    refine hK _ _ ?_
    clear hK K
    refine wpAny_ready (rs := [3]) (by kernel_rfl) (by simp) ?_
    refine AllReady.cons rfl (fun K hK => ?_) AllReady.nil
    go_simp
    refine D9.out.mono ?_
    rintro e w10 ⟨rfl, hb⟩
    have B10 := Lib.hid (Below.next B9.out hb)
    clear hb
    refine hK _ _ ?_
    clear hK K
    refine wpAny_ready (rs := [4]) (by kernel_rfl) (by simp) ?_
    refine AllReady.cons rfl (fun K hK => ?_) AllReady.nil
    go_simp
    refine hK _ _ ?_
    clear hK K
    refine wpAny_done (by kernel_rfl) ?_ _
    go_wp2_with fail
    go_ret
    exact ⟨rfl, B10.out⟩
  refine AllReady.cons rfl (fun K hK => ?_) AllReady.nil
  rw [if_pos (by simp [Region.wanted])]
  refine wp_load_row 37 (.tmp 1) rfl (w.heap.size) rfl 37 CS _ _ K8.out Try.underlying37 rfl (by rw [HSZ.out]; kernel_rfl) (hK _ _ ?_)
  clear hK K
  refine wpAny_ready (rs := [0, 2]) (by kernel_rfl) (by simp) ?_
  refine AllReady.cons rfl (fun K hK => ?_) ?_
  · skip
    rw [if_pos (by simp [Region.wanted])]
    refine wp_load_row 50 (.tmp 5) rfl (w5.heap.size) rfl 50 YS _ _ X8.out Try.underlying50 rfl (by rw [HSY.out]; kernel_rfl) (hK _ _ ?_)
    clear hK K
    refine wpAny_ready (rs := [2]) (by kernel_rfl) (by simp) ?_
    refine AllReady.cons rfl (fun K hK => ?_) AllReady.nil
    go_simp
    refine (DT.out _ B8.out).mono ?_
    rintro e w9 ⟨y3, rfl, he3, ha3, hb⟩
    have d9 := c_eqLab y2 y3 w9 (HA8.out.kept hb) ha3 (LabEq.trans he3 HE2.out.symm)
    rw [HY2.out] at d9
    obtain ⟨Y3, hY3⟩ : ∃ Y, y3.cells = Y := ⟨_, rfl⟩
    rw [hY3] at d9 ⊢
    have D9 := Lib.hid d9
    have X9 := Lib.hid (X8.out.below hb)
    have B9 := Lib.hid (Below.next B8.out hb)
    clear he3 ha3 hb d9 hY3
    refine hK _ _ ?_
    clear hK K
    refine wpAny_ready (rs := [3]) (by kernel_rfl) (by simp) ?_
    refine AllReady.cons rfl (fun K hK => ?_) AllReady.nil
    go_simp
    refine D9.out.mono ?_
    rintro e w10 ⟨rfl, hb⟩
    have B10 := Lib.hid (Below.next B9.out hb)
    clear hb
    refine hK _ _ ?_
    clear hK K
    refine wpAny_ready (rs := [4]) (by kernel_rfl) (by simp) ?_
    refine AllReady.cons rfl (fun K hK => ?_) AllReady.nil
    go_simp
    refine hK _ _ ?_
    clear hK K
    refine wpAny_done (by kernel_rfl) ?_ _
    go_wp2_with fail
    go_ret
    exact ⟨rfl, B10.out⟩
  refine AllReady.cons rfl (fun K hK => ?_) AllReady.nil
  go_simp
  refine (DT.out _ B8.out).mono ?_
  rintro e w9 ⟨y3, rfl, he3, ha3, hb⟩
  have d9 := c_eqLab y2 y3 w9 (HA8.out.kept hb) ha3 (LabEq.trans he3 HE2.out.symm)
  rw [HY2.out] at d9
  obtain ⟨Y3, hY3⟩ : ∃ Y, y3.cells = Y := ⟨_, rfl⟩
  rw [hY3] at d9 ⊢
  have D9 := Lib.hid d9
  have X9 := Lib.hid (X8.out.below hb)
  have B9 := Lib.hid (Below.next B8.out hb)
  clear he3 ha3 hb d9 hY3
  refine hK _ _ ?_
  clear hK K
  refine wpAny_ready (rs := [0]) (by kernel_rfl) (by simp) ?_
  refine AllReady.cons rfl (fun K hK => ?_) AllReady.nil
  rw [if_pos (by simp [Region.wanted])]
  refine wp_load_row 50 (.tmp 5) rfl (w5.heap.size) rfl 50 YS _ _ X9.out Try.underlying50 rfl (by rw [HSY.out]; kernel_rfl) (hK _ _ ?_)
  clear hK K
  refine wpAny_ready (rs := [3]) (by kernel_rfl) (by simp) ?_
  refine AllReady.cons rfl (fun K hK => ?_) AllReady.nil
  go_simp
  refine D9.out.mono ?_
  rintro e w10 ⟨rfl, hb⟩
  have B10 := Lib.hid (Below.next B9.out hb)
  clear hb
  refine hK _ _ ?_
  clear hK K
  refine wpAny_ready (rs := [4]) (by kernel_rfl) (by simp) ?_
  refine AllReady.cons rfl (fun K hK => ?_) AllReady.nil
  go_simp
  refine hK _ _ ?_
  clear hK K
  refine wpAny_done (by kernel_rfl) ?_ _
  go_wp2_with fail
  go_ret
  exact ⟨rfl, B10.out⟩

theorem walk (v0 : Value) (w : World) (w0 : ∃ x : LabA, v0 = .agg x.cells ∧ LabAt w x) :
    Calls Try.prog 3 #[v0] w fun e w' => e = .returned (.bool true) ∧ Below w.heap.size w w' := by
  obtain ⟨x, rfl, hx⟩ := w0
  by_cases hL : labSum x ≤ 1048576
  case neg =>
    have dn := fun (W : World) (hb : Below w.heap.size w W) => c_szLab_no x 1048576 W (hx.kept hb) (Nat.le_refl _) (by omega)
    obtain ⟨k, r, b1, b2, ep, er, ec, er2, ec2, ex, ey, ea, eb, eca, ecb, ⟨g, c, ls, h, d, ss, st, sd, sc⟩⟩ := x
    simp only [LabA.cells] at dn ⊢
    have DN := Lib.hid dn
    have B0 := Lib.hid ((Below.refl w.heap.size w).alloc (Nat.le_refl _) (.cells #[.int .i64 k, .float .f32 r, .float .f32 b1, .float .f32 b2, .float .f32 ep, .int .i64 er, .int .i64 ec, .slice ea ex.length eca, .int .i64 er2, .int .i64 ec2, .slice eb ey.length ecb, .slice g ls.length c, .slice h ss.length d, .int .i64 st, .int .i64 sd, .float .f32 sc] 37))
    clear dn hx hL
    go_enter Try.func3, Try.ntmps3
    go_wp2_with fail
    refine (DN.out _ B0.out).mono ?_
    rintro e w1 ⟨rfl, hb⟩
    have B1 := Lib.hid (Below.next B0.out hb)
    clear hb
    go_wp2
    go_ret
    exact ⟨rfl, B1.out⟩
  case pos =>
    exact core x w hx hL

/-! the row's step -/
set_option maxRecDepth 100000 in
theorem lifted (os : Os) (started : os.Started) (H : Type) (enc : TypeId × Value → H) :
    ReturnsInHanded {} Try.checked os 3 .any (Rows.fnExactValidLabSpec.pre6 enc Try.prog Try.f3 Rows.fnExactValidLabRow.domain false) (Rows.fnExactValidLabSpec.post enc Try.prog Try.f3 false true false false) := by
  refine returnsInHanded_of_change (C := Try.checked) own started (by kernel_rfl) Try.func3
    (ChangeSpec.witness6 (enc := enc) (C := Try.checked) false ⟨#[], #[.agg #[.int .i64 0, .float .f32 0, .float .f32 0, .float .f32 0, .float .f32 0, .int .i64 0, .int .i64 0, .slice none 0 0, .int .i64 0, .int .i64 0, .slice none 0 0, .slice none 0 0, .slice none 0 0, .int .i64 0, .int .i64 0, .float .f32 0]], []⟩ 8 (by kernel_rfl) (by kernel_rfl) (by kernel_rfl) (by kernel_rfl)) ?_
  intro W base args ds gs before hval0 hW hcnd _
  have hval : ∀ (j : Nat) t v, Try.f3.params[j]? = some t → args[j]? = some v → Value.okWide Try.prog W .any base t v := hval0
  have hW' := hW
  obtain ⟨p, q, hA0, hV, rfl, hfz, hnd⟩ := hW
  have hA : DataW.TrodAll enc Try.prog W 0 (fun _ => true) true Try.f3.params.toList args.toList ds p := hA0
  rw [Try.params3] at hA hval
  obtain ⟨v0, vs0, d0, ds0, p0, q0, hargs, rfl, rfl, h0, rest0⟩ := trodAll_cons hA
  obtain ⟨rfl, rfl, rfl⟩ := trodAll_nil rest0
  obtain rfl : args = #[v0] := by cases args; simp_all
  obtain ⟨rfl, rfl⟩ := trodVars_none hV
  have k0 := h0
  have lt0 : ∀ x ∈ p0, x.block < W.heap.size := by obtain ⟨m, hm⟩ := k0; exact DataW.trod_lt m _ _ _ hm
  have w0 := open_Lab (hval 0 37 v0 rfl rfl) h0
  clear hA0 hval0
  refine (walk _ W w0).mono fun e W' ⟨he, bel⟩ => ?_
  subst he
  exact ⟨_, rfl, _, _, _, [], _, [], hW', trodAll_mk1 (shut_bool Try.underlying4 _), (trodAll_cons_mk (Below.trod laidOut (by kernel_rfl) (of_decide_eq_true (by kernel_rfl)) k0 bel lt0) trodAll_mk0), rfl, bel.frame _, fun h => by cases h⟩

theorem named_ : Try.pinned.checked.prog.funcNamed Rows.fnExactValidLabRow.func = some 3 := by kernel_rfl
theorem fk1 : (Rows.fnExactValidLabRow.wf (OpenSpec.ofChange Rows.fnExactValidLabSpec)) = true := by kernel_rfl
theorem fk4 : (Try.f3.params.all (Try.pinned.checked.prog.readableRec ·)) = true := by kernel_rfl
theorem fk5 : (namedTie Try.pinned.checked.prog Rows.fnExactValidLabRow.named Rows.fnExactValidLabSpec.vars) = true := by kernel_rfl
theorem fk6 : ((Rows.fnExactValidLabRow.stops == [])) = true := by kernel_rfl
theorem fk8 : ((Rows.fnExactValidLabRow.knobs == [])) = true := by kernel_rfl
theorem fk10 : ((Rows.fnExactValidLabRow.inPlace == Try.pinned.checked.prog.inPlace 3)) = true := by kernel_rfl
theorem fk11 : ((Rows.fnExactValidLabRow.unfollowed == Try.pinned.checked.prog.unfollowed 3)) = true := by kernel_rfl
theorem fk12 : ((Rows.fnExactValidLabRow.recurses == Try.pinned.checked.prog.recurses 3)) = true := by kernel_rfl
theorem fk13 : ((Rows.fnExactValidLabRow.named == Try.pinned.checked.prog.varsNamed 3)) = true := by kernel_rfl
theorem fk14 : ((Rows.fnExactValidLabRow.maps == (Try.f3.params.toList ++ Rows.fnExactValidLabSpec.plain.varTypes Try.pinned.checked.prog).any (Try.pinned.checked.prog.mapsRec ·))) = true := by kernel_rfl
theorem fk15 : ((Rows.fnExactValidLabRow.ifaces == (Try.f3.params.toList ++ Rows.fnExactValidLabSpec.plain.varTypes Try.pinned.checked.prog).any (Try.pinned.checked.prog.ifacesRec ·))) = true := by kernel_rfl
theorem fk16 : ((Rows.fnExactValidLabRow.mapsOut == Try.pinned.checked.prog.mapsAmong Try.f3.resultTypes.toList)) = true := by kernel_rfl
theorem fk17 : ((Rows.fnExactValidLabRow.loops == (Try.f3.params.toList ++ Rows.fnExactValidLabSpec.plain.varTypes Try.pinned.checked.prog).any (Try.pinned.checked.prog.loopsFrom ·))) = true := by kernel_rfl
theorem fk18 : ((Rows.fnExactValidLabRow.wideKeys == (Try.f3.params.toList ++ Rows.fnExactValidLabSpec.plain.varTypes Try.pinned.checked.prog ++ Try.f3.resultTypes.toList).any (Try.pinned.checked.prog.wideKeysFrom ·))) = true := by kernel_rfl
theorem fk19 : (Rows.fnExactValidLabSpec.vars.all (Try.pinned.checked.prog.varReadable ·)) = true := by kernel_rfl
theorem fk20 : (Try.f3.resultTypes.all (fun t => Try.pinned.checked.prog.readableRec t && decide (t < Try.pinned.checked.prog.types.size))) = true := by kernel_rfl
theorem fk21 : ((Rows.fnExactValidLabRow.ifacesOut == Try.f3.resultTypes.toList.any (Try.pinned.checked.prog.ifacesRec ·))) = true := by kernel_rfl
theorem fk22 : ((Rows.fnExactValidLabRow.loopsOut == Try.f3.resultTypes.toList.any (Try.pinned.checked.prog.loopsFrom ·))) = true := by kernel_rfl
theorem fk23 : (Rows.fnExactValidLabRow.plainKeys == Try.pinned.checked.prog.plainKeys) = true := by rw [cls_keys]; kernel_rfl
theorem fk24 : (Rows.fnExactValidLabRow.shortTexts.isNone) = true := by kernel_rfl
theorem fk27 : (Rows.fnExactValidLabRow.lifted == Try.pinned.checked.prog.liftsFinal) = true := by rw [cls_lift]; kernel_rfl
theorem fk28 : (Try.pinned.checked.prog.make == some Rows.fnExactValidLabRow.make) = true := by rw [cls_make]; kernel_rfl
theorem fk29 : ((Rows.fnExactValidLabRow.kinds == (if Rows.fnExactValidLabRow.domain.isEmpty then [] else Try.f3.params.toList.map fun t => match Try.pinned.checked.prog.underlying t with | some (.int k) => some k | _ => none))) = true := by kernel_rfl
theorem fk30 : ((Rows.fnExactValidLabRow.pinned == Rows.fnExactValidLabRow.pinnedBy)) = true := by kernel_rfl
theorem fk31 : ((Rows.fnExactValidLabRow.veiled == (Try.f3.params.toList ++ Rows.fnExactValidLabSpec.plain.varTypes Try.pinned.checked.prog ++ Try.f3.resultTypes.toList).any (Try.pinned.checked.prog.veiledRec ·))) = true := by kernel_rfl
theorem fk32 : (Rows.fnExactValidLabRow.veiledFits Try.pinned.checked.prog Try.f3.params.toList (Try.f3.params.toList ++ Rows.fnExactValidLabSpec.plain.varTypes Try.pinned.checked.prog ++ Try.f3.resultTypes.toList)) = true := by kernel_rfl
set_option maxRecDepth 100000 in
theorem closed : joinedFacts Try.pinned.checked.prog 3 Try.f3 Rows.fnExactValidLabSpec Rows.fnExactValidLabRow = true := (and2 (and2 (and2 (and2 (and2 (and2 (and2 (and2 (and2 (and2 (and2 (and2 (and2 (and2 (and2 (and2 (and2 (and2 (and2 (and2 (and2 (and2 (and2 (and2 (and2 (and2 (and2 (and2 (and2 (and2 (and2 fk1 cls_laid) cls_maps) fk4) fk5) fk6) cls_stops) fk8) cls_knobs) fk10) fk11) fk12) fk13) fk14) fk15) fk16) fk17) fk18) fk19) fk20) fk21) fk22) fk23) fk24) cls_heard) cls_enter) fk27) fk28) fk29) fk30) fk31) fk32)
theorem over : Rows.fnExactValidLabRow.holds Try.pinned (OpenSpec.ofChange Rows.fnExactValidLabSpec) :=
  OpenClaim.holds_of_wide 3 Try.f3 rfl rfl rfl rfl rfl rfl rfl ⟨rfl, rfl, rfl, rfl, rfl⟩ rfl rfl rfl rfl rfl named_ Try.func3 closed
    (of_decide_eq_true (by kernel_rfl)) (by unfold Func.isWrapper; first | (rw [if_pos (by decide +kernel)]; kernel_rfl) | (rw [if_neg (by decide +kernel)]; exact ⟨rfl, rfl⟩))
    (fun os started H enc _ => lifted os started H enc)

/-- the statement -/
theorem proved : Rows.FnExactValidLabSaid := over
end Go.Proofs.Ytaipegkkpkagnaa.fnExactValidLab
