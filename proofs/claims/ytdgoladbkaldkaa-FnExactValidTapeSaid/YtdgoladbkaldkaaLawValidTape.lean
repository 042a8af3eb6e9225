/-
  ValidTape: the program's function answers as the model's at every argument. Conditions: none.
-/
import Derived.Test.YtdgoladbkaldkaaTpc
import Derived.ChangeOld
import Derived.Below
namespace Go.Proofs.Ytdgoladbkaldkaa.fnExactValidTape
open Go.ChangeShapes Go.WideShapes Go.ChangeAt Go.RowKit
open Go.ChangeMaps (open_string shut_string)
set_option linter.unusedVariables false

set_option maxHeartbeats 4000000 in
set_option maxRecDepth 100000 in
/-- for any contracts of the model and of the program that say the same -/
theorem core (ls0 : List TpA) (g0 : Option Addr) (c0 : Nat) (w : World) (w0' : TpsAt w g0 ls0.length c0 ls0) (b : Bool) (hL0 : (ls0.length + tpSum (ls0.map TpA.p)) ≤ 1048576) 
    (CS' : ∀ (g0 : Option Addr) (c0 : Nat) (y0 : List TpA) (w : World), (y0.map TpA.p = ls0.map TpA.p) → (TpsAt w g0 ls0.length c0 y0) → Calls Try.prog 8 #[.slice g0 ls0.length c0] w (RetB b w))
    (CI' : ∀ (g0 : Option Addr) (c0 : Nat) (y0 : List TpA) (w : World), (y0.map TpA.p = ls0.map TpA.p) → (TpsAt w g0 ls0.length c0 y0) → Calls Try.prog 10 #[.slice g0 ls0.length c0] w (RetB b w)) :
    Calls Try.prog 3 #[.slice g0 ls0.length c0] w fun e w' => e = .returned (.bool true) ∧ Below w.heap.size w w' := by
  have HS0 := Lib.hid w0'
  have HZ0 := Lib.hid (show ls0.length + tpSum (ls0.map TpA.p) ≤ 1048576 by omega)
  have CS := Lib.hid CS'
  have CI := Lib.hid CI'
  obtain ⟨l0, hl0⟩ : ∃ l, 1048576 - (ls0.length + tpSum (ls0.map TpA.p)) = l := ⟨_, rfl⟩
  have hl0' : l0 ≤ 1048576 := by omega
  have HQ0 := Lib.hid (show ls0.length + tpSum (ls0.map TpA.p) ≤ 1048576 by omega)
  have HE0 := Lib.hid hl0
  have hp0 : (0 : Int) ≤ (l0 : Int) := by omega
  clear w0' CS' CI' hl0 hL0
  go_enter Try.func3, Try.ntmps3
  go_wp2_with fail
  have B_0 := Lib.hid (Below.refl w.heap.size w)
  refine (c_szTps _ _ _ _ _ ls0 _ (HS0.out.kept B_0.out) (Nat.le_refl _) HQ0.out HE0.out).mono ?_
  rintro e w1 ⟨rfl, bl⟩
  have B_1 := Lib.hid (Below.next B_0.out bl)
  clear B_0
  clear bl
  go_wp2_with fail
  refine (c_toTps _ _ _ ls0 _ (HS0.out.kept B_1.out) HZ0.out).mono ?_
  rintro e w2 ⟨gT0, yT0, rfl, hl, hp, ho, hnd, bl⟩
  have HPT0 := Lib.hid hp
  have HLT0 := Lib.hid hl
  have T0_2 := Lib.hid (OwnL.base B_1.out.size _ ho)
  have B_2 := Lib.hid (Below.next B_1.out bl)
  clear B_1
  clear hl hp ho hnd
  clear bl
  go_wp2_with fail
  refine (CS.out _ _ yT0 _ HPT0.out (tpsAt_own HLT0.out T0_2.out)).mono ?_
  rintro e w3 ⟨rfl, bl⟩
  have B_3 := Lib.hid (Below.next B_2.out bl)
  clear B_2
  have T0_3 := Lib.hid (OwnL.kept T0_2.out bl)
  clear T0_2
  clear bl
  clear T0_3
  go_wp2_with fail
  refine (c_toTps _ _ _ ls0 _ (HS0.out.kept B_3.out) HZ0.out).mono ?_
  rintro e w4 ⟨gX0, yX0, rfl, hl, hp, ho, hnd, bl⟩
  have HPX0 := Lib.hid hp
  have HLX0 := Lib.hid hl
  have X0_4 := Lib.hid (OwnL.base B_3.out.size _ ho)
  have B_4 := Lib.hid (Below.next B_3.out bl)
  clear B_3
  clear hl hp ho hnd
  clear bl
  go_wp2_with fail
  refine (CI.out _ _ yX0 _ HPX0.out (tpsAt_own HLX0.out X0_4.out)).mono ?_
  rintro e w5 ⟨rfl, bl⟩
  have B_5 := Lib.hid (Below.next B_4.out bl)
  clear B_4
  have X0_5 := Lib.hid (OwnL.kept X0_4.out bl)
  clear X0_4
  clear bl
  go_wp2_with fail
  refine (c_toTps _ _ _ ls0 _ (HS0.out.kept B_5.out) HZ0.out).mono ?_
  rintro e w6 ⟨gY0, yY0, rfl, hl, hp, ho, hnd, bl⟩
  have HPY0 := Lib.hid hp
  have HLY0 := Lib.hid hl
  have Y0_6 := Lib.hid (OwnL.base B_5.out.size _ ho)
  have B_6 := Lib.hid (Below.next B_5.out bl)
  clear B_5
  have X0_6 := Lib.hid (OwnL.kept X0_5.out bl)
  clear X0_5
  clear hl hp ho hnd
  clear bl
  go_wp2_with fail
  refine (c_eqTps _ _ _ _ _ yX0 yY0 _ (tpsAt_own HLX0.out X0_6.out) (tpsAt_own HLY0.out Y0_6.out) (tp_can_of (HPX0.out.trans HPY0.out.symm))).mono ?_
  rintro e w7 ⟨rfl, bl⟩
  have B_7 := Lib.hid (Below.next B_6.out bl)
  clear B_6
  have X0_7 := Lib.hid (OwnL.kept X0_6.out bl)
  clear X0_6
  have Y0_7 := Lib.hid (OwnL.kept Y0_6.out bl)
  clear Y0_6
  clear bl
  clear Y0_7
  go_wp2_with fail
  go_ret
  exact ⟨rfl, B_7.out⟩

theorem walk (v0 : Value) (w : World) (w0 : ∃ (g : Option Addr) (c : Nat) (ls : List TpA), v0 = .slice g ls.length c ∧ TpsAt w g ls.length c ls) :
    Calls Try.prog 3 #[v0] w fun e w' => e = .returned (.bool true) ∧ Below w.heap.size w w' := by
  obtain ⟨g0, c0, ls0, rfl, w0⟩ := w0
  by_cases hL0 : (ls0.length + tpSum (ls0.map TpA.p)) ≤ 1048576
  case neg =>
    have HN := Lib.hid (show 1048576 < ls0.length + tpSum (ls0.map TpA.p) by omega)
    have HS := Lib.hid w0
    have bl := Lib.hid ((Below.refl w.heap.size w))
    clear hL0 w0
    go_enter Try.func3, Try.ntmps3
    go_wp2_with fail
    refine (c_szTps_no _ _ _ 1048576 ls0 _ (HS.out.kept bl.out) (Nat.le_refl _) HN.out).mono ?_
    rintro e w1 ⟨rfl, hb⟩
    have HB := Lib.hid (Below.next bl.out hb)
    clear hb bl
    go_wp2
    go_ret
    exact ⟨rfl, HB.out⟩
  case pos =>
    exact core ls0 g0 c0 w w0 (vValidTape (ls0.map TpA.p)) hL0  (fun g0_ c0_ y0_ w hp0 h0 => t_sValidTape (ls0.map TpA.p) ls0.length g0_ c0_ y0_ w hp0 h0) (fun g0_ c0_ y0_ w hp0 h0 => t_iValidTape (ls0.map TpA.p) ls0.length g0_ c0_ y0_ w hp0 h0)

/-! the row's step -/
set_option maxRecDepth 100000 in
theorem lifted (os : Os) (started : os.Started) (H : Type) (enc : TypeId × Value → H) :
    ReturnsInHanded {} Try.checked os 3 .any (Rows.fnExactValidTapeSpec.pre6 enc Try.prog Try.f3 Rows.fnExactValidTapeRow.domain false) (Rows.fnExactValidTapeSpec.post enc Try.prog Try.f3 false true false false) := by
  refine returnsInHanded_of_change (C := Try.checked) own started (by kernel_rfl) Try.func3
    (ChangeSpec.witness6 (enc := enc) (C := Try.checked) false ⟨#[], #[.slice none 0 0], []⟩ 8 (by kernel_rfl) (by kernel_rfl) (by kernel_rfl) (by kernel_rfl)) ?_
  intro W base args ds gs before hval0 hW hcnd _
  have hval : ∀ (j : Nat) t v, Try.f3.params[j]? = some t → args[j]? = some v → Value.okWide Try.prog W .any base t v := hval0
  have hW' := hW
  obtain ⟨p, q, hA0, hV, rfl, hfz, hnd⟩ := hW
  have hA : DataW.TrodAll enc Try.prog W 0 (fun _ => true) true Try.f3.params.toList args.toList ds p := hA0
  rw [Try.params3] at hA hval
  obtain ⟨v0, vs0, d0, ds0, p0, q0, hargs, rfl, rfl, h0, rest0⟩ := trodAll_cons hA
  obtain ⟨rfl, rfl, rfl⟩ := trodAll_nil rest0
  obtain rfl : args = #[v0] := by cases args; simp_all
  obtain ⟨rfl, rfl⟩ := trodVars_none hV
  have k0 := h0
  have lt0 : ∀ x ∈ p0, x.block < W.heap.size := by obtain ⟨m, hm⟩ := k0; exact DataW.trod_lt m _ _ _ hm
  have w0 := open_Tps (hval 0 22 v0 rfl rfl) h0
  clear hA0 hval0
  refine (walk _ W w0).mono fun e W' ⟨he, bel⟩ => ?_
  subst he
  exact ⟨_, rfl, _, _, _, [], _, [], hW', trodAll_mk1 (shut_bool Try.underlying4 _), (trodAll_cons_mk (Below.trod laidOut (by kernel_rfl) (of_decide_eq_true (by kernel_rfl)) k0 bel lt0) trodAll_mk0), rfl, bel.frame _, fun h => by cases h⟩

theorem over : Rows.fnExactValidTapeRow.holds Try.pinned (OpenSpec.ofChange Rows.fnExactValidTapeSpec) :=
  OpenClaim.holds_of_wide 3 Try.f3 rfl rfl rfl rfl rfl rfl rfl ⟨rfl, rfl, rfl, rfl, rfl⟩ rfl rfl rfl rfl rfl (by kernel_rfl) Try.func3 (by kernel_rfl)
    (of_decide_eq_true (by kernel_rfl)) (by unfold Func.isWrapper; first | (rw [if_pos (by decide +kernel)]; kernel_rfl) | (rw [if_neg (by decide +kernel)]; exact ⟨rfl, rfl⟩))
    (fun os started H enc _ => lifted os started H enc)

/-- the statement -/
theorem proved : Rows.FnExactValidTapeSaid := over
end Go.Proofs.Ytdgoladbkaldkaa.fnExactValidTape
