/-
  PowerOf answers as its model says, for all arguments. Conditions: none.
-/
import Derived.Test.YtaklcmibpnpffaaPow
import Derived.ChangeOld
import Derived.Below
namespace Go.Proofs.Ytaklcmibpnpffaa.fnExactPowerOf
open Go.ChangeShapes Go.WideShapes Go.ChangeAt Go.RowKit
open Go.ChangeMaps (open_string shut_string)
set_option linter.unusedVariables false

set_option maxHeartbeats 4000000 in
set_option maxRecDepth 100000 in
/-- for any contracts of the model and of the program that say the same -/
theorem core (a0 : Nat) (a1 : Int)    (w : World)  (x : Nat) (b : Bool)
     (CS' : ∀ (w : World), Calls Try.prog 15 #[.float .f32 a0, .int .i64 a1] w (RetFb x b w))
    (CI' : ∀ (w : World), Calls Try.prog 16 #[.float .f32 a0, .int .i64 a1] w (RetFb x b w)) :
    Calls Try.prog 3 #[.float .f32 a0, .int .i64 a1] w fun e w' => e = .returned (.bool true) ∧ Below w.heap.size w w' := by
  have CS := Lib.hid CS'
  have CI := Lib.hid CI'
  clear  CS' CI'
  go_enter Try.func3, Try.ntmps3
  go_wp2_with fail
  have B_0 := Lib.hid (Below.refl w.heap.size w)
  refine (CS.out  _ ).mono ?_
  rintro e w1 ⟨fS, hyS, rfl, bl⟩
  have HYS := Lib.hid hyS
  clear hyS
  have B_1 := Lib.hid (Below.next B_0.out bl)
  clear B_0
  clear bl
  go_wp2_with fail
  refine (CI.out  _ ).mono ?_
  rintro e w2 ⟨fG, hyG, rfl, bl⟩
  have HYG := Lib.hid hyG
  clear hyG
  have B_2 := Lib.hid (Below.next B_1.out bl)
  clear B_1
  clear bl
  go_wp2_with fail
  refine (c_sameFloat _ _ (cwide_same _ _ (HYG.out.trans HYS.out.symm)) _).mono ?_
  rintro e w3 ⟨rfl, dn⟩
  have bl : Below w2.heap.size w2 w3 := by first | exact dn.below | exact (below_drewN (Below.refl _ _) _).trans dn.below
  clear dn
  have B_3 := Lib.hid (Below.next B_2.out bl)
  clear B_2
  clear bl
  go_wp2_with fail
  go_ret
  exact ⟨rfl, B_3.out⟩

theorem walk (a0 : Nat) (a1 : Int) (w : World) (w0 : (Lit.float .f32 a0).wf = true) (w1 : (Lit.int .i64 a1).wf = true) :
    Calls Try.prog 3 #[.float .f32 a0, .int .i64 a1] w fun e w' => e = .returned (.bool true) ∧ Below w.heap.size w w' := by
  exact core a0 a1    w  (vPowerOf a0 a1).1 (vPowerOf a0 a1).2   (fun  w  => t_sPowerOf a0 a1   w  (lt32 w0)) (fun  w  => t_iPowerOf a0 a1   w  (lt32 w0))

/-! the row's step -/
set_option maxRecDepth 100000 in
theorem lifted (os : Os) (started : os.Started) (H : Type) (enc : TypeId × Value → H) :
    ReturnsInHanded {} Try.checked os 3 .any (Rows.fnExactPowerOfSpec.pre6 enc Try.prog Try.f3 Rows.fnExactPowerOfRow.domain false) (Rows.fnExactPowerOfSpec.post enc Try.prog Try.f3 false true false false) := by
  refine returnsInHanded_of_change (C := Try.checked) own started (by kernel_rfl) Try.func3
    (ChangeSpec.witness6 (enc := enc) (C := Try.checked) false ⟨#[], #[.float .f32 0, .int .i64 0], []⟩ 8 (by kernel_rfl) (by kernel_rfl) (by kernel_rfl) (by kernel_rfl)) ?_
  intro W base args ds gs before hval0 hW hcnd _
  have hval : ∀ (j : Nat) t v, Try.f3.params[j]? = some t → args[j]? = some v → Value.okWide Try.prog W .any base t v := hval0
  have hW' := hW
  obtain ⟨p, q, hA0, hV, rfl, hfz, hnd⟩ := hW
  have hA : DataW.TrodAll enc Try.prog W 0 (fun _ => true) true Try.f3.params.toList args.toList ds p := hA0
  rw [Try.params3] at hA hval
  obtain ⟨v0, vs0, d0, ds0, p0, q0, hargs, rfl, rfl, h0, rest0⟩ := trodAll_cons hA
  obtain ⟨v1, vs1, d1, ds1, p1, q1, rfl, rfl, rfl, h1, rest1⟩ := trodAll_cons rest0
  obtain ⟨rfl, rfl, rfl⟩ := trodAll_nil rest1
  obtain rfl : args = #[v0, v1] := by cases args; simp_all
  obtain ⟨rfl, rfl⟩ := trodVars_none hV
  obtain ⟨a0, rfl, rfl, rfl, w0⟩ := open_float Try.underlying22 (hval 0 22 v0 rfl rfl) h0
  obtain ⟨a1, rfl, rfl, rfl, w1⟩ := open_int Try.underlying2 (hval 1 2 v1 rfl rfl) h1
  clear hA0 hval0
  refine (walk a0 a1 W w0 w1).mono fun e W' ⟨he, bel⟩ => ?_
  subst he
  exact ⟨_, rfl, _, _, _, [], _, [], hW', trodAll_mk1 (shut_bool Try.underlying4 _), (trodAll_cons_mk (shut_float Try.underlying22 w0) (trodAll_cons_mk (shut_int Try.underlying2 w1) trodAll_mk0)), rfl, bel.frame _, fun h => by cases h⟩

theorem over : Rows.fnExactPowerOfRow.holds Try.pinned (OpenSpec.ofChange Rows.fnExactPowerOfSpec) :=
  OpenClaim.holds_of_wide 3 Try.f3 rfl rfl rfl rfl rfl rfl rfl ⟨rfl, rfl, rfl, rfl, rfl⟩ rfl rfl rfl rfl rfl (by kernel_rfl) Try.func3 (by kernel_rfl)
    (of_decide_eq_true (by kernel_rfl)) (by unfold Func.isWrapper; first | (rw [if_pos (by decide +kernel)]; kernel_rfl) | (rw [if_neg (by decide +kernel)]; exact ⟨rfl, rfl⟩))
    (fun os started H enc _ => lifted os started H enc)

/-- the statement -/
theorem proved : Rows.FnExactPowerOfSaid := over
end Go.Proofs.Ytaklcmibpnpffaa.fnExactPowerOf
