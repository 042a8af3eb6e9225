/-
  StopAt returns for every list and patience what its model returns. Conditions: none.
-/
import Derived.Test.YthklfkfhhdglcaaSti
import Derived.ChangeOld
import Derived.Below
namespace Go.Proofs.Ythklfkfhhdglcaa.fnExactStopAt
open Go.ChangeShapes Go.WideShapes Go.ChangeAt Go.RowKit
open Go.ChangeMaps (open_string shut_string)
set_option linter.unusedVariables false

set_option maxHeartbeats 4000000 in
set_option maxRecDepth 100000 in
/-- for any contracts of the model and of the program that say the same -/
theorem core (a1 : Int) (a0 : Option Addr) (cap0 : Nat) (z0 : List Nat) (w : World) (w0' : IsFloats .f32 w a0 z0.length cap0 z0) (x : Int) (b : Bool)
    (hL : z0.length ≤ 1048576) (CS' : ∀ (a0 : Option Addr) (w : World), IsFloats .f32 w a0 z0.length z0.length z0 → Calls Try.prog 59 #[.slice a0 z0.length z0.length, .int .i64 a1] w (RetN x b w))
    (CI' : ∀ (a0 : Option Addr) (w : World), IsFloats .f32 w a0 z0.length z0.length z0 → Calls Try.prog 23 #[.slice a0 z0.length z0.length, .int .i64 a1] w (RetN x b w)) :
    Calls Try.prog 14 #[.slice a0 z0.length cap0, .int .i64 a1] w fun e w' => e = .returned (.bool true) ∧ Below w.heap.size w w' := by
  have HI0 := Lib.hid w0'
  have HZ0 := Lib.hid (show z0.length ≤ 1048576 by omega)
  have CS := Lib.hid CS'
  have CI := Lib.hid CI'
  have hs0 : z0.length ≤ 1048576 := by omega
  clear w0' CS' CI'
  go_enter Try.func14, Try.ntmps14
  go_wp2_with fail
  have B_0 := Lib.hid (Below.refl w.heap.size w)
  go_wp2_with fail
  refine (c_toFloats _ _ _ z0 _ (HI0.out.kept B_0.out) HZ0.out).mono ?_
  rintro e w1 ⟨bT0, rfl, hf, bl⟩
  have T0_1 := Lib.hid (hf.base B_0.out.size)
  have B_1 := Lib.hid (Below.next B_0.out bl)
  clear B_0
  clear bl
  clear hf
  go_wp2_with fail
  refine (CS.out _ _ T0_1.out.isFloats).mono ?_
  rintro e w2 ⟨rfl, bl⟩
  have B_2 := Lib.hid (Below.next B_1.out bl)
  clear B_1
  have T0_2 := Lib.hid (T0_1.out.kept bl)
  clear T0_1
  clear bl
  clear T0_2
  go_wp2_with fail
  refine (c_toFloats _ _ _ z0 _ (HI0.out.kept B_2.out) HZ0.out).mono ?_
  rintro e w3 ⟨bX0, rfl, hf, bl⟩
  have X0_3 := Lib.hid (hf.base B_2.out.size)
  have B_3 := Lib.hid (Below.next B_2.out bl)
  clear B_2
  clear bl
  clear hf
  go_wp2_with fail
  refine (CI.out _ _ X0_3.out.isFloats).mono ?_
  rintro e w4 ⟨rfl, bl⟩
  have B_4 := Lib.hid (Below.next B_3.out bl)
  clear B_3
  have X0_4 := Lib.hid (X0_3.out.kept bl)
  clear X0_3
  clear bl
  go_wp2_with fail
  refine (c_toFloats _ _ _ z0 _ (HI0.out.kept B_4.out) HZ0.out).mono ?_
  rintro e w5 ⟨bY0, rfl, hf, bl⟩
  have Y0_5 := Lib.hid (hf.base B_4.out.size)
  have B_5 := Lib.hid (Below.next B_4.out bl)
  clear B_4
  have X0_5 := Lib.hid (X0_4.out.kept bl)
  clear X0_4
  clear bl
  clear hf
  go_wp2_with fail
  refine (c_eqFloats _ _ _ _ z0 z0 _ X0_5.out.isFloats Y0_5.out.isFloats rfl).mono ?_
  rintro e w6 ⟨rfl, dn⟩
  have bl : Below w5.heap.size w5 w6 := by first | exact dn.below | exact (below_drewN (Below.refl _ _) _).trans dn.below
  clear dn
  have B_6 := Lib.hid (Below.next B_5.out bl)
  clear B_5
  have X0_6 := Lib.hid (X0_5.out.kept bl)
  clear X0_5
  have Y0_6 := Lib.hid (Y0_5.out.kept bl)
  clear Y0_5
  clear bl
  clear Y0_6
  go_wp2_with fail
  go_ret
  exact ⟨rfl, B_6.out⟩

theorem walk (a0 : Option Addr) (len0 cap0 : Nat) (z0 : List Nat) (a1 : Int) (w : World) (w0 : IsFloats .f32 w a0 len0 cap0 z0) (w1 : (Lit.int .i64 a1).wf = true) :
    Calls Try.prog 14 #[.slice a0 len0 cap0, .int .i64 a1] w fun e w' => e = .returned (.bool true) ∧ Below w.heap.size w w' := by
  have hn0 : len0 ≤ 9223372036854775807 := by have h1 := w0.1; have h2 := w0.2.1; unfold maxLen at h2; omega
  obtain rfl : z0.length = len0 := w0.2.2.1
  by_cases hL0 : z0.length ≤ 1048576
  case neg =>
    have hq : (1048576 : Int) < (z0.length : Int) := by omega
    clear hL0
    go_enter Try.func14, Try.ntmps14
    go_wp2
    go_ret
    exact ⟨rfl, (Below.refl _ _)⟩
  case pos =>
    exact core  a1 a0 cap0 z0 w w0 (vStopAt z0 a1).1 (vStopAt z0 a1).2 hL0  (fun a0 w h0 => t_sStopAt z0 a1 a0  w h0 ) (fun a0 w h0 => t_iStopAt z0 a1 a0  w h0 )

/-! the row's step -/
set_option maxRecDepth 100000 in
theorem lifted (os : Os) (started : os.Started) (H : Type) (enc : TypeId × Value → H) :
    ReturnsInHanded {} Try.checked os 14 .any (Rows.fnExactStopAtSpec.pre6 enc Try.prog Try.f14 Rows.fnExactStopAtRow.domain false) (Rows.fnExactStopAtSpec.post enc Try.prog Try.f14 false true false false) := by
  refine returnsInHanded_of_change (C := Try.checked) own started (by kernel_rfl) Try.func14
    (ChangeSpec.witness6 (enc := enc) (C := Try.checked) false ⟨#[], #[.slice none 0 0, .int .i64 0], []⟩ 8 (by kernel_rfl) (by kernel_rfl) (by kernel_rfl) (by kernel_rfl)) ?_
  intro W base args ds gs before hval0 hW hcnd _
  have hval : ∀ (j : Nat) t v, Try.f14.params[j]? = some t → args[j]? = some v → Value.okWide Try.prog W .any base t v := hval0
  have hW' := hW
  obtain ⟨p, q, hA0, hV, rfl, hfz, hnd⟩ := hW
  have hA : DataW.TrodAll enc Try.prog W 0 (fun _ => true) true Try.f14.params.toList args.toList ds p := hA0
  rw [Try.params14] at hA hval
  obtain ⟨v0, vs0, d0, ds0, p0, q0, hargs, rfl, rfl, h0, rest0⟩ := trodAll_cons hA
  obtain ⟨v1, vs1, d1, ds1, p1, q1, rfl, rfl, rfl, h1, rest1⟩ := trodAll_cons rest0
  obtain ⟨rfl, rfl, rfl⟩ := trodAll_nil rest1
  obtain rfl : args = #[v0, v1] := by cases args; simp_all
  obtain ⟨rfl, rfl⟩ := trodVars_none hV
  obtain ⟨a0, len0, cap0, rfl⟩ := okWide_slice Try.underlying32 (hval 0 32 v0 rfl rfl)
  have k0 := h0
  have lt0 : ∀ x ∈ p0, x.block < W.heap.size := by obtain ⟨m, hm⟩ := k0; exact DataW.trod_lt m _ _ _ hm
  obtain ⟨z0, w0⟩ := isFloats_of (k := .f32) Try.underlying32 Try.underlying37 (by kernel_rfl) h0
  obtain ⟨a1, rfl, rfl, rfl, w1⟩ := open_int Try.underlying2 (hval 1 2 v1 rfl rfl) h1
  clear hA0 hval0
  refine (walk a0 len0 cap0 z0 a1 W w0 w1).mono fun e W' ⟨he, bel⟩ => ?_
  subst he
  exact ⟨_, rfl, _, _, _, [], _, [], hW', trodAll_mk1 (shut_bool Try.underlying4 _), (trodAll_cons_mk (Below.trod laidOut (by kernel_rfl) (of_decide_eq_true (by kernel_rfl)) k0 bel lt0) (trodAll_cons_mk (shut_int Try.underlying2 w1) trodAll_mk0)), rfl, bel.frame _, fun h => by cases h⟩

theorem over : Rows.fnExactStopAtRow.holds Try.pinned (OpenSpec.ofChange Rows.fnExactStopAtSpec) :=
  OpenClaim.holds_of_wide 14 Try.f14 rfl rfl rfl rfl rfl rfl rfl ⟨rfl, rfl, rfl, rfl, rfl⟩ rfl rfl rfl rfl rfl (by kernel_rfl) Try.func14 (by kernel_rfl)
    (of_decide_eq_true (by kernel_rfl)) (by unfold Func.isWrapper; first | (rw [if_pos (by decide +kernel)]; kernel_rfl) | (rw [if_neg (by decide +kernel)]; exact ⟨rfl, rfl⟩))
    (fun os started H enc _ => lifted os started H enc)

/-- the statement -/
theorem proved : Rows.FnExactStopAtSaid := over
end Go.Proofs.Ythklfkfhhdglcaa.fnExactStopAt
