/-
  SumNumbers answers as its model says, for any list of 32-bit numbers, changes it nowhere, and does the same again. Conditions: none.
-/
import Derived.Test.YtaonfaeinoackaaEqf
import Derived.ChangeOld
import Derived.Below
namespace Go.Proofs.Ytaonfaeinoackaa.fnExactSumNumbers
open Go.ChangeShapes Go.WideShapes Go.ChangeAt Go.RowKit
open Go.ChangeMaps (open_string shut_string)
set_option linter.unusedVariables false

theorem walk (a0 : Option Addr) (len0 cap0 : Nat) (z0 : List Nat) (w : World) (w0 : IsFloats .f32 w a0 len0 cap0 z0) :
    Calls Try.prog 3 #[.slice a0 len0 cap0] w fun e w' => e = .returned (.bool true) ∧ Below w.heap.size w w' := by
  have hmax : len0 ≤ cap0 ∧ cap0 ≤ maxLen ∧ z0.length = len0 := ⟨w0.1, w0.2.1, w0.2.2.1⟩
  obtain ⟨hm1, hm2, rfl⟩ := hmax
  have hm3 : z0.length ≤ 9223372036854775807 := by unfold maxLen at hm2; omega
  have HI := Lib.hid w0
  clear hm1 hm2 w0
  by_cases hL : z0.length ≤ 1048576
  case neg =>
    have h' : 1048576 < (z0.length : Int) := by omega
    clear hL
    go_enter Try.func3, Try.ntmps3
    go_wp2
    go_ret
    exact ⟨rfl, Below.refl _ _⟩
  case pos =>
    have h' : (z0.length : Int) ≤ 1048576 := by omega
    have HL := Lib.hid hL
    by_cases hB : z0.length ≤ 256
    case neg =>
      have HB := Lib.hid (show 256 < z0.length by omega)
      clear hB hL hm3
      go_enter Try.func3, Try.ntmps3
      go_wp2_with fail
      refine (c_toFloat32S _ _ _ z0 _ HI.out HL.out).mono ?_
      rintro e w1 ⟨rfl, f1, b1, l1⟩
      have F1 := Lib.hid f1
      have B1 := Lib.hid b1
      clear f1 b1 l1
      go_wp2_with fail
      refine (c_sSumNumbers_no _ _ _ _ HB.out).mono ?_
      rintro e w2 ⟨rfl, rfl⟩
      go_wp2_with fail
      refine (c_toFloat32S _ _ _ z0 _ (show IsFloats .f32 w1 _ _ _ z0 from HI.out.kept B1.out) HL.out).mono ?_
      rintro e w3 ⟨rfl, f3, b3, l3⟩
      have F3 := Lib.hid f3
      have B3 := Lib.hid (show Below w.heap.size w w3 from Below.next B1.out b3)
      clear f3 b3 l3
      go_wp2_with fail
      refine (c_iSumNumbers_no _ _ _ _ HB.out).mono ?_
      rintro e w4 ⟨rfl, rfl⟩
      go_wp2_with fail
      refine (c_sameFloat _ _ (cwide_same _ _ rfl) _).mono ?_
      rintro e w5 ⟨rfl, m2, rfl⟩
      go_wp2_with fail
      refine (c_toFloat32S _ _ _ z0 _ (show IsFloats .f32 (w3.drewN _) _ _ _ z0 from (HI.out.kept B3.out).drewN _) HL.out).mono ?_
      rintro e w6 ⟨rfl, f6, b6, l6⟩
      have F6 := Lib.hid f6
      have C6 := Lib.hid (Below.next (below_drewN (Below.refl _ _) _) b6)
      clear f6 b6 l6
      go_wp2_with fail
      refine (c_eqFloat32S _ _ _ _ z0 _ _ (F3.out.kept C6.out) F6.out).mono ?_
      rintro e w7 ⟨rfl, m7, rfl⟩
      go_wp2_with fail
      go_ret
      exact ⟨rfl, below_drewN (Below.next B3.out C6.out) _⟩
    case pos =>
      have HB := Lib.hid hB
      clear hB hL hm3
      go_enter Try.func3, Try.ntmps3
      go_wp2_with fail
      refine (c_toFloat32S _ _ _ z0 _ HI.out HL.out).mono ?_
      rintro e w1 ⟨rfl, f1, b1, l1⟩
      have F1 := Lib.hid f1
      have B1 := Lib.hid b1
      clear f1 b1 l1
      go_wp2_with fail
      refine (c_sSumNumbers _ _ _ _ _ F1.out HB.out).mono ?_
      rintro e w2 ⟨r, n, hr, hr2, rfl, rfl⟩
      have HR := Lib.hid hr
      clear hr hr2
      go_wp2_with fail
      refine (c_toFloat32S _ _ _ z0 _ (show IsFloats .f32 (w1.drewN n) _ _ _ z0 from (HI.out.kept B1.out).drewN n) HL.out).mono ?_
      rintro e w3 ⟨rfl, f3, b3, l3⟩
      have F3 := Lib.hid f3
      have B3 := Lib.hid (show Below w.heap.size w w3 from Below.next B1.out (Below.next (below_drewN (Below.refl _ _) n) b3))
      clear f3 b3 l3
      go_wp2_with fail
      refine (c_iSumNumbers _ _ _ _ _ F3.out HB.out).mono ?_
      rintro e w4 ⟨r', n', hr', hr2', rfl, rfl⟩
      have HR' := Lib.hid hr'
      clear hr' hr2'
      go_wp2_with fail
      refine (c_sameFloat _ _ (cwide_same _ _ (by rw [HR.out, HR'.out])) _).mono ?_
      rintro e w5 ⟨rfl, m2, rfl⟩
      go_wp2_with fail
      refine (c_toFloat32S _ _ _ z0 _ (show IsFloats .f32 (w3.drewN _) _ _ _ z0 from (HI.out.kept B3.out).drewN _) HL.out).mono ?_
      rintro e w6 ⟨rfl, f6, b6, l6⟩
      have F6 := Lib.hid f6
      have C6 := Lib.hid (Below.next (below_drewN (Below.refl _ _) _) b6)
      clear f6 b6 l6
      go_wp2_with fail
      refine (c_eqFloat32S _ _ _ _ z0 _ _ (F3.out.kept C6.out) F6.out).mono ?_
      rintro e w7 ⟨rfl, m7, rfl⟩
      go_wp2_with fail
      go_ret
      exact ⟨rfl, below_drewN (Below.next B3.out C6.out) _⟩

/-! the row's step -/
set_option maxRecDepth 100000 in
theorem lifted (os : Os) (started : os.Started) (H : Type) (enc : TypeId × Value → H) :
    ReturnsInHanded {} Try.checked os 3 .any (Rows.fnExactSumNumbersSpec.pre6 enc Try.prog Try.f3 Rows.fnExactSumNumbersRow.domain false) (Rows.fnExactSumNumbersSpec.post enc Try.prog Try.f3 false true false false) := by
  refine returnsInHanded_of_change (C := Try.checked) own started (by kernel_rfl) Try.func3
    (ChangeSpec.witness6 (enc := enc) (C := Try.checked) false ⟨#[], #[.slice none 0 0], []⟩ 8 (by kernel_rfl) (by kernel_rfl) (by kernel_rfl) (by kernel_rfl)) ?_
  intro W base args ds gs before hval0 hW hcnd _
  have hval : ∀ (j : Nat) t v, Try.f3.params[j]? = some t → args[j]? = some v → Value.okWide Try.prog W .any base t v := hval0
  have hW' := hW
  obtain ⟨p, q, hA0, hV, rfl, hfz, hnd⟩ := hW
  have hA : DataW.TrodAll enc Try.prog W 0 (fun _ => true) true Try.f3.params.toList args.toList ds p := hA0
  rw [Try.params3] at hA hval
  obtain ⟨v0, vs0, d0, ds0, p0, q0, hargs, rfl, rfl, h0, r0⟩ := trodAll_cons hA
  obtain ⟨rfl, rfl, rfl⟩ := trodAll_nil r0
  obtain rfl : args = #[v0] := by cases args; simp_all
  obtain ⟨rfl, rfl⟩ := trodVars_none hV
  obtain ⟨a0, len0, cap0, rfl⟩ := okWide_slice Try.underlying22 (hval 0 22 v0 rfl rfl)
  have k0 := h0
  have lt0 : ∀ x ∈ p0, x.block < W.heap.size := by obtain ⟨m, hm⟩ := k0; exact DataW.trod_lt m _ _ _ hm
  obtain ⟨z0, w0⟩ := isFloats_of (k := .f32) Try.underlying22 Try.underlying23 (by kernel_rfl) h0
  clear hA0 hval0
  refine (walk a0 len0 cap0 z0 W w0).mono fun e W' ⟨he, bel⟩ => ?_
  subst he
  exact ⟨_, rfl, _, _, _, [], _, [], hW', trodAll_mk1 (shut_bool Try.underlying4 _), (trodAll_cons_mk (Below.trod laidOut (by kernel_rfl) (of_decide_eq_true (by kernel_rfl)) k0 bel lt0) trodAll_mk0), rfl, bel.frame _, fun h => by cases h⟩

theorem over : Rows.fnExactSumNumbersRow.holds Try.pinned (OpenSpec.ofChange Rows.fnExactSumNumbersSpec) :=
  OpenClaim.holds_of_wide 3 Try.f3 rfl rfl rfl rfl rfl rfl rfl ⟨rfl, rfl, rfl, rfl, rfl⟩ rfl rfl rfl rfl rfl (by kernel_rfl) Try.func3 (by kernel_rfl)
    (of_decide_eq_true (by kernel_rfl)) (by unfold Func.isWrapper; first | (rw [if_pos (by decide +kernel)]; kernel_rfl) | (rw [if_neg (by decide +kernel)]; exact ⟨rfl, rfl⟩))
    (fun os started H enc _ => lifted os started H enc)

/-- the statement -/
theorem proved : Rows.FnExactSumNumbersSaid := over
end Go.Proofs.Ytaonfaeinoackaa.fnExactSumNumbers
