/-
  DotNumbers answers as its model says, for any two lists of 32-bit numbers, and changes neither. Conditions: none.
-/
import Derived.Test.YtaonfaeinoackaaEqf
import Derived.Test.YtaonfaeinoackaaDot
import Derived.ChangeOld
import Derived.Below
namespace Go.Proofs.Ytaonfaeinoackaa.fnExactDotNumbers
open Go.ChangeShapes Go.WideShapes Go.ChangeAt Go.RowKit
open Go.ChangeMaps (open_string shut_string)
set_option linter.unusedVariables false

theorem walk (a0 : Option Addr) (len0 cap0 : Nat) (z0 : List Nat) (a1 : Option Addr) (len1 cap1 : Nat) (z1 : List Nat) (w : World) (w0 : IsFloats .f32 w a0 len0 cap0 z0) (w1 : IsFloats .f32 w a1 len1 cap1 z1) :
    Calls Try.prog 4 #[.slice a0 len0 cap0, .slice a1 len1 cap1] w fun e w' => e = .returned (.bool true) ∧ Below w.heap.size w w' := by
  obtain ⟨hm0, hm1, rfl⟩ : len0 ≤ cap0 ∧ cap0 ≤ maxLen ∧ z0.length = len0 := ⟨w0.1, w0.2.1, w0.2.2.1⟩
  obtain ⟨hn0, hn1, rfl⟩ : len1 ≤ cap1 ∧ cap1 ≤ maxLen ∧ z1.length = len1 := ⟨w1.1, w1.2.1, w1.2.2.1⟩
  have hm3 : z0.length ≤ 9223372036854775807 := by unfold maxLen at hm1; omega
  have hn3 : z1.length ≤ 9223372036854775807 := by unfold maxLen at hn1; omega
  have HI0 := Lib.hid w0
  have HI1 := Lib.hid w1
  clear hm0 hm1 hn0 hn1 w0 w1
  by_cases hL0 : z0.length ≤ 1048576
  case neg =>
    have h' : 1048576 < (z0.length : Int) := by omega
    clear hL0
    go_enter Try.func4, Try.ntmps4
    go_wp2
    go_ret
    exact ⟨rfl, Below.refl _ _⟩
  case pos =>
    have h0' : (z0.length : Int) ≤ 1048576 := by omega
    have HL0 := Lib.hid hL0
    by_cases hL1 : z1.length ≤ 1048576
    case neg =>
      have h' : 1048576 < (z1.length : Int) := by omega
      clear hL0 hL1
      go_enter Try.func4, Try.ntmps4
      go_wp2
      go_ret
      exact ⟨rfl, Below.refl _ _⟩
    case pos =>
      have h1' : (z1.length : Int) ≤ 1048576 := by omega
      have HL1 := Lib.hid hL1
      by_cases hB : 256 < z0.length ∨ z0.length ≠ z1.length
      case pos =>
        have HB := Lib.hid hB
        clear hB hL0 hL1 hm3 hn3
        go_enter Try.func4, Try.ntmps4
        go_wp2_with fail
        refine (c_toFloat32S _ _ _ z0 _ (show IsFloats .f32 w _ _ _ z0 from HI0.out) HL0.out).mono ?_
        rintro e w1 ⟨rfl, f1, b1, l1⟩
        have F1 := Lib.hid f1
        have C1 := Lib.hid (show Below w.heap.size w w1 from b1)
        have B1 := Lib.hid (show Below w.heap.size w w1 from Below.next (Below.refl _ _) b1)
        clear f1 b1 l1
        go_wp2_with fail
        refine (c_toFloat32S _ _ _ z1 _ (show IsFloats .f32 w1 _ _ _ z1 from HI1.out.kept B1.out) HL1.out).mono ?_
        rintro e w2 ⟨rfl, f2, b2, l2⟩
        have F2 := Lib.hid f2
        have C2 := Lib.hid (show Below w1.heap.size w1 w2 from b2)
        have B2 := Lib.hid (show Below w.heap.size w w2 from Below.next B1.out b2)
        clear f2 b2 l2
        go_wp2_with fail
        refine (c_sDotNumbers_no _ _ _ _ _ _ HB.out _).mono ?_
        rintro e v2 ⟨rfl, rfl⟩
        go_wp2_with fail
        refine (c_toFloat32S _ _ _ z0 _ (show IsFloats .f32 w2 _ _ _ z0 from HI0.out.kept B2.out) HL0.out).mono ?_
        rintro e w3 ⟨rfl, f3, b3, l3⟩
        have F3 := Lib.hid f3
        have C3 := Lib.hid (show Below w2.heap.size w2 w3 from b3)
        have B3 := Lib.hid (show Below w.heap.size w w3 from Below.next B2.out b3)
        clear f3 b3 l3
        go_wp2_with fail
        refine (c_toFloat32S _ _ _ z1 _ (show IsFloats .f32 w3 _ _ _ z1 from HI1.out.kept B3.out) HL1.out).mono ?_
        rintro e w4 ⟨rfl, f4, b4, l4⟩
        have F4 := Lib.hid f4
        have C4 := Lib.hid (show Below w3.heap.size w3 w4 from b4)
        have B4 := Lib.hid (show Below w.heap.size w w4 from Below.next B3.out b4)
        clear f4 b4 l4
        go_wp2_with fail
        refine (c_iDotNumbers_no _ _ _ _ _ _ HB.out _).mono ?_
        rintro e v4 ⟨rfl, rfl⟩
        go_wp2_with fail
        refine (c_sameFloat _ _ (cwide_same _ _ rfl) _).mono ?_
        rintro e v5 ⟨rfl, q0, rfl⟩
        go_wp2_with fail
        refine (c_toFloat32S _ _ _ z0 _ (show IsFloats .f32 (w4.drewN _) _ _ _ z0 from (HI0.out.kept B4.out).drewN _) HL0.out).mono ?_
        rintro e w5 ⟨rfl, f5, b5, l5⟩
        have F5 := Lib.hid f5
        have C5 := Lib.hid (show Below w4.heap.size w4 w5 from Below.next (below_drewN (Below.refl _ _) _) b5)
        have B5 := Lib.hid (show Below w.heap.size w w5 from Below.next B4.out C5.out)
        clear f5 b5 l5
        go_wp2_with fail
        refine (c_eqFloat32S _ _ _ _ z0 _ _ ((F3.out.kept C4.out).kept C5.out) F5.out).mono ?_
        rintro e v6 ⟨rfl, q1, rfl⟩
        go_wp2_with fail
        refine (c_toFloat32S _ _ _ z1 _ (show IsFloats .f32 (w5.drewN _) _ _ _ z1 from (HI1.out.kept B5.out).drewN _) HL1.out).mono ?_
        rintro e w6 ⟨rfl, f6, b6, l6⟩
        have F6 := Lib.hid f6
        have C6 := Lib.hid (show Below w5.heap.size w5 w6 from Below.next (below_drewN (Below.refl _ _) _) b6)
        have B6 := Lib.hid (show Below w.heap.size w w6 from Below.next B5.out C6.out)
        clear f6 b6 l6
        go_wp2_with fail
        refine (c_eqFloat32S _ _ _ _ z1 _ _ ((F4.out.kept C5.out).kept C6.out) F6.out).mono ?_
        rintro e v7 ⟨rfl, q2, rfl⟩
        go_wp2_with fail
        go_ret
        exact ⟨rfl, below_drewN B6.out _⟩
      case neg =>
        obtain ⟨hB1, hB2⟩ : z0.length ≤ 256 ∧ z1.length = z0.length := by omega
        have HB := Lib.hid hB1
        have H2 := Lib.hid hB2
        clear hB hL0 hL1 hm3 hn3 hB1 hB2
        go_enter Try.func4, Try.ntmps4
        go_wp2_with fail
        refine (c_toFloat32S _ _ _ z0 _ (show IsFloats .f32 w _ _ _ z0 from HI0.out) HL0.out).mono ?_
        rintro e w1 ⟨rfl, f1, b1, l1⟩
        have F1 := Lib.hid f1
        have C1 := Lib.hid (show Below w.heap.size w w1 from b1)
        have B1 := Lib.hid (show Below w.heap.size w w1 from Below.next (Below.refl _ _) b1)
        clear f1 b1 l1
        go_wp2_with fail
        refine (c_toFloat32S _ _ _ z1 _ (show IsFloats .f32 w1 _ _ _ z1 from HI1.out.kept B1.out) HL1.out).mono ?_
        rintro e w2 ⟨rfl, f2, b2, l2⟩
        have F2 := Lib.hid f2
        have C2 := Lib.hid (show Below w1.heap.size w1 w2 from b2)
        have B2 := Lib.hid (show Below w.heap.size w w2 from Below.next B1.out b2)
        clear f2 b2 l2
        go_wp2_with fail
        refine (c_sDotNumbers _ _ _ _ _ _ z0 z1 _ (F1.out.kept C2.out) F2.out HB.out H2.out.symm).mono ?_
        rintro e v2 ⟨r, n, hr, hr2, rfl, rfl⟩
        have HR := Lib.hid hr
        clear hr hr2
        go_wp2_with fail
        refine (c_toFloat32S _ _ _ z0 _ (show IsFloats .f32 (w2.drewN n) _ _ _ z0 from HI0.out.kept (Below.next B2.out (below_drewN (Below.refl _ _) n))) HL0.out).mono ?_
        rintro e w3 ⟨rfl, f3, b3, l3⟩
        have F3 := Lib.hid f3
        have C3 := Lib.hid (show Below (w2.drewN n).heap.size (w2.drewN n) w3 from b3)
        have B3 := Lib.hid (show Below w.heap.size w w3 from Below.next (Below.next B2.out (below_drewN (Below.refl _ _) n)) b3)
        clear f3 b3 l3
        go_wp2_with fail
        refine (c_toFloat32S _ _ _ z1 _ (show IsFloats .f32 w3 _ _ _ z1 from HI1.out.kept B3.out) HL1.out).mono ?_
        rintro e w4 ⟨rfl, f4, b4, l4⟩
        have F4 := Lib.hid f4
        have C4 := Lib.hid (show Below w3.heap.size w3 w4 from b4)
        have B4 := Lib.hid (show Below w.heap.size w w4 from Below.next B3.out b4)
        clear f4 b4 l4
        go_wp2_with fail
        refine (c_iDotNumbers _ _ _ _ _ _ z0 z1 _ (F3.out.kept C4.out) F4.out HB.out H2.out.symm).mono ?_
        rintro e v4 ⟨r', n', hr', hr2', rfl, rfl⟩
        have HR' := Lib.hid hr'
        clear hr' hr2'
        go_wp2_with fail
        refine (c_sameFloat _ _ (cwide_same _ _ (by rw [HR.out, HR'.out])) _).mono ?_
        rintro e v5 ⟨rfl, q0, rfl⟩
        go_wp2_with fail
        refine (c_toFloat32S _ _ _ z0 _ (show IsFloats .f32 (w4.drewN _) _ _ _ z0 from (HI0.out.kept B4.out).drewN _) HL0.out).mono ?_
        rintro e w5 ⟨rfl, f5, b5, l5⟩
        have F5 := Lib.hid f5
        have C5 := Lib.hid (show Below w4.heap.size w4 w5 from Below.next (below_drewN (Below.refl _ _) _) b5)
        have B5 := Lib.hid (show Below w.heap.size w w5 from Below.next B4.out C5.out)
        clear f5 b5 l5
        go_wp2_with fail
        refine (c_eqFloat32S _ _ _ _ z0 _ _ ((F3.out.kept C4.out).kept C5.out) F5.out).mono ?_
        rintro e v6 ⟨rfl, q1, rfl⟩
        go_wp2_with fail
        refine (c_toFloat32S _ _ _ z1 _ (show IsFloats .f32 (w5.drewN _) _ _ _ z1 from (HI1.out.kept B5.out).drewN _) HL1.out).mono ?_
        rintro e w6 ⟨rfl, f6, b6, l6⟩
        have F6 := Lib.hid f6
        have C6 := Lib.hid (show Below w5.heap.size w5 w6 from Below.next (below_drewN (Below.refl _ _) _) b6)
        have B6 := Lib.hid (show Below w.heap.size w w6 from Below.next B5.out C6.out)
        clear f6 b6 l6
        go_wp2_with fail
        refine (c_eqFloat32S _ _ _ _ z1 _ _ ((F4.out.kept C5.out).kept C6.out) F6.out).mono ?_
        rintro e v7 ⟨rfl, q2, rfl⟩
        go_wp2_with fail
        go_ret
        exact ⟨rfl, below_drewN B6.out _⟩

/-! the row's step -/
set_option maxRecDepth 100000 in
theorem lifted (os : Os) (started : os.Started) (H : Type) (enc : TypeId × Value → H) :
    ReturnsInHanded {} Try.checked os 4 .any (Rows.fnExactDotNumbersSpec.pre6 enc Try.prog Try.f4 Rows.fnExactDotNumbersRow.domain false) (Rows.fnExactDotNumbersSpec.post enc Try.prog Try.f4 false true false false) := by
  refine returnsInHanded_of_change (C := Try.checked) own started (by kernel_rfl) Try.func4
    (ChangeSpec.witness6 (enc := enc) (C := Try.checked) false ⟨#[], #[.slice none 0 0, .slice none 0 0], []⟩ 8 (by kernel_rfl) (by kernel_rfl) (by kernel_rfl) (by kernel_rfl)) ?_
  intro W base args ds gs before hval0 hW hcnd _
  have hval : ∀ (j : Nat) t v, Try.f4.params[j]? = some t → args[j]? = some v → Value.okWide Try.prog W .any base t v := hval0
  have hW' := hW
  obtain ⟨p, q, hA0, hV, rfl, hfz, hnd⟩ := hW
  have hA : DataW.TrodAll enc Try.prog W 0 (fun _ => true) true Try.f4.params.toList args.toList ds p := hA0
  rw [Try.params4] at hA hval
  obtain ⟨v0, vs0, d0, ds0, p0, q0, hargs, rfl, rfl, h0, r0⟩ := trodAll_cons hA
  obtain ⟨v1, vs1, d1, ds1, p1, q1, rfl, rfl, rfl, h1, r1⟩ := trodAll_cons r0
  obtain ⟨rfl, rfl, rfl⟩ := trodAll_nil r1
  obtain rfl : args = #[v0, v1] := by cases args; simp_all
  obtain ⟨rfl, rfl⟩ := trodVars_none hV
  obtain ⟨a0, len0, cap0, rfl⟩ := okWide_slice Try.underlying22 (hval 0 22 v0 rfl rfl)
  have k0 := h0
  have lt0 : ∀ x ∈ p0, x.block < W.heap.size := by obtain ⟨m, hm⟩ := k0; exact DataW.trod_lt m _ _ _ hm
  obtain ⟨z0, w0⟩ := isFloats_of (k := .f32) Try.underlying22 Try.underlying23 (by kernel_rfl) h0
  obtain ⟨a1, len1, cap1, rfl⟩ := okWide_slice Try.underlying22 (hval 1 22 v1 rfl rfl)
  have k1 := h1
  have lt1 : ∀ x ∈ p1, x.block < W.heap.size := by obtain ⟨m, hm⟩ := k1; exact DataW.trod_lt m _ _ _ hm
  obtain ⟨z1, w1⟩ := isFloats_of (k := .f32) Try.underlying22 Try.underlying23 (by kernel_rfl) h1
  clear hA0 hval0
  refine (walk a0 len0 cap0 z0 a1 len1 cap1 z1 W w0 w1).mono fun e W' ⟨he, bel⟩ => ?_
  subst he
  exact ⟨_, rfl, _, _, _, [], _, [], hW', trodAll_mk1 (shut_bool Try.underlying4 _), (trodAll_cons_mk (Below.trod laidOut (by kernel_rfl) (of_decide_eq_true (by kernel_rfl)) k0 bel lt0) (trodAll_cons_mk (Below.trod laidOut (by kernel_rfl) (of_decide_eq_true (by kernel_rfl)) k1 bel lt1) trodAll_mk0)), rfl, bel.frame _, fun h => by cases h⟩

theorem over : Rows.fnExactDotNumbersRow.holds Try.pinned (OpenSpec.ofChange Rows.fnExactDotNumbersSpec) :=
  OpenClaim.holds_of_wide 4 Try.f4 rfl rfl rfl rfl rfl rfl rfl ⟨rfl, rfl, rfl, rfl, rfl⟩ rfl rfl rfl rfl rfl (by kernel_rfl) Try.func4 (by kernel_rfl)
    (of_decide_eq_true (by kernel_rfl)) (by unfold Func.isWrapper; first | (rw [if_pos (by decide +kernel)]; kernel_rfl) | (rw [if_neg (by decide +kernel)]; exact ⟨rfl, rfl⟩))
    (fun os started H enc _ => lifted os started H enc)

/-- the statement -/
theorem proved : Rows.FnExactDotNumbersSaid := over
end Go.Proofs.Ytaonfaeinoackaa.fnExactDotNumbers
