/-
  DotOfCodes answers as its model. No condition.
-/
import Derived.Test.YtgffcmmdmenefaaDtc
import Derived.Test.YtgffcmmdmenefaaToI
import Derived.ChangeOld
import Derived.Below
namespace Go.Proofs.Ytgffcmmdmenefaa.fnExactDotOfCodes
open Go.ChangeShapes Go.WideShapes Go.ChangeAt Go.RowKit
open Go.ChangeMaps (open_string shut_string)
set_option linter.unusedVariables false

set_option maxHeartbeats 4000000 in
set_option maxRecDepth 100000 in
/-- for any contracts of the model and of the program that say the same -/
theorem core (a2 : Nat) (a3 : Nat) (a0 a1 : Option Addr) (cap0 cap1 : Nat) (z0 : List Int) (z1 : List Int) (w : World) (w0' : IsRow .i64 w a0 z0.length cap0 z0) (w1' : IsRow .i64 w a1 z1.length cap1 z1) (x : Nat) (b : Bool)
    (hL : z0.length ≤ 1048576) (hL1 : z1.length ≤ 1048576) (CS' : ∀ (a0 a1 : Option Addr) (w : World), IsRow .i64 w a0 z0.length z0.length z0 → IsRow .i64 w a1 z1.length z1.length z1 → Calls Try.prog 38 #[.slice a0 z0.length z0.length, .slice a1 z1.length z1.length, .float .f32 a2, .float .f32 a3] w (RetFb x b w))
    (CI' : ∀ (a0 a1 : Option Addr) (w : World), IsRow .i64 w a0 z0.length z0.length z0 → IsRow .i64 w a1 z1.length z1.length z1 → Calls Try.prog 39 #[.slice a0 z0.length z0.length, .slice a1 z1.length z1.length, .float .f32 a2, .float .f32 a3] w (RetFb x b w)) :
    Calls Try.prog 9 #[.slice a0 z0.length cap0, .slice a1 z1.length cap1, .float .f32 a2, .float .f32 a3] w fun e w' => e = .returned (.bool true) ∧ Below w.heap.size w w' := by
  have HI0 := Lib.hid w0'
  have HZ0 := Lib.hid (show z0.length ≤ 1048576 by omega)
  have HI1 := Lib.hid w1'
  have HZ1 := Lib.hid (show z1.length ≤ 1048576 by omega)
  have CS := Lib.hid CS'
  have CI := Lib.hid CI'
  have hs0 : z0.length ≤ 1048576 := by omega
  have hs1 : z1.length ≤ 1048576 := by omega
  clear w0' w1' CS' CI'
  go_enter Try.func9, Try.ntmps9
  go_wp2_with fail
  have B_0 := Lib.hid (Below.refl w.heap.size w)
  go_wp2_with fail
  refine (c_toInts _ _ _ z0 _ (isRow_kept HI0.out B_0.out) HZ0.out).mono ?_
  rintro e w1 ⟨bT0, rfl, hf, bl⟩
  have T0_1 := Lib.hid (hf.base B_0.out.size)
  have B_1 := Lib.hid (Below.next B_0.out bl)
  clear B_0
  clear bl
  clear hf
  go_wp2_with fail
  refine (c_toInts _ _ _ z1 _ (isRow_kept HI1.out B_1.out) HZ1.out).mono ?_
  rintro e w2 ⟨bT1, rfl, hf, bl⟩
  have T1_2 := Lib.hid (hf.base B_1.out.size)
  have B_2 := Lib.hid (Below.next B_1.out bl)
  clear B_1
  have T0_2 := Lib.hid (T0_1.out.kept bl)
  clear T0_1
  clear bl
  clear hf
  go_wp2_with fail
  refine (CS.out _ _ _ T0_2.out.isRow T1_2.out.isRow).mono ?_
  rintro e w3 ⟨fS, hyS, rfl, bl⟩
  have HYS := Lib.hid hyS
  clear hyS
  have B_3 := Lib.hid (Below.next B_2.out bl)
  clear B_2
  have T0_3 := Lib.hid (T0_2.out.kept bl)
  clear T0_2
  have T1_3 := Lib.hid (T1_2.out.kept bl)
  clear T1_2
  clear bl
  clear T0_3
  clear T1_3
  go_wp2_with fail
  refine (c_toInts _ _ _ z0 _ (isRow_kept HI0.out B_3.out) HZ0.out).mono ?_
  rintro e w4 ⟨bX0, rfl, hf, bl⟩
  have X0_4 := Lib.hid (hf.base B_3.out.size)
  have B_4 := Lib.hid (Below.next B_3.out bl)
  clear B_3
  clear bl
  clear hf
  go_wp2_with fail
  refine (c_toInts _ _ _ z1 _ (isRow_kept HI1.out B_4.out) HZ1.out).mono ?_
  rintro e w5 ⟨bX1, rfl, hf, bl⟩
  have X1_5 := Lib.hid (hf.base B_4.out.size)
  have B_5 := Lib.hid (Below.next B_4.out bl)
  clear B_4
  have X0_5 := Lib.hid (X0_4.out.kept bl)
  clear X0_4
  clear bl
  clear hf
  go_wp2_with fail
  refine (CI.out _ _ _ X0_5.out.isRow X1_5.out.isRow).mono ?_
  rintro e w6 ⟨fG, hyG, rfl, bl⟩
  have HYG := Lib.hid hyG
  clear hyG
  have B_6 := Lib.hid (Below.next B_5.out bl)
  clear B_5
  have X0_6 := Lib.hid (X0_5.out.kept bl)
  clear X0_5
  have X1_6 := Lib.hid (X1_5.out.kept bl)
  clear X1_5
  clear bl
  go_wp2_with fail
  refine (c_sameFloat _ _ (cwide_same _ _ (HYG.out.trans HYS.out.symm)) _).mono ?_
  rintro e w7 ⟨rfl, dn⟩
  have bl : Below w6.heap.size w6 w7 := by first | exact dn.below | exact (below_drewN (Below.refl _ _) _).trans dn.below
  clear dn
  have B_7 := Lib.hid (Below.next B_6.out bl)
  clear B_6
  have X0_7 := Lib.hid (X0_6.out.kept bl)
  clear X0_6
  have X1_7 := Lib.hid (X1_6.out.kept bl)
  clear X1_6
  clear bl
  go_wp2_with fail
  refine (c_toInts _ _ _ z0 _ (isRow_kept HI0.out B_7.out) HZ0.out).mono ?_
  rintro e w8 ⟨bY0, rfl, hf, bl⟩
  have Y0_8 := Lib.hid (hf.base B_7.out.size)
  have B_8 := Lib.hid (Below.next B_7.out bl)
  clear B_7
  have X0_8 := Lib.hid (X0_7.out.kept bl)
  clear X0_7
  have X1_8 := Lib.hid (X1_7.out.kept bl)
  clear X1_7
  clear bl
  clear hf
  go_wp2_with fail
  refine (c_eqInts _ _ _ _ z0 z0 _ X0_8.out.isRow Y0_8.out.isRow rfl).mono ?_
  rintro e w9 ⟨rfl, dn⟩
  have bl : Below w8.heap.size w8 w9 := by first | exact dn.below | exact (below_drewN (Below.refl _ _) _).trans dn.below
  clear dn
  have B_9 := Lib.hid (Below.next B_8.out bl)
  clear B_8
  have X0_9 := Lib.hid (X0_8.out.kept bl)
  clear X0_8
  have X1_9 := Lib.hid (X1_8.out.kept bl)
  clear X1_8
  have Y0_9 := Lib.hid (Y0_8.out.kept bl)
  clear Y0_8
  clear bl
  clear Y0_9
  go_wp2_with fail
  refine (c_toInts _ _ _ z1 _ (isRow_kept HI1.out B_9.out) HZ1.out).mono ?_
  rintro e w10 ⟨bY1, rfl, hf, bl⟩
  have Y1_10 := Lib.hid (hf.base B_9.out.size)
  have B_10 := Lib.hid (Below.next B_9.out bl)
  clear B_9
  have X0_10 := Lib.hid (X0_9.out.kept bl)
  clear X0_9
  have X1_10 := Lib.hid (X1_9.out.kept bl)
  clear X1_9
  clear bl
  clear hf
  go_wp2_with fail
  refine (c_eqInts _ _ _ _ z1 z1 _ X1_10.out.isRow Y1_10.out.isRow rfl).mono ?_
  rintro e w11 ⟨rfl, dn⟩
  have bl : Below w10.heap.size w10 w11 := by first | exact dn.below | exact (below_drewN (Below.refl _ _) _).trans dn.below
  clear dn
  have B_11 := Lib.hid (Below.next B_10.out bl)
  clear B_10
  have X0_11 := Lib.hid (X0_10.out.kept bl)
  clear X0_10
  have X1_11 := Lib.hid (X1_10.out.kept bl)
  clear X1_10
  have Y1_11 := Lib.hid (Y1_10.out.kept bl)
  clear Y1_10
  clear bl
  clear Y1_11
  go_wp2_with fail
  go_ret
  exact ⟨rfl, B_11.out⟩

theorem walk (a0 : Option Addr) (len0 cap0 : Nat) (z0 : List Int) (a1 : Option Addr) (len1 cap1 : Nat) (z1 : List Int) (a2 : Nat) (a3 : Nat) (w : World) (w0 : IsRow .i64 w a0 len0 cap0 z0) (w1 : IsRow .i64 w a1 len1 cap1 z1) (w2 : (Lit.float .f32 a2).wf = true) (w3 : (Lit.float .f32 a3).wf = true) :
    Calls Try.prog 9 #[.slice a0 len0 cap0, .slice a1 len1 cap1, .float .f32 a2, .float .f32 a3] w fun e w' => e = .returned (.bool true) ∧ Below w.heap.size w w' := by
  have hn0 : len0 ≤ 9223372036854775807 := by have h1 := w0.1; have h2 := w0.2.1; unfold maxLen at h2; omega
  obtain rfl : z0.length = len0 := w0.2.2.1
  have hn1 : len1 ≤ 9223372036854775807 := by have h1 := w1.1; have h2 := w1.2.1; unfold maxLen at h2; omega
  obtain rfl : z1.length = len1 := w1.2.2.1
  by_cases hL0 : z0.length ≤ 1048576
  case neg =>
    have hq : (1048576 : Int) < (z0.length : Int) := by omega
    clear hL0
    go_enter Try.func9, Try.ntmps9
    go_wp2
    go_ret
    exact ⟨rfl, (Below.refl _ _)⟩
  case pos =>
    by_cases hL1 : z1.length ≤ 1048576
    case neg =>
      have hq : (1048576 : Int) < (z1.length : Int) := by omega
      clear hL1
      go_enter Try.func9, Try.ntmps9
      go_wp2
      go_ret
      exact ⟨rfl, (Below.refl _ _)⟩
    case pos =>
      exact core   a2 a3 a0 a1 cap0 cap1 z0 z1 w w0 w1 (vDotOfCodes z0 z1 a2 a3).1 (vDotOfCodes z0 z1 a2 a3).2 hL0 hL1  (fun a0 a1 w h0 h1 => t_sDotOfCodes z0 z1 a2 a3 a0 a1  w h0 h1 (lt32 w2) (lt32 w3)) (fun a0 a1 w h0 h1 => t_iDotOfCodes z0 z1 a2 a3 a0 a1  w h0 h1 (lt32 w2) (lt32 w3))

/-! the row's step -/
set_option maxRecDepth 100000 in
theorem lifted (os : Os) (started : os.Started) (H : Type) (enc : TypeId × Value → H) :
    ReturnsInHanded {} Try.checked os 9 .any (Rows.fnExactDotOfCodesSpec.pre6 enc Try.prog Try.f9 Rows.fnExactDotOfCodesRow.domain false) (Rows.fnExactDotOfCodesSpec.post enc Try.prog Try.f9 false true false false) := by
  refine returnsInHanded_of_change (C := Try.checked) own started (by kernel_rfl) Try.func9
    (ChangeSpec.witness6 (enc := enc) (C := Try.checked) false ⟨#[], #[.slice none 0 0, .slice none 0 0, .float .f32 0, .float .f32 0], []⟩ 8 (by kernel_rfl) (by kernel_rfl) (by kernel_rfl) (by kernel_rfl)) ?_
  intro W base args ds gs before hval0 hW hcnd _
  have hval : ∀ (j : Nat) t v, Try.f9.params[j]? = some t → args[j]? = some v → Value.okWide Try.prog W .any base t v := hval0
  have hW' := hW
  obtain ⟨p, q, hA0, hV, rfl, hfz, hnd⟩ := hW
  have hA : DataW.TrodAll enc Try.prog W 0 (fun _ => true) true Try.f9.params.toList args.toList ds p := hA0
  rw [Try.params9] at hA hval
  obtain ⟨v0, vs0, d0, ds0, p0, q0, hargs, rfl, rfl, h0, rest0⟩ := trodAll_cons hA
  obtain ⟨v1, vs1, d1, ds1, p1, q1, rfl, rfl, rfl, h1, rest1⟩ := trodAll_cons rest0
  obtain ⟨v2, vs2, d2, ds2, p2, q2, rfl, rfl, rfl, h2, rest2⟩ := trodAll_cons rest1
  obtain ⟨v3, vs3, d3, ds3, p3, q3, rfl, rfl, rfl, h3, rest3⟩ := trodAll_cons rest2
  obtain ⟨rfl, rfl, rfl⟩ := trodAll_nil rest3
  obtain rfl : args = #[v0, v1, v2, v3] := by cases args; simp_all
  obtain ⟨rfl, rfl⟩ := trodVars_none hV
  obtain ⟨a0, len0, cap0, rfl⟩ := okWide_slice Try.underlying41 (hval 0 41 v0 rfl rfl)
  have k0 := h0
  have lt0 : ∀ x ∈ p0, x.block < W.heap.size := by obtain ⟨m, hm⟩ := k0; exact DataW.trod_lt m _ _ _ hm
  obtain ⟨z0, w0⟩ := isRow_of (k := .i64) Try.underlying41 Try.underlying2 (by kernel_rfl) h0
  obtain ⟨a1, len1, cap1, rfl⟩ := okWide_slice Try.underlying41 (hval 1 41 v1 rfl rfl)
  have k1 := h1
  have lt1 : ∀ x ∈ p1, x.block < W.heap.size := by obtain ⟨m, hm⟩ := k1; exact DataW.trod_lt m _ _ _ hm
  obtain ⟨z1, w1⟩ := isRow_of (k := .i64) Try.underlying41 Try.underlying2 (by kernel_rfl) h1
  obtain ⟨a2, rfl, rfl, rfl, w2⟩ := open_float Try.underlying22 (hval 2 22 v2 rfl rfl) h2
  obtain ⟨a3, rfl, rfl, rfl, w3⟩ := open_float Try.underlying22 (hval 3 22 v3 rfl rfl) h3
  clear hA0 hval0
  refine (walk a0 len0 cap0 z0 a1 len1 cap1 z1 a2 a3 W w0 w1 w2 w3).mono fun e W' ⟨he, bel⟩ => ?_
  subst he
  exact ⟨_, rfl, _, _, _, [], _, [], hW', trodAll_mk1 (shut_bool Try.underlying4 _), (trodAll_cons_mk (Below.trod laidOut (by kernel_rfl) (of_decide_eq_true (by kernel_rfl)) k0 bel lt0) (trodAll_cons_mk (Below.trod laidOut (by kernel_rfl) (of_decide_eq_true (by kernel_rfl)) k1 bel lt1) (trodAll_cons_mk (shut_float Try.underlying22 w2) (trodAll_cons_mk (shut_float Try.underlying22 w3) trodAll_mk0)))), rfl, bel.frame _, fun h => by cases h⟩

theorem over : Rows.fnExactDotOfCodesRow.holds Try.pinned (OpenSpec.ofChange Rows.fnExactDotOfCodesSpec) :=
  OpenClaim.holds_of_wide 9 Try.f9 rfl rfl rfl rfl rfl rfl rfl ⟨rfl, rfl, rfl, rfl, rfl⟩ rfl rfl rfl rfl rfl (by kernel_rfl) Try.func9 (by kernel_rfl)
    (of_decide_eq_true (by kernel_rfl)) (by unfold Func.isWrapper; first | (rw [if_pos (by decide +kernel)]; kernel_rfl) | (rw [if_neg (by decide +kernel)]; exact ⟨rfl, rfl⟩))
    (fun os started H enc _ => lifted os started H enc)

/-- the statement -/
theorem proved : Rows.FnExactDotOfCodesSaid := over
end Go.Proofs.Ytgffcmmdmenefaa.fnExactDotOfCodes
