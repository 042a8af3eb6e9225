/-
  NumbersOf answers as its model. No condition.
-/
import Derived.Test.YtgffcmmdmenefaaNum
import Derived.Test.YtgffcmmdmenefaaToI
import Derived.ChangeOld
import Derived.Below
namespace Go.Proofs.Ytgffcmmdmenefaa.fnExactNumbersOf
open Go.ChangeShapes Go.WideShapes Go.ChangeAt Go.RowKit
open Go.ChangeMaps (open_string shut_string)
set_option linter.unusedVariables false

set_option maxHeartbeats 4000000 in
set_option maxRecDepth 100000 in
/-- for any contracts of the model and of the program that say the same -/
theorem core (a1 : Nat) (a0 : Option Addr) (cap0 : Nat) (z0 : List Int) (w : World) (w0' : IsRow .i64 w a0 z0.length cap0 z0) (b : Bool) (zs : List Nat)
    (hL : z0.length ≤ 1048576) (hz : zs.length ≤ 1048576) (CS' : ∀ (a0 : Option Addr) (w : World), IsRow .i64 w a0 z0.length z0.length z0 → Calls Try.prog 35 #[.slice a0 z0.length z0.length, .float .f32 a1] w (RetL b zs w))
    (CI' : ∀ (a0 : Option Addr) (w : World), IsRow .i64 w a0 z0.length z0.length z0 → Calls Try.prog 36 #[.slice a0 z0.length z0.length, .float .f32 a1] w (RetL b zs w)) :
    Calls Try.prog 8 #[.slice a0 z0.length cap0, .float .f32 a1] w fun e w' => e = .returned (.bool true) ∧ Below w.heap.size w w' := by
  have HI0 := Lib.hid w0'
  have HZ0 := Lib.hid (show z0.length ≤ 1048576 by omega)
  have CS := Lib.hid CS'
  have CI := Lib.hid CI'
  have hs0 : z0.length ≤ 1048576 := by omega
  clear w0' CS' CI'
  obtain ⟨m0, hm0⟩ : ∃ m, 1 + z0.length = m := ⟨_, rfl⟩
  have hm0' : m0 ≤ 4194304 := by omega
  have hn0' : (0 : Int) ≤ (m0 : Int) := by omega
  have HM0 := Lib.hid hm0
  clear hm0
  go_enter Try.func8, Try.ntmps8
  go_wp2_with fail
  have B_0 := Lib.hid (Below.refl w.heap.size w)
  go_wp2_with fail
  refine (c_toInts _ _ _ z0 _ (isRow_kept HI0.out B_0.out) HZ0.out).mono ?_
  rintro e w1 ⟨bT0, rfl, hf, bl⟩
  have T0_1 := Lib.hid (hf.base B_0.out.size)
  have B_1 := Lib.hid (Below.next B_0.out bl)
  clear B_0
  clear bl
  clear hf
  go_wp2_with fail
  refine (CS.out _ _ T0_1.out.isRow).mono ?_
  rintro e w2 ⟨bS, capS, yS, rfl, hf, hyS, bl⟩
  have HYS := Lib.hid hyS
  clear hyS
  have S_2 := Lib.hid (hf.base B_1.out.size)
  have B_2 := Lib.hid (Below.next B_1.out bl)
  clear B_1
  have T0_2 := Lib.hid (T0_1.out.kept bl)
  clear T0_1
  clear bl hf
  clear T0_2
  go_wp2_with fail
  refine (c_toInts _ _ _ z0 _ (isRow_kept HI0.out B_2.out) HZ0.out).mono ?_
  rintro e w3 ⟨bX0, rfl, hf, bl⟩
  have NSX0 := Lib.hid (lt_apart S_2.out.lt hf.lt)
  have X0_3 := Lib.hid (hf.base B_2.out.size)
  have B_3 := Lib.hid (Below.next B_2.out bl)
  clear B_2
  have S_3 := Lib.hid (S_2.out.kept bl)
  clear S_2
  clear bl
  clear hf
  go_wp2_with fail
  refine (CI.out _ _ X0_3.out.isRow).mono ?_
  rintro e w4 ⟨bG, capG, yG, rfl, hf, hyG, bl⟩
  have HYG := Lib.hid hyG
  clear hyG
  have NX0 := Lib.hid (lt_apart X0_3.out.lt hf.lt)
  have NS := Lib.hid (lt_apart S_3.out.lt hf.lt)
  have LG := Lib.hid (hf.lenle HYG.out hz)
  have BG := Lib.hid (hf.base B_3.out.size)
  have G_4 := Lib.hid (hf.base B_3.out.size)
  have B_4 := Lib.hid (Below.next B_3.out bl)
  clear B_3
  have S_4 := Lib.hid (S_3.out.kept bl)
  clear S_3
  have X0_4 := Lib.hid (X0_3.out.kept bl)
  clear X0_3
  clear bl hf
  go_wp2_with fail
  refine (c_eqFloats _ _ _ _ yG yS _ G_4.out.isFloats S_4.out.isFloats (HYG.out.trans HYS.out.symm)).mono ?_
  rintro e w5 ⟨rfl, dn⟩
  have bl : Below w4.heap.size w4 w5 := by first | exact dn.below | exact (below_drewN (Below.refl _ _) _).trans dn.below
  clear dn
  have B_5 := Lib.hid (Below.next B_4.out bl)
  clear B_4
  have S_5 := Lib.hid (S_4.out.kept bl)
  clear S_4
  have X0_5 := Lib.hid (X0_4.out.kept bl)
  clear X0_4
  have G_5 := Lib.hid (G_4.out.kept bl)
  clear G_4
  clear bl
  go_wp2_with fail
  refine (c_toInts _ _ _ z0 _ (isRow_kept HI0.out B_5.out) HZ0.out).mono ?_
  rintro e w6 ⟨bY0, rfl, hf, bl⟩
  have Y0_6 := Lib.hid (hf.base B_5.out.size)
  have B_6 := Lib.hid (Below.next B_5.out bl)
  clear B_5
  have S_6 := Lib.hid (S_5.out.kept bl)
  clear S_5
  have X0_6 := Lib.hid (X0_5.out.kept bl)
  clear X0_5
  have G_6 := Lib.hid (G_5.out.kept bl)
  clear G_5
  clear bl
  clear hf
  go_wp2_with fail
  refine (c_eqInts _ _ _ _ z0 z0 _ X0_6.out.isRow Y0_6.out.isRow rfl).mono ?_
  rintro e w7 ⟨rfl, dn⟩
  have bl : Below w6.heap.size w6 w7 := by first | exact dn.below | exact (below_drewN (Below.refl _ _) _).trans dn.below
  clear dn
  have B_7 := Lib.hid (Below.next B_6.out bl)
  clear B_6
  have S_7 := Lib.hid (S_6.out.kept bl)
  clear S_6
  have X0_7 := Lib.hid (X0_6.out.kept bl)
  clear X0_6
  have G_7 := Lib.hid (G_6.out.kept bl)
  clear G_6
  have Y0_7 := Lib.hid (Y0_6.out.kept bl)
  clear Y0_6
  clear bl
  clear Y0_7
  go_wp2_with fail
  refine (c_markInts' _ _ _ 1 m0 z0 _ X0_7.out HM0.out (by decide) HZ0.out).mono ?_
  rintro e w8 ⟨rfl, ho, hg⟩
  have B_8 := Lib.hid (Below.grownBy B_7.out hg B_7.out.size (fun g h => (X0_7.out.lt g h).1))
  have S_8 := Lib.hid (S_7.out.apart hg NSX0.out)
  have X0_8 := Lib.hid (ho)
  have G_8 := Lib.hid (G_7.out.apart hg (fun g h h' => NX0.out g h' h))
  clear B_7
  clear S_7
  clear X0_7
  clear G_7
  clear ho hg
  go_wp2_with fail
  refine (c_eqFloats _ _ _ _ yG yS _ G_8.out.isFloats S_8.out.isFloats (HYG.out.trans HYS.out.symm)).mono ?_
  rintro e w9 ⟨rfl, dn⟩
  have bl : Below w8.heap.size w8 w9 := by first | exact dn.below | exact (below_drewN (Below.refl _ _) _).trans dn.below
  clear dn
  have B_9 := Lib.hid (Below.next B_8.out bl)
  clear B_8
  have S_9 := Lib.hid (S_8.out.kept bl)
  clear S_8
  have X0_9 := Lib.hid (X0_8.out.kept bl)
  clear X0_8
  have G_9 := Lib.hid (G_8.out.kept bl)
  clear G_8
  clear bl
  clear X0_9
  go_wp2_with fail
  obtain ⟨q, hq⟩ : ∃ q, 1 + yG.length = q := ⟨_, rfl⟩
  have HQ := Lib.hid hq
  have hq' : q ≤ 4194304 := by have := LG.out; omega
  have hq0 : (0 : Int) ≤ (q : Int) := by omega
  clear hq
  refine (c_markFloats' _ _ _ 1 q yG _ G_9.out HQ.out (by decide) LG.out).mono ?_
  rintro e w10 ⟨rfl, ho, hg⟩
  have B_10 := Lib.hid (Below.grownBy B_9.out hg B_9.out.size (fun g h => (G_9.out.lt g h).1))
  have S_10 := Lib.hid (S_9.out.apart hg NS.out)
  have G_10 := Lib.hid (ho)
  clear B_9
  clear S_9
  clear G_9
  clear ho hg
  go_wp2_with fail
  refine (c_heldFloats' _ _ 1 q yG.length _ G_10.out.held HQ.out (by decide) LG.out).mono ?_
  rintro e w' ⟨rfl, rfl⟩
  go_wp2_with fail
  refine (c_toInts _ _ _ z0 _ (isRow_kept HI0.out B_10.out) HZ0.out).mono ?_
  rintro e w11 ⟨bU0, rfl, hf, bl⟩
  have U0_11 := Lib.hid (hf.base B_10.out.size)
  have B_11 := Lib.hid (Below.next B_10.out bl)
  clear B_10
  have S_11 := Lib.hid (S_10.out.kept bl)
  clear S_10
  have G_11 := Lib.hid (G_10.out.kept bl)
  clear G_10
  clear bl
  clear hf
  go_wp2_with fail
  refine (CI.out _ _ U0_11.out.isRow).mono ?_
  rintro e w12 ⟨bH, capH, yH, rfl, hf, hyH, bl⟩
  have HYH := Lib.hid hyH
  clear hyH
  have H_12 := Lib.hid (hf.base B_11.out.size)
  have B_12 := Lib.hid (Below.next B_11.out bl)
  clear B_11
  have S_12 := Lib.hid (S_11.out.kept bl)
  clear S_11
  have G_12 := Lib.hid (G_11.out.kept bl)
  clear G_11
  have U0_12 := Lib.hid (U0_11.out.kept bl)
  clear U0_11
  clear bl hf
  clear U0_12
  go_wp2_with fail
  refine (c_eqFloats _ _ _ _ yH yS _ H_12.out.isFloats S_12.out.isFloats (HYH.out.trans HYS.out.symm)).mono ?_
  rintro e w13 ⟨rfl, dn⟩
  have bl : Below w12.heap.size w12 w13 := by first | exact dn.below | exact (below_drewN (Below.refl _ _) _).trans dn.below
  clear dn
  have B_13 := Lib.hid (Below.next B_12.out bl)
  clear B_12
  have S_13 := Lib.hid (S_12.out.kept bl)
  clear S_12
  have G_13 := Lib.hid (G_12.out.kept bl)
  clear G_12
  have H_13 := Lib.hid (H_12.out.kept bl)
  clear H_12
  clear bl
  go_wp2_with fail
  refine (c_heldFloats' _ _ 1 q yG.length _ G_13.out.held HQ.out (by decide) LG.out).mono ?_
  rintro e w' ⟨rfl, rfl⟩
  go_wp2_with fail
  go_ret
  exact ⟨rfl, B_13.out⟩

theorem walk (a0 : Option Addr) (len0 cap0 : Nat) (z0 : List Int) (a1 : Nat) (w : World) (w0 : IsRow .i64 w a0 len0 cap0 z0) (w1 : (Lit.float .f32 a1).wf = true) :
    Calls Try.prog 8 #[.slice a0 len0 cap0, .float .f32 a1] w fun e w' => e = .returned (.bool true) ∧ Below w.heap.size w w' := by
  have hn0 : len0 ≤ 9223372036854775807 := by have h1 := w0.1; have h2 := w0.2.1; unfold maxLen at h2; omega
  obtain rfl : z0.length = len0 := w0.2.2.1
  by_cases hL0 : z0.length ≤ 1048576
  case neg =>
    have hq : (1048576 : Int) < (z0.length : Int) := by omega
    clear hL0
    go_enter Try.func8, Try.ntmps8
    go_wp2
    go_ret
    exact ⟨rfl, (Below.refl _ _)⟩
  case pos =>
    exact core  a1 a0 cap0 z0 w w0 (vNumbersOf z0 a1).1 (vNumbersOf z0 a1).2 hL0 (vNumbersOf_len z0 a1) (fun a0 w h0 => t_sNumbersOf z0 a1 a0  w h0 (lt32 w1)) (fun a0 w h0 => t_iNumbersOf z0 a1 a0  w h0 (lt32 w1))

/-! the row's step -/
set_option maxRecDepth 100000 in
theorem lifted (os : Os) (started : os.Started) (H : Type) (enc : TypeId × Value → H) :
    ReturnsInHanded {} Try.checked os 8 .any (Rows.fnExactNumbersOfSpec.pre6 enc Try.prog Try.f8 Rows.fnExactNumbersOfRow.domain false) (Rows.fnExactNumbersOfSpec.post enc Try.prog Try.f8 false true false false) := by
  refine returnsInHanded_of_change (C := Try.checked) own started (by kernel_rfl) Try.func8
    (ChangeSpec.witness6 (enc := enc) (C := Try.checked) false ⟨#[], #[.slice none 0 0, .float .f32 0], []⟩ 8 (by kernel_rfl) (by kernel_rfl) (by kernel_rfl) (by kernel_rfl)) ?_
  intro W base args ds gs before hval0 hW hcnd _
  have hval : ∀ (j : Nat) t v, Try.f8.params[j]? = some t → args[j]? = some v → Value.okWide Try.prog W .any base t v := hval0
  have hW' := hW
  obtain ⟨p, q, hA0, hV, rfl, hfz, hnd⟩ := hW
  have hA : DataW.TrodAll enc Try.prog W 0 (fun _ => true) true Try.f8.params.toList args.toList ds p := hA0
  rw [Try.params8] at hA hval
  obtain ⟨v0, vs0, d0, ds0, p0, q0, hargs, rfl, rfl, h0, rest0⟩ := trodAll_cons hA
  obtain ⟨v1, vs1, d1, ds1, p1, q1, rfl, rfl, rfl, h1, rest1⟩ := trodAll_cons rest0
  obtain ⟨rfl, rfl, rfl⟩ := trodAll_nil rest1
  obtain rfl : args = #[v0, v1] := by cases args; simp_all
  obtain ⟨rfl, rfl⟩ := trodVars_none hV
  obtain ⟨a0, len0, cap0, rfl⟩ := okWide_slice Try.underlying41 (hval 0 41 v0 rfl rfl)
  have k0 := h0
  have lt0 : ∀ x ∈ p0, x.block < W.heap.size := by obtain ⟨m, hm⟩ := k0; exact DataW.trod_lt m _ _ _ hm
  obtain ⟨z0, w0⟩ := isRow_of (k := .i64) Try.underlying41 Try.underlying2 (by kernel_rfl) h0
  obtain ⟨a1, rfl, rfl, rfl, w1⟩ := open_float Try.underlying22 (hval 1 22 v1 rfl rfl) h1
  clear hA0 hval0
  refine (walk a0 len0 cap0 z0 a1 W w0 w1).mono fun e W' ⟨he, bel⟩ => ?_
  subst he
  exact ⟨_, rfl, _, _, _, [], _, [], hW', trodAll_mk1 (shut_bool Try.underlying4 _), (trodAll_cons_mk (Below.trod laidOut (by kernel_rfl) (of_decide_eq_true (by kernel_rfl)) k0 bel lt0) (trodAll_cons_mk (shut_float Try.underlying22 w1) trodAll_mk0)), rfl, bel.frame _, fun h => by cases h⟩

theorem over : Rows.fnExactNumbersOfRow.holds Try.pinned (OpenSpec.ofChange Rows.fnExactNumbersOfSpec) :=
  OpenClaim.holds_of_wide 8 Try.f8 rfl rfl rfl rfl rfl rfl rfl ⟨rfl, rfl, rfl, rfl, rfl⟩ rfl rfl rfl rfl rfl (by kernel_rfl) Try.func8 (by kernel_rfl)
    (of_decide_eq_true (by kernel_rfl)) (by unfold Func.isWrapper; first | (rw [if_pos (by decide +kernel)]; kernel_rfl) | (rw [if_neg (by decide +kernel)]; exact ⟨rfl, rfl⟩))
    (fun os started H enc _ => lifted os started H enc)

/-- the statement -/
theorem proved : Rows.FnExactNumbersOfSaid := over
end Go.Proofs.Ytgffcmmdmenefaa.fnExactNumbersOf
