/-
  CodesBy answers as its model. No condition.
-/
import Derived.Test.YtgffcmmdmenefaaCbs
import Derived.Test.YtgffcmmdmenefaaToI
import Derived.ChangeOld
import Derived.Below
namespace Go.Proofs.Ytgffcmmdmenefaa.fnExactCodesBy
open Go.ChangeShapes Go.WideShapes Go.ChangeAt Go.RowKit
open Go.ChangeMaps (open_string shut_string)
set_option linter.unusedVariables false

set_option maxHeartbeats 4000000 in
set_option maxRecDepth 100000 in
/-- for any contracts of the model and of the program that say the same -/
theorem core (a1 : Nat) (a0 a2 : Option Addr) (cap0 cap2 : Nat) (z0 : List Nat) (z2 : List Int) (w : World) (w0' : IsFloats .f32 w a0 z0.length cap0 z0) (w2' : IsRow .i64 w a2 z2.length cap2 z2) (b : Bool) (zs : List Int)
    (hL : z0.length ≤ 1048576) (hL2 : z2.length ≤ 1048576) (hz : zs.length ≤ 1048576) (CS' : ∀ (a0 a2 : Option Addr) (w : World), IsFloats .f32 w a0 z0.length z0.length z0 → IsRow .i64 w a2 z2.length z2.length z2 → Calls Try.prog 32 #[.slice a0 z0.length z0.length, .float .f32 a1, .slice a2 z2.length z2.length] w (RetI b zs w))
    (CI' : ∀ (a0 a2 : Option Addr) (w : World), IsFloats .f32 w a0 z0.length z0.length z0 → IsRow .i64 w a2 z2.length z2.length z2 → Calls Try.prog 34 #[.slice a0 z0.length z0.length, .float .f32 a1, .slice a2 z2.length z2.length] w (RetI b zs w)) :
    Calls Try.prog 7 #[.slice a0 z0.length cap0, .float .f32 a1, .slice a2 z2.length cap2] w fun e w' => e = .returned (.bool true) ∧ Below w.heap.size w w' := by
  have HI0 := Lib.hid w0'
  have HZ0 := Lib.hid (show z0.length ≤ 1048576 by omega)
  have HI2 := Lib.hid w2'
  have HZ2 := Lib.hid (show z2.length ≤ 1048576 by omega)
  have CS := Lib.hid CS'
  have CI := Lib.hid CI'
  have hs0 : z0.length ≤ 1048576 := by omega
  have hs2 : z2.length ≤ 1048576 := by omega
  clear w0' w2' CS' CI'
  obtain ⟨m0, hm0⟩ : ∃ m, 1 + z0.length = m := ⟨_, rfl⟩
  obtain ⟨m2, hm2⟩ : ∃ m, m0 + z2.length = m := ⟨_, rfl⟩
  have hm0' : m0 ≤ 4194304 := by omega
  have hn0' : (0 : Int) ≤ (m0 : Int) := by omega
  have hm2' : m2 ≤ 4194304 := by omega
  have hn2' : (0 : Int) ≤ (m2 : Int) := by omega
  have HM0 := Lib.hid hm0
  have HM2 := Lib.hid hm2
  clear hm2 hm0
  go_enter Try.func7, Try.ntmps7
  go_wp2_with fail
  have B_0 := Lib.hid (Below.refl w.heap.size w)
  go_wp2_with fail
  refine (c_toFloats _ _ _ z0 _ (HI0.out.kept B_0.out) HZ0.out).mono ?_
  rintro e w1 ⟨bT0, rfl, hf, bl⟩
  have T0_1 := Lib.hid (hf.base B_0.out.size)
  have B_1 := Lib.hid (Below.next B_0.out bl)
  clear B_0
  clear bl
  clear hf
  go_wp2_with fail
  refine (c_toInts _ _ _ z2 _ (isRow_kept HI2.out B_1.out) HZ2.out).mono ?_
  rintro e w2 ⟨bT2, rfl, hf, bl⟩
  have T2_2 := Lib.hid (hf.base B_1.out.size)
  have B_2 := Lib.hid (Below.next B_1.out bl)
  clear B_1
  have T0_2 := Lib.hid (T0_1.out.kept bl)
  clear T0_1
  clear bl
  clear hf
  go_wp2_with fail
  refine (CS.out _ _ _ T0_2.out.isFloats T2_2.out.isRow).mono ?_
  rintro e w3 ⟨bS, capS, yS, rfl, hf, hyS, bl⟩
  have HYS := Lib.hid hyS
  clear hyS
  have S_3 := Lib.hid (hf.base B_2.out.size)
  have B_3 := Lib.hid (Below.next B_2.out bl)
  clear B_2
  have T0_3 := Lib.hid (T0_2.out.kept bl)
  clear T0_2
  have T2_3 := Lib.hid (T2_2.out.kept bl)
  clear T2_2
  clear bl hf
  clear T0_3
  clear T2_3
  go_wp2_with fail
  refine (c_toFloats _ _ _ z0 _ (HI0.out.kept B_3.out) HZ0.out).mono ?_
  rintro e w4 ⟨bX0, rfl, hf, bl⟩
  have NSX0 := Lib.hid (lt_apart S_3.out.lt hf.lt)
  have X0_4 := Lib.hid (hf.base B_3.out.size)
  have B_4 := Lib.hid (Below.next B_3.out bl)
  clear B_3
  have S_4 := Lib.hid (S_3.out.kept bl)
  clear S_3
  clear bl
  clear hf
  go_wp2_with fail
  refine (c_toInts _ _ _ z2 _ (isRow_kept HI2.out B_4.out) HZ2.out).mono ?_
  rintro e w5 ⟨bX2, rfl, hf, bl⟩
  have NSX2 := Lib.hid (lt_apart S_4.out.lt hf.lt)
  have NXX0_2 := Lib.hid (lt_apart X0_4.out.lt hf.lt)
  have X2_5 := Lib.hid (hf.base B_4.out.size)
  have B_5 := Lib.hid (Below.next B_4.out bl)
  clear B_4
  have S_5 := Lib.hid (S_4.out.kept bl)
  clear S_4
  have X0_5 := Lib.hid (X0_4.out.kept bl)
  clear X0_4
  clear bl
  clear hf
  go_wp2_with fail
  refine (CI.out _ _ _ X0_5.out.isFloats X2_5.out.isRow).mono ?_
  rintro e w6 ⟨bG, capG, yG, rfl, hf, hyG, bl⟩
  have HYG := Lib.hid hyG
  clear hyG
  have NX0 := Lib.hid (lt_apart X0_5.out.lt hf.lt)
  have NX2 := Lib.hid (lt_apart X2_5.out.lt hf.lt)
  have NS := Lib.hid (lt_apart S_5.out.lt hf.lt)
  have LG := Lib.hid (hf.lenle HYG.out hz)
  have BG := Lib.hid (hf.base B_5.out.size)
  have G_6 := Lib.hid (hf.base B_5.out.size)
  have B_6 := Lib.hid (Below.next B_5.out bl)
  clear B_5
  have S_6 := Lib.hid (S_5.out.kept bl)
  clear S_5
  have X0_6 := Lib.hid (X0_5.out.kept bl)
  clear X0_5
  have X2_6 := Lib.hid (X2_5.out.kept bl)
  clear X2_5
  clear bl hf
  go_wp2_with fail
  refine (c_eqInts _ _ _ _ yG yS _ G_6.out.isRow S_6.out.isRow (HYG.out.trans HYS.out.symm)).mono ?_
  rintro e w7 ⟨rfl, dn⟩
  have bl : Below w6.heap.size w6 w7 := by first | exact dn.below | exact (below_drewN (Below.refl _ _) _).trans dn.below
  clear dn
  have B_7 := Lib.hid (Below.next B_6.out bl)
  clear B_6
  have S_7 := Lib.hid (S_6.out.kept bl)
  clear S_6
  have X0_7 := Lib.hid (X0_6.out.kept bl)
  clear X0_6
  have X2_7 := Lib.hid (X2_6.out.kept bl)
  clear X2_6
  have G_7 := Lib.hid (G_6.out.kept bl)
  clear G_6
  clear bl
  go_wp2_with fail
  refine (c_toFloats _ _ _ z0 _ (HI0.out.kept B_7.out) HZ0.out).mono ?_
  rintro e w8 ⟨bY0, rfl, hf, bl⟩
  have Y0_8 := Lib.hid (hf.base B_7.out.size)
  have B_8 := Lib.hid (Below.next B_7.out bl)
  clear B_7
  have S_8 := Lib.hid (S_7.out.kept bl)
  clear S_7
  have X0_8 := Lib.hid (X0_7.out.kept bl)
  clear X0_7
  have X2_8 := Lib.hid (X2_7.out.kept bl)
  clear X2_7
  have G_8 := Lib.hid (G_7.out.kept bl)
  clear G_7
  clear bl
  clear hf
  go_wp2_with fail
  refine (c_eqFloats _ _ _ _ z0 z0 _ X0_8.out.isFloats Y0_8.out.isFloats rfl).mono ?_
  rintro e w9 ⟨rfl, dn⟩
  have bl : Below w8.heap.size w8 w9 := by first | exact dn.below | exact (below_drewN (Below.refl _ _) _).trans dn.below
  clear dn
  have B_9 := Lib.hid (Below.next B_8.out bl)
  clear B_8
  have S_9 := Lib.hid (S_8.out.kept bl)
  clear S_8
  have X0_9 := Lib.hid (X0_8.out.kept bl)
  clear X0_8
  have X2_9 := Lib.hid (X2_8.out.kept bl)
  clear X2_8
  have G_9 := Lib.hid (G_8.out.kept bl)
  clear G_8
  have Y0_9 := Lib.hid (Y0_8.out.kept bl)
  clear Y0_8
  clear bl
  clear Y0_9
  go_wp2_with fail
  refine (c_toInts _ _ _ z2 _ (isRow_kept HI2.out B_9.out) HZ2.out).mono ?_
  rintro e w10 ⟨bY2, rfl, hf, bl⟩
  have Y2_10 := Lib.hid (hf.base B_9.out.size)
  have B_10 := Lib.hid (Below.next B_9.out bl)
  clear B_9
  have S_10 := Lib.hid (S_9.out.kept bl)
  clear S_9
  have X0_10 := Lib.hid (X0_9.out.kept bl)
  clear X0_9
  have X2_10 := Lib.hid (X2_9.out.kept bl)
  clear X2_9
  have G_10 := Lib.hid (G_9.out.kept bl)
  clear G_9
  clear bl
  clear hf
  go_wp2_with fail
  refine (c_eqInts _ _ _ _ z2 z2 _ X2_10.out.isRow Y2_10.out.isRow rfl).mono ?_
  rintro e w11 ⟨rfl, dn⟩
  have bl : Below w10.heap.size w10 w11 := by first | exact dn.below | exact (below_drewN (Below.refl _ _) _).trans dn.below
  clear dn
  have B_11 := Lib.hid (Below.next B_10.out bl)
  clear B_10
  have S_11 := Lib.hid (S_10.out.kept bl)
  clear S_10
  have X0_11 := Lib.hid (X0_10.out.kept bl)
  clear X0_10
  have X2_11 := Lib.hid (X2_10.out.kept bl)
  clear X2_10
  have G_11 := Lib.hid (G_10.out.kept bl)
  clear G_10
  have Y2_11 := Lib.hid (Y2_10.out.kept bl)
  clear Y2_10
  clear bl
  clear Y2_11
  go_wp2_with fail
  refine (c_markFloats' _ _ _ 1 m0 z0 _ X0_11.out HM0.out (by decide) HZ0.out).mono ?_
  rintro e w12 ⟨rfl, ho, hg⟩
  have B_12 := Lib.hid (Below.grownBy B_11.out hg B_11.out.size (fun g h => (X0_11.out.lt g h).1))
  have S_12 := Lib.hid (S_11.out.apart hg NSX0.out)
  have X0_12 := Lib.hid (ho)
  have X2_12 := Lib.hid (X2_11.out.apart hg (fun g h h' => NXX0_2.out g h' h))
  have G_12 := Lib.hid (G_11.out.apart hg (fun g h h' => NX0.out g h' h))
  clear B_11
  clear S_11
  clear X0_11
  clear X2_11
  clear G_11
  clear ho hg
  go_wp2_with fail
  refine (c_markInts' _ _ _ m0 m2 z2 _ X2_12.out HM2.out hm0' HZ2.out).mono ?_
  rintro e w13 ⟨rfl, ho, hg⟩
  have B_13 := Lib.hid (Below.grownBy B_12.out hg B_12.out.size (fun g h => (X2_12.out.lt g h).1))
  have S_13 := Lib.hid (S_12.out.apart hg NSX2.out)
  have X0_13 := Lib.hid (X0_12.out.apart hg NXX0_2.out)
  have X2_13 := Lib.hid (ho)
  have G_13 := Lib.hid (G_12.out.apart hg (fun g h h' => NX2.out g h' h))
  clear B_12
  clear S_12
  clear X0_12
  clear X2_12
  clear G_12
  clear ho hg
  go_wp2_with fail
  refine (c_eqInts _ _ _ _ yG yS _ G_13.out.isRow S_13.out.isRow (HYG.out.trans HYS.out.symm)).mono ?_
  rintro e w14 ⟨rfl, dn⟩
  have bl : Below w13.heap.size w13 w14 := by first | exact dn.below | exact (below_drewN (Below.refl _ _) _).trans dn.below
  clear dn
  have B_14 := Lib.hid (Below.next B_13.out bl)
  clear B_13
  have S_14 := Lib.hid (S_13.out.kept bl)
  clear S_13
  have X0_14 := Lib.hid (X0_13.out.kept bl)
  clear X0_13
  have X2_14 := Lib.hid (X2_13.out.kept bl)
  clear X2_13
  have G_14 := Lib.hid (G_13.out.kept bl)
  clear G_13
  clear bl
  clear X0_14
  clear X2_14
  go_wp2_with fail
  obtain ⟨q, hq⟩ : ∃ q, 1 + yG.length = q := ⟨_, rfl⟩
  have HQ := Lib.hid hq
  have hq' : q ≤ 4194304 := by have := LG.out; omega
  have hq0 : (0 : Int) ≤ (q : Int) := by omega
  clear hq
  refine (c_markInts' _ _ _ 1 q yG _ G_14.out HQ.out (by decide) LG.out).mono ?_
  rintro e w15 ⟨rfl, ho, hg⟩
  have B_15 := Lib.hid (Below.grownBy B_14.out hg B_14.out.size (fun g h => (G_14.out.lt g h).1))
  have S_15 := Lib.hid (S_14.out.apart hg NS.out)
  have G_15 := Lib.hid (ho)
  clear B_14
  clear S_14
  clear G_14
  clear ho hg
  go_wp2_with fail
  refine (c_heldInts' _ _ 1 q yG.length _ G_15.out.held HQ.out (by decide) LG.out).mono ?_
  rintro e w' ⟨rfl, rfl⟩
  go_wp2_with fail
  refine (c_toFloats _ _ _ z0 _ (HI0.out.kept B_15.out) HZ0.out).mono ?_
  rintro e w16 ⟨bU0, rfl, hf, bl⟩
  have U0_16 := Lib.hid (hf.base B_15.out.size)
  have B_16 := Lib.hid (Below.next B_15.out bl)
  clear B_15
  have S_16 := Lib.hid (S_15.out.kept bl)
  clear S_15
  have G_16 := Lib.hid (G_15.out.kept bl)
  clear G_15
  clear bl
  clear hf
  go_wp2_with fail
  refine (c_toInts _ _ _ z2 _ (isRow_kept HI2.out B_16.out) HZ2.out).mono ?_
  rintro e w17 ⟨bU2, rfl, hf, bl⟩
  have U2_17 := Lib.hid (hf.base B_16.out.size)
  have B_17 := Lib.hid (Below.next B_16.out bl)
  clear B_16
  have S_17 := Lib.hid (S_16.out.kept bl)
  clear S_16
  have G_17 := Lib.hid (G_16.out.kept bl)
  clear G_16
  have U0_17 := Lib.hid (U0_16.out.kept bl)
  clear U0_16
  clear bl
  clear hf
  go_wp2_with fail
  refine (CI.out _ _ _ U0_17.out.isFloats U2_17.out.isRow).mono ?_
  rintro e w18 ⟨bH, capH, yH, rfl, hf, hyH, bl⟩
  have HYH := Lib.hid hyH
  clear hyH
  have H_18 := Lib.hid (hf.base B_17.out.size)
  have B_18 := Lib.hid (Below.next B_17.out bl)
  clear B_17
  have S_18 := Lib.hid (S_17.out.kept bl)
  clear S_17
  have G_18 := Lib.hid (G_17.out.kept bl)
  clear G_17
  have U0_18 := Lib.hid (U0_17.out.kept bl)
  clear U0_17
  have U2_18 := Lib.hid (U2_17.out.kept bl)
  clear U2_17
  clear bl hf
  clear U0_18
  clear U2_18
  go_wp2_with fail
  refine (c_eqInts _ _ _ _ yH yS _ H_18.out.isRow S_18.out.isRow (HYH.out.trans HYS.out.symm)).mono ?_
  rintro e w19 ⟨rfl, dn⟩
  have bl : Below w18.heap.size w18 w19 := by first | exact dn.below | exact (below_drewN (Below.refl _ _) _).trans dn.below
  clear dn
  have B_19 := Lib.hid (Below.next B_18.out bl)
  clear B_18
  have S_19 := Lib.hid (S_18.out.kept bl)
  clear S_18
  have G_19 := Lib.hid (G_18.out.kept bl)
  clear G_18
  have H_19 := Lib.hid (H_18.out.kept bl)
  clear H_18
  clear bl
  go_wp2_with fail
  refine (c_heldInts' _ _ 1 q yG.length _ G_19.out.held HQ.out (by decide) LG.out).mono ?_
  rintro e w' ⟨rfl, rfl⟩
  go_wp2_with fail
  go_ret
  exact ⟨rfl, B_19.out⟩

theorem walk (a0 : Option Addr) (len0 cap0 : Nat) (z0 : List Nat) (a1 : Nat) (a2 : Option Addr) (len2 cap2 : Nat) (z2 : List Int) (w : World) (w0 : IsFloats .f32 w a0 len0 cap0 z0) (w1 : (Lit.float .f32 a1).wf = true) (w2 : IsRow .i64 w a2 len2 cap2 z2) :
    Calls Try.prog 7 #[.slice a0 len0 cap0, .float .f32 a1, .slice a2 len2 cap2] w fun e w' => e = .returned (.bool true) ∧ Below w.heap.size w w' := by
  have hn0 : len0 ≤ 9223372036854775807 := by have h1 := w0.1; have h2 := w0.2.1; unfold maxLen at h2; omega
  obtain rfl : z0.length = len0 := w0.2.2.1
  have hn2 : len2 ≤ 9223372036854775807 := by have h1 := w2.1; have h2 := w2.2.1; unfold maxLen at h2; omega
  obtain rfl : z2.length = len2 := w2.2.2.1
  by_cases hL0 : z0.length ≤ 1048576
  case neg =>
    have hq : (1048576 : Int) < (z0.length : Int) := by omega
    clear hL0
    go_enter Try.func7, Try.ntmps7
    go_wp2
    go_ret
    exact ⟨rfl, (Below.refl _ _)⟩
  case pos =>
    by_cases hL2 : z2.length ≤ 1048576
    case neg =>
      have hq : (1048576 : Int) < (z2.length : Int) := by omega
      clear hL2
      go_enter Try.func7, Try.ntmps7
      go_wp2
      go_ret
      exact ⟨rfl, (Below.refl _ _)⟩
    case pos =>
      exact core  a1  a0 a2 cap0 cap2 z0 z2 w w0 w2 (vCodesBy z0 a1 z2).1 (vCodesBy z0 a1 z2).2 hL0 hL2 (vCodesBy_len z0 a1 z2) (fun a0 a2 w h0 h2 => t_sCodesBy z0 a1 z2 a0 a2  w h0 h2 (lt32 w1)) (fun a0 a2 w h0 h2 => t_iCodesBy z0 a1 z2 a0 a2  w h0 h2 (lt32 w1))

/-! the row's step -/
set_option maxRecDepth 100000 in
theorem lifted (os : Os) (started : os.Started) (H : Type) (enc : TypeId × Value → H) :
    ReturnsInHanded {} Try.checked os 7 .any (Rows.fnExactCodesBySpec.pre6 enc Try.prog Try.f7 Rows.fnExactCodesByRow.domain false) (Rows.fnExactCodesBySpec.post enc Try.prog Try.f7 false true false false) := by
  refine returnsInHanded_of_change (C := Try.checked) own started (by kernel_rfl) Try.func7
    (ChangeSpec.witness6 (enc := enc) (C := Try.checked) false ⟨#[], #[.slice none 0 0, .float .f32 0, .slice none 0 0], []⟩ 8 (by kernel_rfl) (by kernel_rfl) (by kernel_rfl) (by kernel_rfl)) ?_
  intro W base args ds gs before hval0 hW hcnd _
  have hval : ∀ (j : Nat) t v, Try.f7.params[j]? = some t → args[j]? = some v → Value.okWide Try.prog W .any base t v := hval0
  have hW' := hW
  obtain ⟨p, q, hA0, hV, rfl, hfz, hnd⟩ := hW
  have hA : DataW.TrodAll enc Try.prog W 0 (fun _ => true) true Try.f7.params.toList args.toList ds p := hA0
  rw [Try.params7] at hA hval
  obtain ⟨v0, vs0, d0, ds0, p0, q0, hargs, rfl, rfl, h0, rest0⟩ := trodAll_cons hA
  obtain ⟨v1, vs1, d1, ds1, p1, q1, rfl, rfl, rfl, h1, rest1⟩ := trodAll_cons rest0
  obtain ⟨v2, vs2, d2, ds2, p2, q2, rfl, rfl, rfl, h2, rest2⟩ := trodAll_cons rest1
  obtain ⟨rfl, rfl, rfl⟩ := trodAll_nil rest2
  obtain rfl : args = #[v0, v1, v2] := by cases args; simp_all
  obtain ⟨rfl, rfl⟩ := trodVars_none hV
  obtain ⟨a0, len0, cap0, rfl⟩ := okWide_slice Try.underlying33 (hval 0 33 v0 rfl rfl)
  have k0 := h0
  have lt0 : ∀ x ∈ p0, x.block < W.heap.size := by obtain ⟨m, hm⟩ := k0; exact DataW.trod_lt m _ _ _ hm
  obtain ⟨z0, w0⟩ := isFloats_of (k := .f32) Try.underlying33 Try.underlying22 (by kernel_rfl) h0
  obtain ⟨a1, rfl, rfl, rfl, w1⟩ := open_float Try.underlying22 (hval 1 22 v1 rfl rfl) h1
  obtain ⟨a2, len2, cap2, rfl⟩ := okWide_slice Try.underlying41 (hval 2 41 v2 rfl rfl)
  have k2 := h2
  have lt2 : ∀ x ∈ p2, x.block < W.heap.size := by obtain ⟨m, hm⟩ := k2; exact DataW.trod_lt m _ _ _ hm
  obtain ⟨z2, w2⟩ := isRow_of (k := .i64) Try.underlying41 Try.underlying2 (by kernel_rfl) h2
  clear hA0 hval0
  refine (walk a0 len0 cap0 z0 a1 a2 len2 cap2 z2 W w0 w1 w2).mono fun e W' ⟨he, bel⟩ => ?_
  subst he
  exact ⟨_, rfl, _, _, _, [], _, [], hW', trodAll_mk1 (shut_bool Try.underlying4 _), (trodAll_cons_mk (Below.trod laidOut (by kernel_rfl) (of_decide_eq_true (by kernel_rfl)) k0 bel lt0) (trodAll_cons_mk (shut_float Try.underlying22 w1) (trodAll_cons_mk (Below.trod laidOut (by kernel_rfl) (of_decide_eq_true (by kernel_rfl)) k2 bel lt2) trodAll_mk0))), rfl, bel.frame _, fun h => by cases h⟩

theorem over : Rows.fnExactCodesByRow.holds Try.pinned (OpenSpec.ofChange Rows.fnExactCodesBySpec) :=
  OpenClaim.holds_of_wide 7 Try.f7 rfl rfl rfl rfl rfl rfl rfl ⟨rfl, rfl, rfl, rfl, rfl⟩ rfl rfl rfl rfl rfl (by kernel_rfl) Try.func7 (by kernel_rfl)
    (of_decide_eq_true (by kernel_rfl)) (by unfold Func.isWrapper; first | (rw [if_pos (by decide +kernel)]; kernel_rfl) | (rw [if_neg (by decide +kernel)]; exact ⟨rfl, rfl⟩))
    (fun os started H enc _ => lifted os started H enc)

/-- the statement -/
theorem proved : Rows.FnExactCodesBySaid := over
end Go.Proofs.Ytgffcmmdmenefaa.fnExactCodesBy
