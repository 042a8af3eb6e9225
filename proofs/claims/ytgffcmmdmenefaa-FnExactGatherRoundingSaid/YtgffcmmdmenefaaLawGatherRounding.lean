/-
  GatherRounding answers as its model. No condition.
-/
import Derived.Test.YtgffcmmdmenefaaGai
import Derived.ChangeOld
import Derived.Below
namespace Go.Proofs.Ytgffcmmdmenefaa.fnExactGatherRounding
open Go.ChangeShapes Go.WideShapes Go.ChangeAt Go.RowKit
open Go.ChangeMaps (open_string shut_string)
set_option linter.unusedVariables false

set_option maxHeartbeats 4000000 in
set_option maxRecDepth 100000 in
/-- for any contracts of the model and of the program that say the same -/
theorem core (a1 : Int) (a0 : Option Addr) (cap0 : Nat) (z0 : List Nat) (w : World) (w0' : IsFloats .f32 w a0 z0.length cap0 z0) (b : Bool) (zs ts : List Nat)
    (hL : z0.length ≤ 1048576) (hz : zs.length ≤ 1048576) (hz2 : ts.length ≤ 1048576) (CS' : ∀ (a0 : Option Addr) (w : World), IsFloats .f32 w a0 z0.length z0.length z0 → Calls Try.prog 40 #[.slice a0 z0.length z0.length, .int .i64 a1] w (RetLL b zs ts w))
    (CI' : ∀ (a0 : Option Addr) (w : World), IsFloats .f32 w a0 z0.length z0.length z0 → Calls Try.prog 41 #[.slice a0 z0.length z0.length, .int .i64 a1] w (RetLL b zs ts w)) :
    Calls Try.prog 10 #[.slice a0 z0.length cap0, .int .i64 a1] w fun e w' => e = .returned (.bool true) ∧ Below w.heap.size w w' := by
  have HI0 := Lib.hid w0'
  have HZ0 := Lib.hid (show z0.length ≤ 1048576 by omega)
  have CS := Lib.hid CS'
  have CI := Lib.hid CI'
  have hs0 : z0.length ≤ 1048576 := by omega
  clear w0' CS' CI'
  obtain ⟨m0, hm0⟩ : ∃ m, 1 + z0.length = m := ⟨_, rfl⟩
  have hm0' : m0 ≤ 4194304 := by omega
  have hn0' : (0 : Int) ≤ (m0 : Int) := by omega
  have HM0 := Lib.hid hm0
  clear hm0
  go_enter Try.func10, Try.ntmps10
  go_wp2_with fail
  have B_0 := Lib.hid (Below.refl w.heap.size w)
  go_wp2_with fail
  refine (c_toFloats _ _ _ z0 _ (HI0.out.kept B_0.out) HZ0.out).mono ?_
  rintro e w1 ⟨bT0, rfl, hf, bl⟩
  have T0_1 := Lib.hid (hf.base B_0.out.size)
  have B_1 := Lib.hid (Below.next B_0.out bl)
  clear B_0
  clear bl
  clear hf
  go_wp2_with fail
  refine (CS.out _ _ T0_1.out.isFloats).mono ?_
  rintro e w2 ⟨bS, capS, yS, bS2, capS2, yS2, rfl, hf, hf2, hap, hyS, hyS2, bl⟩
  have HYS := Lib.hid hyS
  clear hyS
  have HYS2 := Lib.hid hyS2
  have HAPS := Lib.hid hap
  clear hyS2 hap
  have S_2 := Lib.hid (hf.base B_1.out.size)
  have S2_2 := Lib.hid (hf2.base B_1.out.size)
  clear hf2
  have B_2 := Lib.hid (Below.next B_1.out bl)
  clear B_1
  have T0_2 := Lib.hid (T0_1.out.kept bl)
  clear T0_1
  clear bl hf
  clear T0_2
  go_wp2_with fail
  refine (c_toFloats _ _ _ z0 _ (HI0.out.kept B_2.out) HZ0.out).mono ?_
  rintro e w3 ⟨bX0, rfl, hf, bl⟩
  have NSX0 := Lib.hid (lt_apart S_2.out.lt hf.lt)
  have NS2X0 := Lib.hid (lt_apart S2_2.out.lt hf.lt)
  have X0_3 := Lib.hid (hf.base B_2.out.size)
  have B_3 := Lib.hid (Below.next B_2.out bl)
  clear B_2
  have S2_3 := Lib.hid (S2_2.out.kept bl)
  clear S2_2
  have S_3 := Lib.hid (S_2.out.kept bl)
  clear S_2
  clear bl
  clear hf
  go_wp2_with fail
  refine (CI.out _ _ X0_3.out.isFloats).mono ?_
  rintro e w4 ⟨bG, capG, yG, bG2, capG2, yG2, rfl, hf, hf2, hap, hyG, hyG2, bl⟩
  have HYG := Lib.hid hyG
  clear hyG
  have HYG2 := Lib.hid hyG2
  have HAPG := Lib.hid hap
  clear hyG2 hap
  have NX0 := Lib.hid (lt_apart X0_3.out.lt hf.lt)
  have NS := Lib.hid (lt_apart S_3.out.lt hf.lt)
  have LG := Lib.hid (hf.lenle HYG.out hz)
  have BG := Lib.hid (hf.base B_3.out.size)
  have NX02 := Lib.hid (lt_apart X0_3.out.lt hf2.lt)
  have NS_G2 := Lib.hid (lt_apart S_3.out.lt hf2.lt)
  have NS2_G := Lib.hid (lt_apart S2_3.out.lt hf.lt)
  have NS2_G2 := Lib.hid (lt_apart S2_3.out.lt hf2.lt)
  have LG2 := Lib.hid (hf2.lenle HYG2.out hz2)
  have G_4 := Lib.hid (hf.base B_3.out.size)
  have G2_4 := Lib.hid (hf2.base B_3.out.size)
  clear hf2
  have B_4 := Lib.hid (Below.next B_3.out bl)
  clear B_3
  have S2_4 := Lib.hid (S2_3.out.kept bl)
  clear S2_3
  have S_4 := Lib.hid (S_3.out.kept bl)
  clear S_3
  have X0_4 := Lib.hid (X0_3.out.kept bl)
  clear X0_3
  clear bl hf
  go_wp2_with fail
  refine (c_eqFloats _ _ _ _ yG yS _ G_4.out.isFloats S_4.out.isFloats (HYG.out.trans HYS.out.symm)).mono ?_
  rintro e w5 ⟨rfl, dn⟩
  have bl : Below w4.heap.size w4 w5 := by first | exact dn.below | exact (below_drewN (Below.refl _ _) _).trans dn.below
  clear dn
  have B_5 := Lib.hid (Below.next B_4.out bl)
  clear B_4
  have S2_5 := Lib.hid (S2_4.out.kept bl)
  clear S2_4
  have S_5 := Lib.hid (S_4.out.kept bl)
  clear S_4
  have X0_5 := Lib.hid (X0_4.out.kept bl)
  clear X0_4
  have G2_5 := Lib.hid (G2_4.out.kept bl)
  clear G2_4
  have G_5 := Lib.hid (G_4.out.kept bl)
  clear G_4
  clear bl
  go_wp2_with fail
  refine (c_eqFloats _ _ _ _ yG2 yS2 _ G2_5.out.isFloats S2_5.out.isFloats (HYG2.out.trans HYS2.out.symm)).mono ?_
  rintro e w6 ⟨rfl, dn⟩
  have bl : Below w5.heap.size w5 w6 := by first | exact dn.below | exact (below_drewN (Below.refl _ _) _).trans dn.below
  clear dn
  have B_6 := Lib.hid (Below.next B_5.out bl)
  clear B_5
  have S2_6 := Lib.hid (S2_5.out.kept bl)
  clear S2_5
  have S_6 := Lib.hid (S_5.out.kept bl)
  clear S_5
  have X0_6 := Lib.hid (X0_5.out.kept bl)
  clear X0_5
  have G2_6 := Lib.hid (G2_5.out.kept bl)
  clear G2_5
  have G_6 := Lib.hid (G_5.out.kept bl)
  clear G_5
  clear bl
  go_wp2_with fail
  refine (c_toFloats _ _ _ z0 _ (HI0.out.kept B_6.out) HZ0.out).mono ?_
  rintro e w7 ⟨bY0, rfl, hf, bl⟩
  have Y0_7 := Lib.hid (hf.base B_6.out.size)
  have B_7 := Lib.hid (Below.next B_6.out bl)
  clear B_6
  have S2_7 := Lib.hid (S2_6.out.kept bl)
  clear S2_6
  have S_7 := Lib.hid (S_6.out.kept bl)
  clear S_6
  have X0_7 := Lib.hid (X0_6.out.kept bl)
  clear X0_6
  have G2_7 := Lib.hid (G2_6.out.kept bl)
  clear G2_6
  have G_7 := Lib.hid (G_6.out.kept bl)
  clear G_6
  clear bl
  clear hf
  go_wp2_with fail
  refine (c_eqFloats _ _ _ _ z0 z0 _ X0_7.out.isFloats Y0_7.out.isFloats rfl).mono ?_
  rintro e w8 ⟨rfl, dn⟩
  have bl : Below w7.heap.size w7 w8 := by first | exact dn.below | exact (below_drewN (Below.refl _ _) _).trans dn.below
  clear dn
  have B_8 := Lib.hid (Below.next B_7.out bl)
  clear B_7
  have S2_8 := Lib.hid (S2_7.out.kept bl)
  clear S2_7
  have S_8 := Lib.hid (S_7.out.kept bl)
  clear S_7
  have X0_8 := Lib.hid (X0_7.out.kept bl)
  clear X0_7
  have G2_8 := Lib.hid (G2_7.out.kept bl)
  clear G2_7
  have G_8 := Lib.hid (G_7.out.kept bl)
  clear G_7
  have Y0_8 := Lib.hid (Y0_7.out.kept bl)
  clear Y0_7
  clear bl
  clear Y0_8
  go_wp2_with fail
  refine (c_markFloats' _ _ _ 1 m0 z0 _ X0_8.out HM0.out (by decide) HZ0.out).mono ?_
  rintro e w9 ⟨rfl, ho, hg⟩
  have B_9 := Lib.hid (Below.grownBy B_8.out hg B_8.out.size (fun g h => (X0_8.out.lt g h).1))
  have S2_9 := Lib.hid (S2_8.out.apart hg NS2X0.out)
  have S_9 := Lib.hid (S_8.out.apart hg NSX0.out)
  have X0_9 := Lib.hid (ho)
  have G2_9 := Lib.hid (G2_8.out.apart hg (fun g h h' => NX02.out g h' h))
  have G_9 := Lib.hid (G_8.out.apart hg (fun g h h' => NX0.out g h' h))
  clear B_8
  clear S2_8
  clear S_8
  clear X0_8
  clear G2_8
  clear G_8
  clear ho hg
  go_wp2_with fail
  refine (c_eqFloats _ _ _ _ yG yS _ G_9.out.isFloats S_9.out.isFloats (HYG.out.trans HYS.out.symm)).mono ?_
  rintro e w10 ⟨rfl, dn⟩
  have bl : Below w9.heap.size w9 w10 := by first | exact dn.below | exact (below_drewN (Below.refl _ _) _).trans dn.below
  clear dn
  have B_10 := Lib.hid (Below.next B_9.out bl)
  clear B_9
  have S2_10 := Lib.hid (S2_9.out.kept bl)
  clear S2_9
  have S_10 := Lib.hid (S_9.out.kept bl)
  clear S_9
  have X0_10 := Lib.hid (X0_9.out.kept bl)
  clear X0_9
  have G2_10 := Lib.hid (G2_9.out.kept bl)
  clear G2_9
  have G_10 := Lib.hid (G_9.out.kept bl)
  clear G_9
  clear bl
  go_wp2_with fail
  refine (c_eqFloats _ _ _ _ yG2 yS2 _ G2_10.out.isFloats S2_10.out.isFloats (HYG2.out.trans HYS2.out.symm)).mono ?_
  rintro e w11 ⟨rfl, dn⟩
  have bl : Below w10.heap.size w10 w11 := by first | exact dn.below | exact (below_drewN (Below.refl _ _) _).trans dn.below
  clear dn
  have B_11 := Lib.hid (Below.next B_10.out bl)
  clear B_10
  have S2_11 := Lib.hid (S2_10.out.kept bl)
  clear S2_10
  have S_11 := Lib.hid (S_10.out.kept bl)
  clear S_10
  have X0_11 := Lib.hid (X0_10.out.kept bl)
  clear X0_10
  have G2_11 := Lib.hid (G2_10.out.kept bl)
  clear G2_10
  have G_11 := Lib.hid (G_10.out.kept bl)
  clear G_10
  clear bl
  clear X0_11
  go_wp2_with fail
  obtain ⟨q, hq⟩ : ∃ q, 1 + yG.length = q := ⟨_, rfl⟩
  obtain ⟨p, hp⟩ : ∃ p, q + yG2.length = p := ⟨_, rfl⟩
  have HQ := Lib.hid hq
  have HP := Lib.hid hp
  have hq' : q ≤ 4194304 := by have := LG.out; omega
  have hp' : p ≤ 4194304 := by have := LG.out; have := LG2.out; omega
  have hq0 : (0 : Int) ≤ (q : Int) := by omega
  have hp0 : (0 : Int) ≤ (p : Int) := by omega
  clear hq hp
  refine (c_markFloats' _ _ _ 1 q yG _ G_11.out HQ.out (by decide) LG.out).mono ?_
  rintro e w12 ⟨rfl, ho, hg⟩
  have B_12 := Lib.hid (Below.grownBy B_11.out hg B_11.out.size (fun g h => (G_11.out.lt g h).1))
  have S2_12 := Lib.hid (S2_11.out.apart hg NS2_G.out)
  have S_12 := Lib.hid (S_11.out.apart hg NS.out)
  have G2_12 := Lib.hid (G2_11.out.apart hg (fun g h h' => HAPG.out g h' h))
  have G_12 := Lib.hid (ho)
  clear B_11
  clear S2_11
  clear S_11
  clear G2_11
  clear G_11
  clear ho hg
  go_wp2_with fail
  refine (c_markFloats' _ _ _ q p yG2 _ G2_12.out HP.out hq' LG2.out).mono ?_
  rintro e w13 ⟨rfl, ho, hg⟩
  have B_13 := Lib.hid (Below.grownBy B_12.out hg B_12.out.size (fun g h => (G2_12.out.lt g h).1))
  have S2_13 := Lib.hid (S2_12.out.apart hg NS2_G2.out)
  have S_13 := Lib.hid (S_12.out.apart hg NS_G2.out)
  have G2_13 := Lib.hid (ho)
  have G_13 := Lib.hid (G_12.out.apart hg (fun g h h' => HAPG.out g h h'))
  clear B_12
  clear S2_12
  clear S_12
  clear G2_12
  clear G_12
  clear ho hg
  go_wp2_with fail
  refine (c_heldFloats' _ _ 1 q yG.length _ G_13.out.held HQ.out (by decide) LG.out).mono ?_
  rintro e w' ⟨rfl, rfl⟩
  go_wp2_with fail
  refine (c_heldFloats' _ _ q p yG2.length _ G2_13.out.held HP.out hq' LG2.out).mono ?_
  rintro e w' ⟨rfl, rfl⟩
  go_wp2_with fail
  refine (c_toFloats _ _ _ z0 _ (HI0.out.kept B_13.out) HZ0.out).mono ?_
  rintro e w14 ⟨bU0, rfl, hf, bl⟩
  have U0_14 := Lib.hid (hf.base B_13.out.size)
  have B_14 := Lib.hid (Below.next B_13.out bl)
  clear B_13
  have S2_14 := Lib.hid (S2_13.out.kept bl)
  clear S2_13
  have S_14 := Lib.hid (S_13.out.kept bl)
  clear S_13
  have G2_14 := Lib.hid (G2_13.out.kept bl)
  clear G2_13
  have G_14 := Lib.hid (G_13.out.kept bl)
  clear G_13
  clear bl
  clear hf
  go_wp2_with fail
  refine (CI.out _ _ U0_14.out.isFloats).mono ?_
  rintro e w15 ⟨bH, capH, yH, bH2, capH2, yH2, rfl, hf, hf2, hap, hyH, hyH2, bl⟩
  have HYH := Lib.hid hyH
  clear hyH
  have HYH2 := Lib.hid hyH2
  have HAPH := Lib.hid hap
  clear hyH2 hap
  have H_15 := Lib.hid (hf.base B_14.out.size)
  have H2_15 := Lib.hid (hf2.base B_14.out.size)
  clear hf2
  have B_15 := Lib.hid (Below.next B_14.out bl)
  clear B_14
  have S2_15 := Lib.hid (S2_14.out.kept bl)
  clear S2_14
  have S_15 := Lib.hid (S_14.out.kept bl)
  clear S_14
  have G2_15 := Lib.hid (G2_14.out.kept bl)
  clear G2_14
  have G_15 := Lib.hid (G_14.out.kept bl)
  clear G_14
  have U0_15 := Lib.hid (U0_14.out.kept bl)
  clear U0_14
  clear bl hf
  clear U0_15
  go_wp2_with fail
  refine (c_eqFloats _ _ _ _ yH yS _ H_15.out.isFloats S_15.out.isFloats (HYH.out.trans HYS.out.symm)).mono ?_
  rintro e w16 ⟨rfl, dn⟩
  have bl : Below w15.heap.size w15 w16 := by first | exact dn.below | exact (below_drewN (Below.refl _ _) _).trans dn.below
  clear dn
  have B_16 := Lib.hid (Below.next B_15.out bl)
  clear B_15
  have S2_16 := Lib.hid (S2_15.out.kept bl)
  clear S2_15
  have S_16 := Lib.hid (S_15.out.kept bl)
  clear S_15
  have G2_16 := Lib.hid (G2_15.out.kept bl)
  clear G2_15
  have G_16 := Lib.hid (G_15.out.kept bl)
  clear G_15
  have H2_16 := Lib.hid (H2_15.out.kept bl)
  clear H2_15
  have H_16 := Lib.hid (H_15.out.kept bl)
  clear H_15
  clear bl
  go_wp2_with fail
  refine (c_eqFloats _ _ _ _ yH2 yS2 _ H2_16.out.isFloats S2_16.out.isFloats (HYH2.out.trans HYS2.out.symm)).mono ?_
  rintro e w17 ⟨rfl, dn⟩
  have bl : Below w16.heap.size w16 w17 := by first | exact dn.below | exact (below_drewN (Below.refl _ _) _).trans dn.below
  clear dn
  have B_17 := Lib.hid (Below.next B_16.out bl)
  clear B_16
  have S2_17 := Lib.hid (S2_16.out.kept bl)
  clear S2_16
  have S_17 := Lib.hid (S_16.out.kept bl)
  clear S_16
  have G2_17 := Lib.hid (G2_16.out.kept bl)
  clear G2_16
  have G_17 := Lib.hid (G_16.out.kept bl)
  clear G_16
  have H2_17 := Lib.hid (H2_16.out.kept bl)
  clear H2_16
  have H_17 := Lib.hid (H_16.out.kept bl)
  clear H_16
  clear bl
  go_wp2_with fail
  refine (c_heldFloats' _ _ 1 q yG.length _ G_17.out.held HQ.out (by decide) LG.out).mono ?_
  rintro e w' ⟨rfl, rfl⟩
  go_wp2_with fail
  refine (c_heldFloats' _ _ q p yG2.length _ G2_17.out.held HP.out hq' LG2.out).mono ?_
  rintro e w' ⟨rfl, rfl⟩
  go_wp2_with fail
  go_ret
  exact ⟨rfl, B_17.out⟩

theorem walk (a0 : Option Addr) (len0 cap0 : Nat) (z0 : List Nat) (a1 : Int) (w : World) (w0 : IsFloats .f32 w a0 len0 cap0 z0) (w1 : (Lit.int .i64 a1).wf = true) :
    Calls Try.prog 10 #[.slice a0 len0 cap0, .int .i64 a1] w fun e w' => e = .returned (.bool true) ∧ Below w.heap.size w w' := by
  have hn0 : len0 ≤ 9223372036854775807 := by have h1 := w0.1; have h2 := w0.2.1; unfold maxLen at h2; omega
  obtain rfl : z0.length = len0 := w0.2.2.1
  by_cases hL0 : z0.length ≤ 1048576
  case neg =>
    have hq : (1048576 : Int) < (z0.length : Int) := by omega
    clear hL0
    go_enter Try.func10, Try.ntmps10
    go_wp2
    go_ret
    exact ⟨rfl, (Below.refl _ _)⟩
  case pos =>
    exact core  a1 a0 cap0 z0 w w0 (vGatherRounding z0 a1).1 (vGatherRounding z0 a1).2.1 (vGatherRounding z0 a1).2.2 hL0 (vGatherRounding_len z0 a1).1 (vGatherRounding_len z0 a1).2 (fun a0 w h0 => t_sGatherRounding z0 a1 a0  w h0 ) (fun a0 w h0 => t_iGatherRounding z0 a1 a0  w h0 )

/-! the row's step -/
set_option maxRecDepth 100000 in
theorem lifted (os : Os) (started : os.Started) (H : Type) (enc : TypeId × Value → H) :
    ReturnsInHanded {} Try.checked os 10 .any (Rows.fnExactGatherRoundingSpec.pre6 enc Try.prog Try.f10 Rows.fnExactGatherRoundingRow.domain false) (Rows.fnExactGatherRoundingSpec.post enc Try.prog Try.f10 false true false false) := by
  refine returnsInHanded_of_change (C := Try.checked) own started (by kernel_rfl) Try.func10
    (ChangeSpec.witness6 (enc := enc) (C := Try.checked) false ⟨#[], #[.slice none 0 0, .int .i64 0], []⟩ 8 (by kernel_rfl) (by kernel_rfl) (by kernel_rfl) (by kernel_rfl)) ?_
  intro W base args ds gs before hval0 hW hcnd _
  have hval : ∀ (j : Nat) t v, Try.f10.params[j]? = some t → args[j]? = some v → Value.okWide Try.prog W .any base t v := hval0
  have hW' := hW
  obtain ⟨p, q, hA0, hV, rfl, hfz, hnd⟩ := hW
  have hA : DataW.TrodAll enc Try.prog W 0 (fun _ => true) true Try.f10.params.toList args.toList ds p := hA0
  rw [Try.params10] at hA hval
  obtain ⟨v0, vs0, d0, ds0, p0, q0, hargs, rfl, rfl, h0, rest0⟩ := trodAll_cons hA
  obtain ⟨v1, vs1, d1, ds1, p1, q1, rfl, rfl, rfl, h1, rest1⟩ := trodAll_cons rest0
  obtain ⟨rfl, rfl, rfl⟩ := trodAll_nil rest1
  obtain rfl : args = #[v0, v1] := by cases args; simp_all
  obtain ⟨rfl, rfl⟩ := trodVars_none hV
  obtain ⟨a0, len0, cap0, rfl⟩ := okWide_slice Try.underlying33 (hval 0 33 v0 rfl rfl)
  have k0 := h0
  have lt0 : ∀ x ∈ p0, x.block < W.heap.size := by obtain ⟨m, hm⟩ := k0; exact DataW.trod_lt m _ _ _ hm
  obtain ⟨z0, w0⟩ := isFloats_of (k := .f32) Try.underlying33 Try.underlying22 (by kernel_rfl) h0
  obtain ⟨a1, rfl, rfl, rfl, w1⟩ := open_int Try.underlying2 (hval 1 2 v1 rfl rfl) h1
  clear hA0 hval0
  refine (walk a0 len0 cap0 z0 a1 W w0 w1).mono fun e W' ⟨he, bel⟩ => ?_
  subst he
  exact ⟨_, rfl, _, _, _, [], _, [], hW', trodAll_mk1 (shut_bool Try.underlying4 _), (trodAll_cons_mk (Below.trod laidOut (by kernel_rfl) (of_decide_eq_true (by kernel_rfl)) k0 bel lt0) (trodAll_cons_mk (shut_int Try.underlying2 w1) trodAll_mk0)), rfl, bel.frame _, fun h => by cases h⟩

theorem over : Rows.fnExactGatherRoundingRow.holds Try.pinned (OpenSpec.ofChange Rows.fnExactGatherRoundingSpec) :=
  OpenClaim.holds_of_wide 10 Try.f10 rfl rfl rfl rfl rfl rfl rfl ⟨rfl, rfl, rfl, rfl, rfl⟩ rfl rfl rfl rfl rfl (by kernel_rfl) Try.func10 (by kernel_rfl)
    (of_decide_eq_true (by kernel_rfl)) (by unfold Func.isWrapper; first | (rw [if_pos (by decide +kernel)]; kernel_rfl) | (rw [if_neg (by decide +kernel)]; exact ⟨rfl, rfl⟩))
    (fun os started H enc _ => lifted os started H enc)

/-- the statement -/
theorem proved : Rows.FnExactGatherRoundingSaid := over
end Go.Proofs.Ytgffcmmdmenefaa.fnExactGatherRounding
