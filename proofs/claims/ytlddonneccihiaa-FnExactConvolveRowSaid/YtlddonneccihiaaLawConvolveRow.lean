/-
  The exact law of ConvolveRow: it answers as its model, writes into no argument, and its answer owns its memory. Conditions: none.
-/
import Derived.Test.YtlddonneccihiaaTConvRow
import Derived.ChangeOld
import Derived.Below
namespace Go.Proofs.Ytlddonneccihiaa.fnExactConvolveRow
open Go.ChangeShapes Go.WideShapes Go.ChangeAt Go.RowKit
open Go.ChangeMaps (open_string shut_string)
set_option linter.unusedVariables false

set_option maxHeartbeats 4000000 in
set_option maxRecDepth 100000 in
/-- for any contracts of the model and of the program that say the same -/
theorem core (a2 : Int) (a0 a1 : Option Addr) (cap0 cap1 : Nat) (z0 z1 : List Nat) (w : World) (w0' : IsFloats .f32 w a0 z0.length cap0 z0) (w1' : IsFloats .f32 w a1 z1.length cap1 z1) (b : Bool) (zs : List Nat)
    (hL : z0.length ≤ 1048576) (hL1 : z1.length ≤ 1048576) (hz : zs.length ≤ 1048576) (CS' : ∀ (a0 a1 : Option Addr) (w : World), IsFloats .f32 w a0 z0.length z0.length z0 → IsFloats .f32 w a1 z1.length z1.length z1 → Calls Try.prog 12 #[.slice a0 z0.length z0.length, .slice a1 z1.length z1.length, .int .i64 a2] w (RetL b zs w))
    (CI' : ∀ (a0 a1 : Option Addr) (w : World), IsFloats .f32 w a0 z0.length z0.length z0 → IsFloats .f32 w a1 z1.length z1.length z1 → Calls Try.prog 14 #[.slice a0 z0.length z0.length, .slice a1 z1.length z1.length, .int .i64 a2] w (RetL b zs w)) :
    Calls Try.prog 4 #[.slice a0 z0.length cap0, .slice a1 z1.length cap1, .int .i64 a2] w fun e w' => e = .returned (.bool true) ∧ Below w.heap.size w w' := by
  have HI0 := Lib.hid w0'
  have HZ0 := Lib.hid (show z0.length ≤ 1048576 by omega)
  have HI1 := Lib.hid w1'
  have HZ1 := Lib.hid (show z1.length ≤ 1048576 by omega)
  have CS := Lib.hid CS'
  have CI := Lib.hid CI'
  have hs0 : z0.length ≤ 1048576 := by omega
  have hs1 : z1.length ≤ 1048576 := by omega
  clear w0' w1' CS' CI'
  obtain ⟨m0, hm0⟩ : ∃ m, 1 + z0.length = m := ⟨_, rfl⟩
  obtain ⟨m1, hm1⟩ : ∃ m, m0 + z1.length = m := ⟨_, rfl⟩
  have hm0' : m0 ≤ 4194304 := by omega
  have hn0' : (0 : Int) ≤ (m0 : Int) := by omega
  have hm1' : m1 ≤ 4194304 := by omega
  have hn1' : (0 : Int) ≤ (m1 : Int) := by omega
  have HM0 := Lib.hid hm0
  have HM1 := Lib.hid hm1
  clear hm1 hm0
  go_enter Try.func4, Try.ntmps4
  go_wp2_with fail
  have B_0 := Lib.hid (Below.refl w.heap.size w)
  go_wp2_with fail
  refine (c_toFloats _ _ _ z0 _ (HI0.out.kept B_0.out) HZ0.out).mono ?_
  rintro e w1 ⟨bT0, rfl, hf, bl⟩
  have T0_1 := Lib.hid (hf.base B_0.out.size)
  have B_1 := Lib.hid (Below.next B_0.out bl)
  clear B_0
  clear bl
  clear hf
  go_wp2_with fail
  refine (c_toFloats _ _ _ z1 _ (HI1.out.kept B_1.out) HZ1.out).mono ?_
  rintro e w2 ⟨bT1, rfl, hf, bl⟩
  have T1_2 := Lib.hid (hf.base B_1.out.size)
  have B_2 := Lib.hid (Below.next B_1.out bl)
  clear B_1
  have T0_2 := Lib.hid (T0_1.out.kept bl)
  clear T0_1
  clear bl
  clear hf
  go_wp2_with fail
  refine (CS.out _ _ _ T0_2.out.isFloats T1_2.out.isFloats).mono ?_
  rintro e w3 ⟨bS, capS, yS, rfl, hf, hyS, bl⟩
  have HYS := Lib.hid hyS
  clear hyS
  have S_3 := Lib.hid (hf.base B_2.out.size)
  have B_3 := Lib.hid (Below.next B_2.out bl)
  clear B_2
  have T0_3 := Lib.hid (T0_2.out.kept bl)
  clear T0_2
  have T1_3 := Lib.hid (T1_2.out.kept bl)
  clear T1_2
  clear bl hf
  clear T0_3
  clear T1_3
  go_wp2_with fail
  refine (c_toFloats _ _ _ z0 _ (HI0.out.kept B_3.out) HZ0.out).mono ?_
  rintro e w4 ⟨bX0, rfl, hf, bl⟩
  have NSX0 := Lib.hid (lt_apart S_3.out.lt hf.lt)
  have X0_4 := Lib.hid (hf.base B_3.out.size)
  have B_4 := Lib.hid (Below.next B_3.out bl)
  clear B_3
  have S_4 := Lib.hid (S_3.out.kept bl)
  clear S_3
  clear bl
  clear hf
  go_wp2_with fail
  refine (c_toFloats _ _ _ z1 _ (HI1.out.kept B_4.out) HZ1.out).mono ?_
  rintro e w5 ⟨bX1, rfl, hf, bl⟩
  have NSX1 := Lib.hid (lt_apart S_4.out.lt hf.lt)
  have NXX0_1 := Lib.hid (lt_apart X0_4.out.lt hf.lt)
  have X1_5 := Lib.hid (hf.base B_4.out.size)
  have B_5 := Lib.hid (Below.next B_4.out bl)
  clear B_4
  have S_5 := Lib.hid (S_4.out.kept bl)
  clear S_4
  have X0_5 := Lib.hid (X0_4.out.kept bl)
  clear X0_4
  clear bl
  clear hf
  go_wp2_with fail
  refine (CI.out _ _ _ X0_5.out.isFloats X1_5.out.isFloats).mono ?_
  rintro e w6 ⟨bG, capG, yG, rfl, hf, hyG, bl⟩
  have HYG := Lib.hid hyG
  clear hyG
  have NX0 := Lib.hid (lt_apart X0_5.out.lt hf.lt)
  have NX1 := Lib.hid (lt_apart X1_5.out.lt hf.lt)
  have NS := Lib.hid (lt_apart S_5.out.lt hf.lt)
  have LG := Lib.hid (hf.lenle HYG.out hz)
  have BG := Lib.hid (hf.base B_5.out.size)
  have G_6 := Lib.hid (hf.base B_5.out.size)
  have B_6 := Lib.hid (Below.next B_5.out bl)
  clear B_5
  have S_6 := Lib.hid (S_5.out.kept bl)
  clear S_5
  have X0_6 := Lib.hid (X0_5.out.kept bl)
  clear X0_5
  have X1_6 := Lib.hid (X1_5.out.kept bl)
  clear X1_5
  clear bl hf
  go_wp2_with fail
  refine (c_eqFloats _ _ _ _ yG yS _ G_6.out.isFloats S_6.out.isFloats (HYG.out.trans HYS.out.symm)).mono ?_
  rintro e w7 ⟨rfl, dn⟩
  have bl : Below w6.heap.size w6 w7 := by first | exact dn.below | exact (below_drewN (Below.refl _ _) _).trans dn.below
  clear dn
  have B_7 := Lib.hid (Below.next B_6.out bl)
  clear B_6
  have S_7 := Lib.hid (S_6.out.kept bl)
  clear S_6
  have X0_7 := Lib.hid (X0_6.out.kept bl)
  clear X0_6
  have X1_7 := Lib.hid (X1_6.out.kept bl)
  clear X1_6
  have G_7 := Lib.hid (G_6.out.kept bl)
  clear G_6
  clear bl
  go_wp2_with fail
  refine (c_toFloats _ _ _ z0 _ (HI0.out.kept B_7.out) HZ0.out).mono ?_
  rintro e w8 ⟨bY0, rfl, hf, bl⟩
  have Y0_8 := Lib.hid (hf.base B_7.out.size)
  have B_8 := Lib.hid (Below.next B_7.out bl)
  clear B_7
  have S_8 := Lib.hid (S_7.out.kept bl)
  clear S_7
  have X0_8 := Lib.hid (X0_7.out.kept bl)
  clear X0_7
  have X1_8 := Lib.hid (X1_7.out.kept bl)
  clear X1_7
  have G_8 := Lib.hid (G_7.out.kept bl)
  clear G_7
  clear bl
  clear hf
  go_wp2_with fail
  refine (c_eqFloats _ _ _ _ z0 z0 _ X0_8.out.isFloats Y0_8.out.isFloats rfl).mono ?_
  rintro e w9 ⟨rfl, dn⟩
  have bl : Below w8.heap.size w8 w9 := by first | exact dn.below | exact (below_drewN (Below.refl _ _) _).trans dn.below
  clear dn
  have B_9 := Lib.hid (Below.next B_8.out bl)
  clear B_8
  have S_9 := Lib.hid (S_8.out.kept bl)
  clear S_8
  have X0_9 := Lib.hid (X0_8.out.kept bl)
  clear X0_8
  have X1_9 := Lib.hid (X1_8.out.kept bl)
  clear X1_8
  have G_9 := Lib.hid (G_8.out.kept bl)
  clear G_8
  have Y0_9 := Lib.hid (Y0_8.out.kept bl)
  clear Y0_8
  clear bl
  clear Y0_9
  go_wp2_with fail
  refine (c_toFloats _ _ _ z1 _ (HI1.out.kept B_9.out) HZ1.out).mono ?_
  rintro e w10 ⟨bY1, rfl, hf, bl⟩
  have Y1_10 := Lib.hid (hf.base B_9.out.size)
  have B_10 := Lib.hid (Below.next B_9.out bl)
  clear B_9
  have S_10 := Lib.hid (S_9.out.kept bl)
  clear S_9
  have X0_10 := Lib.hid (X0_9.out.kept bl)
  clear X0_9
  have X1_10 := Lib.hid (X1_9.out.kept bl)
  clear X1_9
  have G_10 := Lib.hid (G_9.out.kept bl)
  clear G_9
  clear bl
  clear hf
  go_wp2_with fail
  refine (c_eqFloats _ _ _ _ z1 z1 _ X1_10.out.isFloats Y1_10.out.isFloats rfl).mono ?_
  rintro e w11 ⟨rfl, dn⟩
  have bl : Below w10.heap.size w10 w11 := by first | exact dn.below | exact (below_drewN (Below.refl _ _) _).trans dn.below
  clear dn
  have B_11 := Lib.hid (Below.next B_10.out bl)
  clear B_10
  have S_11 := Lib.hid (S_10.out.kept bl)
  clear S_10
  have X0_11 := Lib.hid (X0_10.out.kept bl)
  clear X0_10
  have X1_11 := Lib.hid (X1_10.out.kept bl)
  clear X1_10
  have G_11 := Lib.hid (G_10.out.kept bl)
  clear G_10
  have Y1_11 := Lib.hid (Y1_10.out.kept bl)
  clear Y1_10
  clear bl
  clear Y1_11
  go_wp2_with fail
  refine (c_markFloats' _ _ _ 1 m0 z0 _ X0_11.out HM0.out (by decide) HZ0.out).mono ?_
  rintro e w12 ⟨rfl, ho, hg⟩
  have B_12 := Lib.hid (Below.grownBy B_11.out hg B_11.out.size (fun g h => (X0_11.out.lt g h).1))
  have S_12 := Lib.hid (S_11.out.apart hg NSX0.out)
  have X0_12 := Lib.hid (ho)
  have X1_12 := Lib.hid (X1_11.out.apart hg (fun g h h' => NXX0_1.out g h' h))
  have G_12 := Lib.hid (G_11.out.apart hg (fun g h h' => NX0.out g h' h))
  clear B_11
  clear S_11
  clear X0_11
  clear X1_11
  clear G_11
  clear ho hg
  go_wp2_with fail
  refine (c_markFloats' _ _ _ m0 m1 z1 _ X1_12.out HM1.out hm0' HZ1.out).mono ?_
  rintro e w13 ⟨rfl, ho, hg⟩
  have B_13 := Lib.hid (Below.grownBy B_12.out hg B_12.out.size (fun g h => (X1_12.out.lt g h).1))
  have S_13 := Lib.hid (S_12.out.apart hg NSX1.out)
  have X0_13 := Lib.hid (X0_12.out.apart hg NXX0_1.out)
  have X1_13 := Lib.hid (ho)
  have G_13 := Lib.hid (G_12.out.apart hg (fun g h h' => NX1.out g h' h))
  clear B_12
  clear S_12
  clear X0_12
  clear X1_12
  clear G_12
  clear ho hg
  go_wp2_with fail
  refine (c_eqFloats _ _ _ _ yG yS _ G_13.out.isFloats S_13.out.isFloats (HYG.out.trans HYS.out.symm)).mono ?_
  rintro e w14 ⟨rfl, dn⟩
  have bl : Below w13.heap.size w13 w14 := by first | exact dn.below | exact (below_drewN (Below.refl _ _) _).trans dn.below
  clear dn
  have B_14 := Lib.hid (Below.next B_13.out bl)
  clear B_13
  have S_14 := Lib.hid (S_13.out.kept bl)
  clear S_13
  have X0_14 := Lib.hid (X0_13.out.kept bl)
  clear X0_13
  have X1_14 := Lib.hid (X1_13.out.kept bl)
  clear X1_13
  have G_14 := Lib.hid (G_13.out.kept bl)
  clear G_13
  clear bl
  clear X0_14
  clear X1_14
  go_wp2_with fail
  obtain ⟨q, hq⟩ : ∃ q, 1 + yG.length = q := ⟨_, rfl⟩
  have HQ := Lib.hid hq
  have hq' : q ≤ 4194304 := by have := LG.out; omega
  have hq0 : (0 : Int) ≤ (q : Int) := by omega
  clear hq
  refine (c_markFloats' _ _ _ 1 q yG _ G_14.out HQ.out (by decide) LG.out).mono ?_
  rintro e w15 ⟨rfl, ho, hg⟩
  have B_15 := Lib.hid (Below.grownBy B_14.out hg B_14.out.size (fun g h => (G_14.out.lt g h).1))
  have S_15 := Lib.hid (S_14.out.apart hg NS.out)
  have G_15 := Lib.hid (ho)
  clear B_14
  clear S_14
  clear G_14
  clear ho hg
  go_wp2_with fail
  refine (c_heldFloats' _ _ 1 q yG.length _ G_15.out.held HQ.out (by decide) LG.out).mono ?_
  rintro e w' ⟨rfl, rfl⟩
  go_wp2_with fail
  refine (c_toFloats _ _ _ z0 _ (HI0.out.kept B_15.out) HZ0.out).mono ?_
  rintro e w16 ⟨bU0, rfl, hf, bl⟩
  have U0_16 := Lib.hid (hf.base B_15.out.size)
  have B_16 := Lib.hid (Below.next B_15.out bl)
  clear B_15
  have S_16 := Lib.hid (S_15.out.kept bl)
  clear S_15
  have G_16 := Lib.hid (G_15.out.kept bl)
  clear G_15
  clear bl
  clear hf
  go_wp2_with fail
  refine (c_toFloats _ _ _ z1 _ (HI1.out.kept B_16.out) HZ1.out).mono ?_
  rintro e w17 ⟨bU1, rfl, hf, bl⟩
  have U1_17 := Lib.hid (hf.base B_16.out.size)
  have B_17 := Lib.hid (Below.next B_16.out bl)
  clear B_16
  have S_17 := Lib.hid (S_16.out.kept bl)
  clear S_16
  have G_17 := Lib.hid (G_16.out.kept bl)
  clear G_16
  have U0_17 := Lib.hid (U0_16.out.kept bl)
  clear U0_16
  clear bl
  clear hf
  go_wp2_with fail
  refine (CI.out _ _ _ U0_17.out.isFloats U1_17.out.isFloats).mono ?_
  rintro e w18 ⟨bH, capH, yH, rfl, hf, hyH, bl⟩
  have HYH := Lib.hid hyH
  clear hyH
  have H_18 := Lib.hid (hf.base B_17.out.size)
  have B_18 := Lib.hid (Below.next B_17.out bl)
  clear B_17
  have S_18 := Lib.hid (S_17.out.kept bl)
  clear S_17
  have G_18 := Lib.hid (G_17.out.kept bl)
  clear G_17
  have U0_18 := Lib.hid (U0_17.out.kept bl)
  clear U0_17
  have U1_18 := Lib.hid (U1_17.out.kept bl)
  clear U1_17
  clear bl hf
  clear U0_18
  clear U1_18
  go_wp2_with fail
  refine (c_eqFloats _ _ _ _ yH yS _ H_18.out.isFloats S_18.out.isFloats (HYH.out.trans HYS.out.symm)).mono ?_
  rintro e w19 ⟨rfl, dn⟩
  have bl : Below w18.heap.size w18 w19 := by first | exact dn.below | exact (below_drewN (Below.refl _ _) _).trans dn.below
  clear dn
  have B_19 := Lib.hid (Below.next B_18.out bl)
  clear B_18
  have S_19 := Lib.hid (S_18.out.kept bl)
  clear S_18
  have G_19 := Lib.hid (G_18.out.kept bl)
  clear G_18
  have H_19 := Lib.hid (H_18.out.kept bl)
  clear H_18
  clear bl
  go_wp2_with fail
  refine (c_heldFloats' _ _ 1 q yG.length _ G_19.out.held HQ.out (by decide) LG.out).mono ?_
  rintro e w' ⟨rfl, rfl⟩
  go_wp2_with fail
  go_ret
  exact ⟨rfl, B_19.out⟩

theorem walk (a0 : Option Addr) (len0 cap0 : Nat) (z0 : List Nat) (a1 : Option Addr) (len1 cap1 : Nat) (z1 : List Nat) (a2 : Int) (w : World) (w0 : IsFloats .f32 w a0 len0 cap0 z0) (w1 : IsFloats .f32 w a1 len1 cap1 z1) (w2 : (Lit.int .i64 a2).wf = true) :
    Calls Try.prog 4 #[.slice a0 len0 cap0, .slice a1 len1 cap1, .int .i64 a2] w fun e w' => e = .returned (.bool true) ∧ Below w.heap.size w w' := by
  have hn0 : len0 ≤ 9223372036854775807 := by have h1 := w0.1; have h2 := w0.2.1; unfold maxLen at h2; omega
  obtain rfl : z0.length = len0 := w0.2.2.1
  have hn1 : len1 ≤ 9223372036854775807 := by have h1 := w1.1; have h2 := w1.2.1; unfold maxLen at h2; omega
  obtain rfl : z1.length = len1 := w1.2.2.1
  by_cases hL0 : z0.length ≤ 1048576
  case neg =>
    have hq : (1048576 : Int) < (z0.length : Int) := by omega
    clear hL0
    go_enter Try.func4, Try.ntmps4
    go_wp2
    go_ret
    exact ⟨rfl, (Below.refl _ _)⟩
  case pos =>
    by_cases hL1 : z1.length ≤ 1048576
    case neg =>
      have hq : (1048576 : Int) < (z1.length : Int) := by omega
      clear hL1
      go_enter Try.func4, Try.ntmps4
      go_wp2
      go_ret
      exact ⟨rfl, (Below.refl _ _)⟩
    case pos =>
      exact core   a2 a0 a1 cap0 cap1 z0 z1 w w0 w1 (vConvolveRow z0 z1 a2).1 (vConvolveRow z0 z1 a2).2 hL0 hL1 (vConvolveRow_len z0 z1 a2) (fun a0 a1 w h0 h1 => t_sConvolveRow z0 z1 a2 a0 a1  w h0 h1 ) (fun a0 a1 w h0 h1 => t_iConvolveRow z0 z1 a2 a0 a1  w h0 h1 )

/-! the row's step -/
set_option maxRecDepth 100000 in
theorem lifted (os : Os) (started : os.Started) (H : Type) (enc : TypeId × Value → H) :
    ReturnsInHanded {} Try.checked os 4 .any (Rows.fnExactConvolveRowSpec.pre6 enc Try.prog Try.f4 Rows.fnExactConvolveRowRow.domain false) (Rows.fnExactConvolveRowSpec.post enc Try.prog Try.f4 false true false false) := by
  refine returnsInHanded_of_change (C := Try.checked) own started (by kernel_rfl) Try.func4
    (ChangeSpec.witness6 (enc := enc) (C := Try.checked) false ⟨#[], #[.slice none 0 0, .slice none 0 0, .int .i64 0], []⟩ 8 (by kernel_rfl) (by kernel_rfl) (by kernel_rfl) (by kernel_rfl)) ?_
  intro W base args ds gs before hval0 hW hcnd _
  have hval : ∀ (j : Nat) t v, Try.f4.params[j]? = some t → args[j]? = some v → Value.okWide Try.prog W .any base t v := hval0
  have hW' := hW
  obtain ⟨p, q, hA0, hV, rfl, hfz, hnd⟩ := hW
  have hA : DataW.TrodAll enc Try.prog W 0 (fun _ => true) true Try.f4.params.toList args.toList ds p := hA0
  rw [Try.params4] at hA hval
  obtain ⟨v0, vs0, d0, ds0, p0, q0, hargs, rfl, rfl, h0, rest0⟩ := trodAll_cons hA
  obtain ⟨v1, vs1, d1, ds1, p1, q1, rfl, rfl, rfl, h1, rest1⟩ := trodAll_cons rest0
  obtain ⟨v2, vs2, d2, ds2, p2, q2, rfl, rfl, rfl, h2, rest2⟩ := trodAll_cons rest1
  obtain ⟨rfl, rfl, rfl⟩ := trodAll_nil rest2
  obtain rfl : args = #[v0, v1, v2] := by cases args; simp_all
  obtain ⟨rfl, rfl⟩ := trodVars_none hV
  obtain ⟨a0, len0, cap0, rfl⟩ := okWide_slice Try.underlying38 (hval 0 38 v0 rfl rfl)
  have k0 := h0
  have lt0 : ∀ x ∈ p0, x.block < W.heap.size := by obtain ⟨m, hm⟩ := k0; exact DataW.trod_lt m _ _ _ hm
  obtain ⟨z0, w0⟩ := isFloats_of (k := .f32) Try.underlying38 Try.underlying26 (by kernel_rfl) h0
  obtain ⟨a1, len1, cap1, rfl⟩ := okWide_slice Try.underlying38 (hval 1 38 v1 rfl rfl)
  have k1 := h1
  have lt1 : ∀ x ∈ p1, x.block < W.heap.size := by obtain ⟨m, hm⟩ := k1; exact DataW.trod_lt m _ _ _ hm
  obtain ⟨z1, w1⟩ := isFloats_of (k := .f32) Try.underlying38 Try.underlying26 (by kernel_rfl) h1
  obtain ⟨a2, rfl, rfl, rfl, w2⟩ := open_int Try.underlying2 (hval 2 2 v2 rfl rfl) h2
  clear hA0 hval0
  refine (walk a0 len0 cap0 z0 a1 len1 cap1 z1 a2 W w0 w1 w2).mono fun e W' ⟨he, bel⟩ => ?_
  subst he
  exact ⟨_, rfl, _, _, _, [], _, [], hW', trodAll_mk1 (shut_bool Try.underlying4 _), (trodAll_cons_mk (Below.trod laidOut (by kernel_rfl) (of_decide_eq_true (by kernel_rfl)) k0 bel lt0) (trodAll_cons_mk (Below.trod laidOut (by kernel_rfl) (of_decide_eq_true (by kernel_rfl)) k1 bel lt1) (trodAll_cons_mk (shut_int Try.underlying2 w2) trodAll_mk0))), rfl, bel.frame _, fun h => by cases h⟩

theorem over : Rows.fnExactConvolveRowRow.holds Try.pinned (OpenSpec.ofChange Rows.fnExactConvolveRowSpec) :=
  OpenClaim.holds_of_wide 4 Try.f4 rfl rfl rfl rfl rfl rfl rfl ⟨rfl, rfl, rfl, rfl, rfl⟩ rfl rfl rfl rfl rfl (by kernel_rfl) Try.func4 (by kernel_rfl)
    (of_decide_eq_true (by kernel_rfl)) (by unfold Func.isWrapper; first | (rw [if_pos (by decide +kernel)]; kernel_rfl) | (rw [if_neg (by decide +kernel)]; exact ⟨rfl, rfl⟩))
    (fun os started H enc _ => lifted os started H enc)

/-- the statement -/
theorem proved : Rows.FnExactConvolveRowSaid := over
end Go.Proofs.Ytlddonneccihiaa.fnExactConvolveRow
