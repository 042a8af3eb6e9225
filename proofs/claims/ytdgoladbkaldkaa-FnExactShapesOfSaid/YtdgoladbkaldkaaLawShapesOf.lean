/-
  ShapesOf: the program's function answers as the model's at every argument. Conditions: none.
-/
import Derived.Test.YtdgoladbkaldkaaTpc
import Derived.Test.YtdgoladbkaldkaaMkTps
import Derived.ChangeOld
import Derived.Below
namespace Go.Proofs.Ytdgoladbkaldkaa.fnExactShapesOf
open Go.ChangeShapes Go.WideShapes Go.ChangeAt Go.RowKit
open Go.ChangeMaps (open_string shut_string)
set_option linter.unusedVariables false

set_option maxHeartbeats 4000000 in
set_option maxRecDepth 100000 in
/-- for any contracts of the model and of the program that say the same -/
theorem core (ls0 : List TpA) (g0 : Option Addr) (c0 : Nat) (w : World) (w0' : TpsAt w g0 ls0.length c0 ls0) (b : Bool) (zs : List (List Int)) (hL0 : (ls0.length + tpSum (ls0.map TpA.p)) ≤ 1048576) (hz : zs.length + cntZI zs ≤ 1048576) (hwz : wfZ zs)
    (CS' : ∀ (g0 : Option Addr) (c0 : Nat) (y0 : List TpA) (w : World), (y0.map TpA.p = ls0.map TpA.p) → (TpsAt w g0 ls0.length c0 y0) → Calls Try.prog 12 #[.slice g0 ls0.length c0] w (RetIl b zs w))
    (CI' : ∀ (g0 : Option Addr) (c0 : Nat) (y0 : List TpA) (w : World), (y0.map TpA.p = ls0.map TpA.p) → (TpsAt w g0 ls0.length c0 y0) → Calls Try.prog 13 #[.slice g0 ls0.length c0] w (RetIl b zs w)) :
    Calls Try.prog 4 #[.slice g0 ls0.length c0] w fun e w' => e = .returned (.bool true) ∧ Below w.heap.size w w' := by
  have HS0 := Lib.hid w0'
  have HZ0 := Lib.hid (show ls0.length + tpSum (ls0.map TpA.p) ≤ 1048576 by omega)
  have HWZ := Lib.hid hwz
  have CS := Lib.hid CS'
  have CI := Lib.hid CI'
  obtain ⟨l0, hl0⟩ : ∃ l, 1048576 - (ls0.length + tpSum (ls0.map TpA.p)) = l := ⟨_, rfl⟩
  have hl0' : l0 ≤ 1048576 := by omega
  have HQ0 := Lib.hid (show ls0.length + tpSum (ls0.map TpA.p) ≤ 1048576 by omega)
  have HE0 := Lib.hid hl0
  have hp0 : (0 : Int) ≤ (l0 : Int) := by omega
  obtain ⟨m0, hm0⟩ : ∃ m, 1 + (6 * ls0.length + tpSum (ls0.map TpA.p)) = m := ⟨_, rfl⟩
  have hm0' : m0 ≤ 8388608 := by omega
  have hn0' : (0 : Int) ≤ (m0 : Int) := by omega
  have HM0 := Lib.hid hm0
  clear hm0
  clear w0' CS' CI' hl0 hL0
  go_enter Try.func4, Try.ntmps4
  go_wp2_with fail
  have B_0 := Lib.hid (Below.refl w.heap.size w)
  refine (c_szTps _ _ _ _ _ ls0 _ (HS0.out.kept B_0.out) (Nat.le_refl _) HQ0.out HE0.out).mono ?_
  rintro e w1 ⟨rfl, bl⟩
  have B_1 := Lib.hid (Below.next B_0.out bl)
  clear B_0
  clear bl
  go_wp2_with fail
  refine (c_toTps _ _ _ ls0 _ (HS0.out.kept B_1.out) HZ0.out).mono ?_
  rintro e w2 ⟨gT0, yT0, rfl, hl, hp, ho, hnd, bl⟩
  have HPT0 := Lib.hid hp
  have HLT0 := Lib.hid hl
  have T0_2 := Lib.hid (OwnL.base B_1.out.size _ ho)
  have B_2 := Lib.hid (Below.next B_1.out bl)
  clear B_1
  clear hl hp ho hnd
  clear bl
  go_wp2_with fail
  refine (CS.out _ _ yT0 _ HPT0.out (tpsAt_own HLT0.out T0_2.out)).mono ?_
  rintro e w3 ⟨gS, capS, yS, rfl, ho, hnd, hy, bl⟩
  have HYS := Lib.hid hy
  have S_3 := Lib.hid (OwnL.base B_2.out.size _ ho)
  have B_3 := Lib.hid (Below.next B_2.out bl)
  clear B_2
  have T0_3 := Lib.hid (OwnL.kept T0_2.out bl)
  clear T0_2
  clear ho hnd hy
  clear bl
  clear T0_3
  go_wp2_with fail
  refine (c_toTps _ _ _ ls0 _ (HS0.out.kept B_3.out) HZ0.out).mono ?_
  rintro e w4 ⟨gX0, yX0, rfl, hl, hp, ho, hnd, bl⟩
  have HPX0 := Lib.hid hp
  have HLX0 := Lib.hid hl
  have D_X0_S := Lib.hid (apart_new S_3.out ho)
  have NDX0 := Lib.hid hnd
  have X0_4 := Lib.hid (OwnL.base B_3.out.size _ ho)
  have B_4 := Lib.hid (Below.next B_3.out bl)
  clear B_3
  have S_4 := Lib.hid (OwnL.kept S_3.out bl)
  clear S_3
  clear hl hp ho hnd
  clear bl
  go_wp2_with fail
  refine (CI.out _ _ yX0 _ HPX0.out (tpsAt_own HLX0.out X0_4.out)).mono ?_
  rintro e w5 ⟨gG, capG, yG, rfl, ho, hnd, hy, bl⟩
  have HYG := Lib.hid hy
  have D_G_S := Lib.hid (apart_new S_4.out ho)
  have D_X0_G := Lib.hid (apart_symm (apart_new X0_4.out ho))
  have D_G_X0 := Lib.hid (apart_new X0_4.out ho)
  have NDG := Lib.hid hnd
  have LG := Lib.hid (retIl_bound hy hz)
  have G_5 := Lib.hid (OwnL.base B_4.out.size _ ho)
  have B_5 := Lib.hid (Below.next B_4.out bl)
  clear B_4
  have S_5 := Lib.hid (OwnL.kept S_4.out bl)
  clear S_4
  have X0_5 := Lib.hid (OwnL.kept X0_4.out bl)
  clear X0_4
  clear ho hnd hy
  clear bl
  go_wp2_with fail
  refine (c_eqIls' _ _ _ _ yG yS _ (ilsAt_own rfl G_5.out (wf_of HYG.out HWZ.out)) (ilsAt_own rfl S_5.out (wf_of HYS.out HWZ.out)) (HYG.out.trans HYS.out.symm)).mono ?_
  rintro e w6 ⟨rfl, bl⟩
  have B_6 := Lib.hid (Below.next B_5.out bl)
  clear B_5
  have S_6 := Lib.hid (OwnL.kept S_5.out bl)
  clear S_5
  have X0_6 := Lib.hid (OwnL.kept X0_5.out bl)
  clear X0_5
  have G_6 := Lib.hid (OwnL.kept G_5.out bl)
  clear G_5
  clear bl
  go_wp2_with fail
  refine (c_toTps _ _ _ ls0 _ (HS0.out.kept B_6.out) HZ0.out).mono ?_
  rintro e w7 ⟨gY0, yY0, rfl, hl, hp, ho, hnd, bl⟩
  have HPY0 := Lib.hid hp
  have HLY0 := Lib.hid hl
  have Y0_7 := Lib.hid (OwnL.base B_6.out.size _ ho)
  have B_7 := Lib.hid (Below.next B_6.out bl)
  clear B_6
  have S_7 := Lib.hid (OwnL.kept S_6.out bl)
  clear S_6
  have X0_7 := Lib.hid (OwnL.kept X0_6.out bl)
  clear X0_6
  have G_7 := Lib.hid (OwnL.kept G_6.out bl)
  clear G_6
  clear hl hp ho hnd
  clear bl
  go_wp2_with fail
  refine (c_eqTps _ _ _ _ _ yX0 yY0 _ (tpsAt_own HLX0.out X0_7.out) (tpsAt_own HLY0.out Y0_7.out) (tp_can_of (HPX0.out.trans HPY0.out.symm))).mono ?_
  rintro e w8 ⟨rfl, bl⟩
  have B_8 := Lib.hid (Below.next B_7.out bl)
  clear B_7
  have S_8 := Lib.hid (OwnL.kept S_7.out bl)
  clear S_7
  have X0_8 := Lib.hid (OwnL.kept X0_7.out bl)
  clear X0_7
  have G_8 := Lib.hid (OwnL.kept G_7.out bl)
  clear G_7
  have Y0_8 := Lib.hid (OwnL.kept Y0_7.out bl)
  clear Y0_7
  clear bl
  clear Y0_8
  go_wp2_with fail
  refine (c_markTps' _ _ _ 1 m0 _ yX0 _ HLX0.out X0_8.out NDX0.out (by rw [cnt_tp_copy HLX0.out HPX0.out]; exact HM0.out) hm0' (by rw [HPX0.out]; have := HZ0.out; omega) (by have := HZ0.out; omega)).mono ?_
  rintro e w9 ⟨rfl, ho, hg⟩
  have B_9 := Lib.hid (hg.below' B_8.out (fun g h => (OwnL.lt _ X0_8.out g h).1))
  have S_9 := Lib.hid (OwnL.apart hg _ S_8.out D_X0_S.out)
  have G_9 := Lib.hid (OwnL.apart hg _ G_8.out D_X0_G.out)
  clear B_8
  clear S_8
  clear X0_8
  clear G_8
  clear ho hg
  go_wp2_with fail
  refine (c_eqIls' _ _ _ _ yG yS _ (ilsAt_own rfl G_9.out (wf_of HYG.out HWZ.out)) (ilsAt_own rfl S_9.out (wf_of HYS.out HWZ.out)) (HYG.out.trans HYS.out.symm)).mono ?_
  rintro e w10 ⟨rfl, bl⟩
  have B_10 := Lib.hid (Below.next B_9.out bl)
  clear B_9
  have S_10 := Lib.hid (OwnL.kept S_9.out bl)
  clear S_9
  have G_10 := Lib.hid (OwnL.kept G_9.out bl)
  clear G_9
  clear bl
  go_wp2_with fail
  obtain ⟨q, hq⟩ : ∃ q, 1 + cntIl yG = q := ⟨_, rfl⟩
  have HQ := Lib.hid hq
  have hq' : q ≤ 8388608 := by have := LG.out; omega
  have hq0 : (0 : Int) ≤ (q : Int) := by omega
  clear hq
  refine (c_markIls _ _ _ 1 q _ yG _ (wf_of HYG.out HWZ.out) rfl G_10.out NDG.out HQ.out hq' LG.out.2.1 LG.out.2.2).mono ?_
  rintro e w11 ⟨rfl, ho, hg⟩
  have B_11 := Lib.hid (hg.below' B_10.out (fun g h => (OwnL.lt _ G_10.out g h).1))
  have S_11 := Lib.hid (OwnL.apart hg _ S_10.out D_G_S.out)
  have G_11 := Lib.hid (ho)
  clear B_10
  clear S_10
  clear G_10
  clear ho hg
  go_wp2_with fail
  refine (c_heldIls _ _ _ 1 q yG _ rfl (held_il rfl G_11.out (by have := HQ.out; omega) LG.out.2.1) HQ.out hq' LG.out.2.1 LG.out.2.2).mono ?_
  rintro e w' ⟨rfl, rfl⟩
  go_wp2_with fail
  refine (c_toTps _ _ _ ls0 _ (HS0.out.kept B_11.out) HZ0.out).mono ?_
  rintro e w12 ⟨gU0, yU0, rfl, hl, hp, ho, hnd, bl⟩
  have HPU0 := Lib.hid hp
  have HLU0 := Lib.hid hl
  have U0_12 := Lib.hid (OwnL.base B_11.out.size _ ho)
  have B_12 := Lib.hid (Below.next B_11.out bl)
  clear B_11
  have S_12 := Lib.hid (OwnL.kept S_11.out bl)
  clear S_11
  have G_12 := Lib.hid (OwnL.kept G_11.out bl)
  clear G_11
  clear hl hp ho hnd
  clear bl
  go_wp2_with fail
  refine (CI.out _ _ yU0 _ HPU0.out (tpsAt_own HLU0.out U0_12.out)).mono ?_
  rintro e w13 ⟨gH, capH, yH, rfl, ho, hnd, hy, bl⟩
  have HYH := Lib.hid hy
  have H_13 := Lib.hid (OwnL.base B_12.out.size _ ho)
  have B_13 := Lib.hid (Below.next B_12.out bl)
  clear B_12
  have S_13 := Lib.hid (OwnL.kept S_12.out bl)
  clear S_12
  have G_13 := Lib.hid (OwnL.kept G_12.out bl)
  clear G_12
  have U0_13 := Lib.hid (OwnL.kept U0_12.out bl)
  clear U0_12
  clear ho hnd hy
  clear bl
  clear U0_13
  go_wp2_with fail
  refine (c_eqIls' _ _ _ _ yH yS _ (ilsAt_own rfl H_13.out (wf_of HYH.out HWZ.out)) (ilsAt_own rfl S_13.out (wf_of HYS.out HWZ.out)) (HYH.out.trans HYS.out.symm)).mono ?_
  rintro e w14 ⟨rfl, bl⟩
  have B_14 := Lib.hid (Below.next B_13.out bl)
  clear B_13
  have S_14 := Lib.hid (OwnL.kept S_13.out bl)
  clear S_13
  have G_14 := Lib.hid (OwnL.kept G_13.out bl)
  clear G_13
  have H_14 := Lib.hid (OwnL.kept H_13.out bl)
  clear H_13
  clear bl
  go_wp2_with fail
  refine (c_heldIls _ _ _ 1 q yG _ rfl (held_il rfl G_14.out (by have := HQ.out; omega) LG.out.2.1) HQ.out hq' LG.out.2.1 LG.out.2.2).mono ?_
  rintro e w' ⟨rfl, rfl⟩
  go_wp2_with fail
  go_ret
  exact ⟨rfl, B_14.out⟩

theorem walk (v0 : Value) (w : World) (w0 : ∃ (g : Option Addr) (c : Nat) (ls : List TpA), v0 = .slice g ls.length c ∧ TpsAt w g ls.length c ls) :
    Calls Try.prog 4 #[v0] w fun e w' => e = .returned (.bool true) ∧ Below w.heap.size w w' := by
  obtain ⟨g0, c0, ls0, rfl, w0⟩ := w0
  by_cases hL0 : (ls0.length + tpSum (ls0.map TpA.p)) ≤ 1048576
  case neg =>
    have HN := Lib.hid (show 1048576 < ls0.length + tpSum (ls0.map TpA.p) by omega)
    have HS := Lib.hid w0
    have bl := Lib.hid ((Below.refl w.heap.size w))
    clear hL0 w0
    go_enter Try.func4, Try.ntmps4
    go_wp2_with fail
    refine (c_szTps_no _ _ _ 1048576 ls0 _ (HS.out.kept bl.out) (Nat.le_refl _) HN.out).mono ?_
    rintro e w1 ⟨rfl, hb⟩
    have HB := Lib.hid (Below.next bl.out hb)
    clear hb bl
    go_wp2
    go_ret
    exact ⟨rfl, HB.out⟩
  case pos =>
    exact core ls0 g0 c0 w w0 (vShapesOf (ls0.map TpA.p)).1 (vShapesOf (ls0.map TpA.p)).2 hL0 (vShapesOf_len (ls0.map TpA.p)) (vShapesOf_wf (ls0.map TpA.p)) (fun g0_ c0_ y0_ w hp0 h0 => t_sShapesOf (ls0.map TpA.p) ls0.length g0_ c0_ y0_ w hp0 h0) (fun g0_ c0_ y0_ w hp0 h0 => t_iShapesOf (ls0.map TpA.p) ls0.length g0_ c0_ y0_ w hp0 h0)

/-! the row's step -/
set_option maxRecDepth 100000 in
theorem lifted (os : Os) (started : os.Started) (H : Type) (enc : TypeId × Value → H) :
    ReturnsInHanded {} Try.checked os 4 .any (Rows.fnExactShapesOfSpec.pre6 enc Try.prog Try.f4 Rows.fnExactShapesOfRow.domain false) (Rows.fnExactShapesOfSpec.post enc Try.prog Try.f4 false true false false) := by
  refine returnsInHanded_of_change (C := Try.checked) own started (by kernel_rfl) Try.func4
    (ChangeSpec.witness6 (enc := enc) (C := Try.checked) false ⟨#[], #[.slice none 0 0], []⟩ 8 (by kernel_rfl) (by kernel_rfl) (by kernel_rfl) (by kernel_rfl)) ?_
  intro W base args ds gs before hval0 hW hcnd _
  have hval : ∀ (j : Nat) t v, Try.f4.params[j]? = some t → args[j]? = some v → Value.okWide Try.prog W .any base t v := hval0
  have hW' := hW
  obtain ⟨p, q, hA0, hV, rfl, hfz, hnd⟩ := hW
  have hA : DataW.TrodAll enc Try.prog W 0 (fun _ => true) true Try.f4.params.toList args.toList ds p := hA0
  rw [Try.params4] at hA hval
  obtain ⟨v0, vs0, d0, ds0, p0, q0, hargs, rfl, rfl, h0, rest0⟩ := trodAll_cons hA
  obtain ⟨rfl, rfl, rfl⟩ := trodAll_nil rest0
  obtain rfl : args = #[v0] := by cases args; simp_all
  obtain ⟨rfl, rfl⟩ := trodVars_none hV
  have k0 := h0
  have lt0 : ∀ x ∈ p0, x.block < W.heap.size := by obtain ⟨m, hm⟩ := k0; exact DataW.trod_lt m _ _ _ hm
  have w0 := open_Tps (hval 0 22 v0 rfl rfl) h0
  clear hA0 hval0
  refine (walk _ W w0).mono fun e W' ⟨he, bel⟩ => ?_
  subst he
  exact ⟨_, rfl, _, _, _, [], _, [], hW', trodAll_mk1 (shut_bool Try.underlying4 _), (trodAll_cons_mk (Below.trod laidOut (by kernel_rfl) (of_decide_eq_true (by kernel_rfl)) k0 bel lt0) trodAll_mk0), rfl, bel.frame _, fun h => by cases h⟩

theorem over : Rows.fnExactShapesOfRow.holds Try.pinned (OpenSpec.ofChange Rows.fnExactShapesOfSpec) :=
  OpenClaim.holds_of_wide 4 Try.f4 rfl rfl rfl rfl rfl rfl rfl ⟨rfl, rfl, rfl, rfl, rfl⟩ rfl rfl rfl rfl rfl (by kernel_rfl) Try.func4 (by kernel_rfl)
    (of_decide_eq_true (by kernel_rfl)) (by unfold Func.isWrapper; first | (rw [if_pos (by decide +kernel)]; kernel_rfl) | (rw [if_neg (by decide +kernel)]; exact ⟨rfl, rfl⟩))
    (fun os started H enc _ => lifted os started H enc)

/-- the statement -/
theorem proved : Rows.FnExactShapesOfSaid := over
end Go.Proofs.Ytdgoladbkaldkaa.fnExactShapesOf
