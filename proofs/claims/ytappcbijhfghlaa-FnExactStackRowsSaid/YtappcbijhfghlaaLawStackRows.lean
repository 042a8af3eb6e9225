/-
  StackRows answers as its model says, for all arguments, changes none of them, and its answer owns its memory. Conditions: none.
-/
import Derived.Test.YtappcbijhfghlaaStk
import Derived.Test.YtappcbijhfghlaaMkTns
import Derived.Test.YtappcbijhfghlaaMkTen
import Derived.ChangeOld
import Derived.Below
namespace Go.Proofs.Ytappcbijhfghlaa.fnExactStackRows
open Go.ChangeShapes Go.WideShapes Go.ChangeAt Go.RowKit
open Go.ChangeMaps (open_string shut_string)
set_option linter.unusedVariables false

set_option maxHeartbeats 4000000 in
set_option maxRecDepth 100000 in
/-- for any contracts of the model and of the program that say the same -/
theorem core (ls0 : List TnA) (g0 : Option Addr) (c0 : Nat) (w : World) (w0' : TnsAt w g0 ls0.length c0 ls0) (R C : Int) (b : Bool) (zs : List Nat) (hL0 : (ls0.length + tnSum (ls0.map TnA.p)) ≤ 1048576) (hz : zs.length ≤ 1048576)
    (CS' : ∀ (g0 : Option Addr) (c0 : Nat) (y0 : List TnA) (w : World), (y0.map TnA.p = ls0.map TnA.p) → (TnsAt w g0 ls0.length c0 y0) → Calls Try.prog 16 #[.slice g0 ls0.length c0] w (RetT R C b zs w))
    (CI' : ∀ (g0 : Option Addr) (c0 : Nat) (y0 : List TnA) (w : World), (y0.map TnA.p = ls0.map TnA.p) → (TnsAt w g0 ls0.length c0 y0) → Calls Try.prog 18 #[.slice g0 ls0.length c0] w (RetT R C b zs w)) :
    Calls Try.prog 3 #[.slice g0 ls0.length c0] w fun e w' => e = .returned (.bool true) ∧ Below w.heap.size w w' := by
  have HS0 := Lib.hid w0'
  have HZ0 := Lib.hid (show ls0.length + tnSum (ls0.map TnA.p) ≤ 1048576 by omega)
  have CS := Lib.hid CS'
  have CI := Lib.hid CI'
  obtain ⟨l0, hl0⟩ : ∃ l, 1048576 - (ls0.length + tnSum (ls0.map TnA.p)) = l := ⟨_, rfl⟩
  have hl0' : l0 ≤ 1048576 := by omega
  have HQ0 := Lib.hid (show ls0.length + tnSum (ls0.map TnA.p) ≤ 1048576 by omega)
  have HE0 := Lib.hid hl0
  have hp0 : (0 : Int) ≤ (l0 : Int) := by omega
  obtain ⟨m0, hm0⟩ : ∃ m, 1 + (2 * ls0.length + tnSum (ls0.map TnA.p)) = m := ⟨_, rfl⟩
  have hm0' : m0 ≤ 4194304 := by omega
  have hn0' : (0 : Int) ≤ (m0 : Int) := by omega
  have HM0 := Lib.hid hm0
  clear hm0
  clear w0' CS' CI' hl0 hL0
  go_enter Try.func3, Try.ntmps3
  go_wp2_with fail
  have B_0 := Lib.hid (Below.refl w.heap.size w)
  refine (c_szTns _ _ _ _ _ ls0 _ (HS0.out.kept B_0.out) (Nat.le_refl _) HQ0.out HE0.out).mono ?_
  rintro e w1 ⟨rfl, bl⟩
  have B_1 := Lib.hid (Below.next B_0.out bl)
  clear B_0
  clear bl
  go_wp2_with fail
  refine (c_toTns _ _ _ ls0 _ (HS0.out.kept B_1.out) HZ0.out).mono ?_
  rintro e w2 ⟨gT0, yT0, rfl, hl, hp, ho, hnd, bl⟩
  have HPT0 := Lib.hid hp
  have HLT0 := Lib.hid hl
  have T0_2 := Lib.hid (OwnL.base B_1.out.size _ ho)
  have B_2 := Lib.hid (Below.next B_1.out bl)
  clear B_1
  clear hl hp ho hnd
  clear bl
  go_wp2_with fail
  refine (CS.out _ _ yT0 _ HPT0.out (tnsAt_own HLT0.out T0_2.out)).mono ?_
  rintro e w3 ⟨aS, capS, yS, rfl, hf, hy, bl⟩
  have HYS := Lib.hid hy
  have ho := flL_own.2 hf
  have S_3 := Lib.hid (OwnL.base B_2.out.size _ ho)
  have B_3 := Lib.hid (Below.next B_2.out bl)
  clear B_2
  have T0_3 := Lib.hid (OwnL.kept T0_2.out bl)
  clear T0_2
  clear hf hy ho
  clear bl
  clear T0_3
  go_wp2_with fail
  have bl := (Below.refl w3.heap.size w3).alloc (Nat.le_refl _) (.cells #[.int .i64 R, .int .i64 C, .slice aS yS.length capS] 26)
  have SB_4 := Lib.hid (Blk.new w3 26 #[.int .i64 R, .int .i64 C, .slice aS yS.length capS])
  have B_4 := Lib.hid (Below.next B_3.out bl)
  clear B_3
  have S_4 := Lib.hid (OwnL.kept S_3.out bl)
  clear S_3
  clear bl
  generalize w3.alloc (.cells #[.int .i64 R, .int .i64 C, .slice aS yS.length capS] 26) = w4 at B_4 S_4 SB_4 ⊢
  obtain ⟨pSB0, pSB1, pSB2, pSBl⟩ := tb3 SB_4.out
  try go_wp2_with fail
  clear pSB0 pSB1 pSB2 pSBl
  obtain ⟨pSB0, pSB1, pSB2, pSBl⟩ := tb3 SB_4.out
  go_wp2_with fail
  clear pSB0 pSB1 pSB2 pSBl
  refine (c_toTns _ _ _ ls0 _ (HS0.out.kept B_4.out) HZ0.out).mono ?_
  rintro e w5 ⟨gX0, yX0, rfl, hl, hp, ho, hnd, bl⟩
  have HPX0 := Lib.hid hp
  have HLX0 := Lib.hid hl
  have D_X0_S := Lib.hid (apart_new S_4.out ho)
  have D_X0_SB := Lib.hid (apart_box SB_4.out ho)
  have NDX0 := Lib.hid hnd
  have X0_5 := Lib.hid (OwnL.base B_4.out.size _ ho)
  have B_5 := Lib.hid (Below.next B_4.out bl)
  clear B_4
  have S_5 := Lib.hid (OwnL.kept S_4.out bl)
  clear S_4
  have SB_5 := Lib.hid (SB_4.out.below bl)
  clear SB_4
  clear hl hp ho hnd
  clear bl
  obtain ⟨pSB0, pSB1, pSB2, pSBl⟩ := tb3 SB_5.out
  go_wp2_with fail
  clear pSB0 pSB1 pSB2 pSBl
  refine (CI.out _ _ yX0 _ HPX0.out (tnsAt_own HLX0.out X0_5.out)).mono ?_
  rintro e w6 ⟨aG, capG, yG, rfl, hf, hy, bl⟩
  have HYG := Lib.hid hy
  have ho := flL_own.2 hf
  have D_G_S := Lib.hid (apart_new S_5.out ho)
  have D_G_SB := Lib.hid (apart_box SB_5.out ho)
  have D_X0_G := Lib.hid (apart_symm (apart_new X0_5.out ho))
  have D_G_X0 := Lib.hid (apart_new X0_5.out ho)
  have LG := Lib.hid (hf.lenle HYG.out hz)
  have G_6 := Lib.hid (OwnL.base B_5.out.size _ ho)
  have B_6 := Lib.hid (Below.next B_5.out bl)
  clear B_5
  have S_6 := Lib.hid (OwnL.kept S_5.out bl)
  clear S_5
  have SB_6 := Lib.hid (SB_5.out.below bl)
  clear SB_5
  have X0_6 := Lib.hid (OwnL.kept X0_5.out bl)
  clear X0_5
  clear hf hy ho
  clear bl
  obtain ⟨pSB0, pSB1, pSB2, pSBl⟩ := tb3 SB_6.out
  go_wp2_with fail
  clear pSB0 pSB1 pSB2 pSBl
  have D_X0_GB := Lib.hid (apart_next X0_6.out)
  have D_G_GB := Lib.hid (apart_next G_6.out)
  have bl := (Below.refl w6.heap.size w6).alloc (Nat.le_refl _) (.cells #[.int .i64 R, .int .i64 C, .slice aG yG.length capG] 26)
  have GB_7 := Lib.hid (Blk.new w6 26 #[.int .i64 R, .int .i64 C, .slice aG yG.length capG])
  have B_7 := Lib.hid (Below.next B_6.out bl)
  clear B_6
  have S_7 := Lib.hid (OwnL.kept S_6.out bl)
  clear S_6
  have SB_7 := Lib.hid (SB_6.out.below bl)
  clear SB_6
  have X0_7 := Lib.hid (OwnL.kept X0_6.out bl)
  clear X0_6
  have G_7 := Lib.hid (OwnL.kept G_6.out bl)
  clear G_6
  clear bl
  generalize w6.alloc (.cells #[.int .i64 R, .int .i64 C, .slice aG yG.length capG] 26) = w7 at B_7 S_7 SB_7 X0_7 G_7 GB_7 ⊢
  obtain ⟨pSB0, pSB1, pSB2, pSBl⟩ := tb3 SB_7.out
  obtain ⟨pGB0, pGB1, pGB2, pGBl⟩ := tb3 GB_7.out
  try go_wp2_with fail
  clear pSB0 pSB1 pSB2 pSBl pGB0 pGB1 pGB2 pGBl
  refine (c_eqTensor R C _ _ _ _ yG yS _ (flL_at.1 (OwnL.at _ G_7.out)) (flL_at.1 (OwnL.at _ S_7.out)) (HYG.out.trans HYS.out.symm)).mono ?_
  rintro e w8 ⟨rfl, bl⟩
  have B_8 := Lib.hid (Below.next B_7.out bl)
  clear B_7
  have S_8 := Lib.hid (OwnL.kept S_7.out bl)
  clear S_7
  have SB_8 := Lib.hid (SB_7.out.below bl)
  clear SB_7
  have X0_8 := Lib.hid (OwnL.kept X0_7.out bl)
  clear X0_7
  have G_8 := Lib.hid (OwnL.kept G_7.out bl)
  clear G_7
  have GB_8 := Lib.hid (GB_7.out.below bl)
  clear GB_7
  clear bl
  obtain ⟨pSB0, pSB1, pSB2, pSBl⟩ := tb3 SB_8.out
  obtain ⟨pGB0, pGB1, pGB2, pGBl⟩ := tb3 GB_8.out
  go_wp2_with fail
  clear pSB0 pSB1 pSB2 pSBl pGB0 pGB1 pGB2 pGBl
  refine (c_toTns _ _ _ ls0 _ (HS0.out.kept B_8.out) HZ0.out).mono ?_
  rintro e w9 ⟨gY0, yY0, rfl, hl, hp, ho, hnd, bl⟩
  have HPY0 := Lib.hid hp
  have HLY0 := Lib.hid hl
  have Y0_9 := Lib.hid (OwnL.base B_8.out.size _ ho)
  have B_9 := Lib.hid (Below.next B_8.out bl)
  clear B_8
  have S_9 := Lib.hid (OwnL.kept S_8.out bl)
  clear S_8
  have SB_9 := Lib.hid (SB_8.out.below bl)
  clear SB_8
  have X0_9 := Lib.hid (OwnL.kept X0_8.out bl)
  clear X0_8
  have G_9 := Lib.hid (OwnL.kept G_8.out bl)
  clear G_8
  have GB_9 := Lib.hid (GB_8.out.below bl)
  clear GB_8
  clear hl hp ho hnd
  clear bl
  obtain ⟨pSB0, pSB1, pSB2, pSBl⟩ := tb3 SB_9.out
  obtain ⟨pGB0, pGB1, pGB2, pGBl⟩ := tb3 GB_9.out
  go_wp2_with fail
  clear pSB0 pSB1 pSB2 pSBl pGB0 pGB1 pGB2 pGBl
  refine (c_eqTns _ _ _ _ _ yX0 yY0 _ (tnsAt_own HLX0.out X0_9.out) (tnsAt_own HLY0.out Y0_9.out) (tn_can_of (HPX0.out.trans HPY0.out.symm))).mono ?_
  rintro e w10 ⟨rfl, bl⟩
  have B_10 := Lib.hid (Below.next B_9.out bl)
  clear B_9
  have S_10 := Lib.hid (OwnL.kept S_9.out bl)
  clear S_9
  have SB_10 := Lib.hid (SB_9.out.below bl)
  clear SB_9
  have X0_10 := Lib.hid (OwnL.kept X0_9.out bl)
  clear X0_9
  have G_10 := Lib.hid (OwnL.kept G_9.out bl)
  clear G_9
  have GB_10 := Lib.hid (GB_9.out.below bl)
  clear GB_9
  have Y0_10 := Lib.hid (OwnL.kept Y0_9.out bl)
  clear Y0_9
  clear bl
  clear Y0_10
  obtain ⟨pSB0, pSB1, pSB2, pSBl⟩ := tb3 SB_10.out
  obtain ⟨pGB0, pGB1, pGB2, pGBl⟩ := tb3 GB_10.out
  go_wp2_with fail
  clear pSB0 pSB1 pSB2 pSBl pGB0 pGB1 pGB2 pGBl
  refine (c_markTns' _ _ _ 1 m0 _ yX0 _ HLX0.out X0_10.out NDX0.out (by rw [cnt_tn_copy HLX0.out HPX0.out]; exact HM0.out) hm0' (by rw [HPX0.out]; have := HZ0.out; omega) (by have := HZ0.out; omega)).mono ?_
  rintro e w11 ⟨rfl, ho, hg⟩
  have B_11 := Lib.hid (hg.below' B_10.out (fun g h => (OwnL.lt _ X0_10.out g h).1))
  have S_11 := Lib.hid (OwnL.apart hg _ S_10.out D_X0_S.out)
  have SB_11 := Lib.hid (SB_10.out.inn hg D_X0_SB.out)
  have G_11 := Lib.hid (OwnL.apart hg _ G_10.out D_X0_G.out)
  have GB_11 := Lib.hid (GB_10.out.inn hg D_X0_GB.out)
  clear B_10
  clear S_10
  clear SB_10
  clear X0_10
  clear G_10
  clear GB_10
  clear ho hg
  obtain ⟨pSB0, pSB1, pSB2, pSBl⟩ := tb3 SB_11.out
  obtain ⟨pGB0, pGB1, pGB2, pGBl⟩ := tb3 GB_11.out
  go_wp2_with fail
  clear pSB0 pSB1 pSB2 pSBl pGB0 pGB1 pGB2 pGBl
  refine (c_eqTensor R C _ _ _ _ yG yS _ (flL_at.1 (OwnL.at _ G_11.out)) (flL_at.1 (OwnL.at _ S_11.out)) (HYG.out.trans HYS.out.symm)).mono ?_
  rintro e w12 ⟨rfl, bl⟩
  have B_12 := Lib.hid (Below.next B_11.out bl)
  clear B_11
  have S_12 := Lib.hid (OwnL.kept S_11.out bl)
  clear S_11
  have SB_12 := Lib.hid (SB_11.out.below bl)
  clear SB_11
  have G_12 := Lib.hid (OwnL.kept G_11.out bl)
  clear G_11
  have GB_12 := Lib.hid (GB_11.out.below bl)
  clear GB_11
  clear bl
  obtain ⟨pSB0, pSB1, pSB2, pSBl⟩ := tb3 SB_12.out
  obtain ⟨pGB0, pGB1, pGB2, pGBl⟩ := tb3 GB_12.out
  go_wp2_with fail
  clear pSB0 pSB1 pSB2 pSBl pGB0 pGB1 pGB2 pGBl
  obtain ⟨q, hq⟩ : ∃ q, 1 + yG.length = q := ⟨_, rfl⟩
  have HQ := Lib.hid hq
  have hq' : q ≤ 4194304 := by have := LG.out; omega
  have hq0 : (0 : Int) ≤ (q : Int) := by omega
  clear hq
  refine (c_markTen R C _ _ _ 1 q yG _ G_12.out HQ.out (by decide) LG.out).mono ?_
  rintro e w13 ⟨rfl, ho, hg⟩
  have B_13 := Lib.hid (hg.below' B_12.out (fun g h => (OwnL.lt _ G_12.out g h).1))
  have S_13 := Lib.hid (OwnL.apart hg _ S_12.out D_G_S.out)
  have SB_13 := Lib.hid (SB_12.out.inn hg D_G_SB.out)
  have G_13 := Lib.hid (ho)
  have GB_13 := Lib.hid (GB_12.out.inn hg D_G_GB.out)
  clear B_12
  clear S_12
  clear SB_12
  clear G_12
  clear GB_12
  clear ho hg
  obtain ⟨pSB0, pSB1, pSB2, pSBl⟩ := tb3 SB_13.out
  obtain ⟨pGB0, pGB1, pGB2, pGBl⟩ := tb3 GB_13.out
  go_wp2_with fail
  clear pSB0 pSB1 pSB2 pSBl pGB0 pGB1 pGB2 pGBl
  refine (c_heldTensor' R C _ _ 1 q yG.length _ (held_ten G_13.out) HQ.out (by decide) LG.out).mono ?_
  rintro e w14 ⟨rfl, bl⟩
  have B_14 := Lib.hid (Below.next B_13.out bl)
  clear B_13
  have S_14 := Lib.hid (OwnL.kept S_13.out bl)
  clear S_13
  have SB_14 := Lib.hid (SB_13.out.below bl)
  clear SB_13
  have G_14 := Lib.hid (OwnL.kept G_13.out bl)
  clear G_13
  have GB_14 := Lib.hid (GB_13.out.below bl)
  clear GB_13
  clear bl
  obtain ⟨pSB0, pSB1, pSB2, pSBl⟩ := tb3 SB_14.out
  obtain ⟨pGB0, pGB1, pGB2, pGBl⟩ := tb3 GB_14.out
  go_wp2_with fail
  clear pSB0 pSB1 pSB2 pSBl pGB0 pGB1 pGB2 pGBl
  refine (c_toTns _ _ _ ls0 _ (HS0.out.kept B_14.out) HZ0.out).mono ?_
  rintro e w15 ⟨gU0, yU0, rfl, hl, hp, ho, hnd, bl⟩
  have HPU0 := Lib.hid hp
  have HLU0 := Lib.hid hl
  have U0_15 := Lib.hid (OwnL.base B_14.out.size _ ho)
  have B_15 := Lib.hid (Below.next B_14.out bl)
  clear B_14
  have S_15 := Lib.hid (OwnL.kept S_14.out bl)
  clear S_14
  have SB_15 := Lib.hid (SB_14.out.below bl)
  clear SB_14
  have G_15 := Lib.hid (OwnL.kept G_14.out bl)
  clear G_14
  have GB_15 := Lib.hid (GB_14.out.below bl)
  clear GB_14
  clear hl hp ho hnd
  clear bl
  obtain ⟨pSB0, pSB1, pSB2, pSBl⟩ := tb3 SB_15.out
  obtain ⟨pGB0, pGB1, pGB2, pGBl⟩ := tb3 GB_15.out
  go_wp2_with fail
  clear pSB0 pSB1 pSB2 pSBl pGB0 pGB1 pGB2 pGBl
  refine (CI.out _ _ yU0 _ HPU0.out (tnsAt_own HLU0.out U0_15.out)).mono ?_
  rintro e w16 ⟨aH, capH, yH, rfl, hf, hy, bl⟩
  have HYH := Lib.hid hy
  have ho := flL_own.2 hf
  have H_16 := Lib.hid (OwnL.base B_15.out.size _ ho)
  have B_16 := Lib.hid (Below.next B_15.out bl)
  clear B_15
  have S_16 := Lib.hid (OwnL.kept S_15.out bl)
  clear S_15
  have SB_16 := Lib.hid (SB_15.out.below bl)
  clear SB_15
  have G_16 := Lib.hid (OwnL.kept G_15.out bl)
  clear G_15
  have GB_16 := Lib.hid (GB_15.out.below bl)
  clear GB_15
  have U0_16 := Lib.hid (OwnL.kept U0_15.out bl)
  clear U0_15
  clear hf hy ho
  clear bl
  clear U0_16
  obtain ⟨pSB0, pSB1, pSB2, pSBl⟩ := tb3 SB_16.out
  obtain ⟨pGB0, pGB1, pGB2, pGBl⟩ := tb3 GB_16.out
  go_wp2_with fail
  clear pSB0 pSB1 pSB2 pSBl pGB0 pGB1 pGB2 pGBl
  have D_G_HB := Lib.hid (apart_next G_16.out)
  have bl := (Below.refl w16.heap.size w16).alloc (Nat.le_refl _) (.cells #[.int .i64 R, .int .i64 C, .slice aH yH.length capH] 26)
  have HB_17 := Lib.hid (Blk.new w16 26 #[.int .i64 R, .int .i64 C, .slice aH yH.length capH])
  have B_17 := Lib.hid (Below.next B_16.out bl)
  clear B_16
  have S_17 := Lib.hid (OwnL.kept S_16.out bl)
  clear S_16
  have SB_17 := Lib.hid (SB_16.out.below bl)
  clear SB_16
  have G_17 := Lib.hid (OwnL.kept G_16.out bl)
  clear G_16
  have GB_17 := Lib.hid (GB_16.out.below bl)
  clear GB_16
  have H_17 := Lib.hid (OwnL.kept H_16.out bl)
  clear H_16
  clear bl
  generalize w16.alloc (.cells #[.int .i64 R, .int .i64 C, .slice aH yH.length capH] 26) = w17 at B_17 S_17 SB_17 G_17 GB_17 H_17 HB_17 ⊢
  obtain ⟨pSB0, pSB1, pSB2, pSBl⟩ := tb3 SB_17.out
  obtain ⟨pGB0, pGB1, pGB2, pGBl⟩ := tb3 GB_17.out
  obtain ⟨pHB0, pHB1, pHB2, pHBl⟩ := tb3 HB_17.out
  try go_wp2_with fail
  clear pSB0 pSB1 pSB2 pSBl pGB0 pGB1 pGB2 pGBl pHB0 pHB1 pHB2 pHBl
  refine (c_eqTensor R C _ _ _ _ yH yS _ (flL_at.1 (OwnL.at _ H_17.out)) (flL_at.1 (OwnL.at _ S_17.out)) (HYH.out.trans HYS.out.symm)).mono ?_
  rintro e w18 ⟨rfl, bl⟩
  have B_18 := Lib.hid (Below.next B_17.out bl)
  clear B_17
  have S_18 := Lib.hid (OwnL.kept S_17.out bl)
  clear S_17
  have SB_18 := Lib.hid (SB_17.out.below bl)
  clear SB_17
  have G_18 := Lib.hid (OwnL.kept G_17.out bl)
  clear G_17
  have GB_18 := Lib.hid (GB_17.out.below bl)
  clear GB_17
  have H_18 := Lib.hid (OwnL.kept H_17.out bl)
  clear H_17
  have HB_18 := Lib.hid (HB_17.out.below bl)
  clear HB_17
  clear bl
  obtain ⟨pSB0, pSB1, pSB2, pSBl⟩ := tb3 SB_18.out
  obtain ⟨pGB0, pGB1, pGB2, pGBl⟩ := tb3 GB_18.out
  obtain ⟨pHB0, pHB1, pHB2, pHBl⟩ := tb3 HB_18.out
  go_wp2_with fail
  clear pSB0 pSB1 pSB2 pSBl pGB0 pGB1 pGB2 pGBl pHB0 pHB1 pHB2 pHBl
  refine (c_heldTensor' R C _ _ 1 q yG.length _ (held_ten G_18.out) HQ.out (by decide) LG.out).mono ?_
  rintro e w19 ⟨rfl, bl⟩
  have B_19 := Lib.hid (Below.next B_18.out bl)
  clear B_18
  have S_19 := Lib.hid (OwnL.kept S_18.out bl)
  clear S_18
  have SB_19 := Lib.hid (SB_18.out.below bl)
  clear SB_18
  have G_19 := Lib.hid (OwnL.kept G_18.out bl)
  clear G_18
  have GB_19 := Lib.hid (GB_18.out.below bl)
  clear GB_18
  have H_19 := Lib.hid (OwnL.kept H_18.out bl)
  clear H_18
  have HB_19 := Lib.hid (HB_18.out.below bl)
  clear HB_18
  clear bl
  obtain ⟨pSB0, pSB1, pSB2, pSBl⟩ := tb3 SB_19.out
  obtain ⟨pGB0, pGB1, pGB2, pGBl⟩ := tb3 GB_19.out
  obtain ⟨pHB0, pHB1, pHB2, pHBl⟩ := tb3 HB_19.out
  go_wp2_with fail
  clear pSB0 pSB1 pSB2 pSBl pGB0 pGB1 pGB2 pGBl pHB0 pHB1 pHB2 pHBl
  go_ret
  exact ⟨rfl, B_19.out⟩

theorem walk (v0 : Value) (w : World) (w0 : ∃ (g : Option Addr) (c : Nat) (ls : List TnA), v0 = .slice g ls.length c ∧ TnsAt w g ls.length c ls) :
    Calls Try.prog 3 #[v0] w fun e w' => e = .returned (.bool true) ∧ Below w.heap.size w w' := by
  obtain ⟨g0, c0, ls0, rfl, w0⟩ := w0
  by_cases hL0 : (ls0.length + tnSum (ls0.map TnA.p)) ≤ 1048576
  case neg =>
    have HN := Lib.hid (show 1048576 < ls0.length + tnSum (ls0.map TnA.p) by omega)
    have HS := Lib.hid w0
    have bl := Lib.hid ((Below.refl w.heap.size w))
    clear hL0 w0
    go_enter Try.func3, Try.ntmps3
    go_wp2_with fail
    refine (c_szTns_no _ _ _ 1048576 ls0 _ (HS.out.kept bl.out) (Nat.le_refl _) HN.out).mono ?_
    rintro e w1 ⟨rfl, hb⟩
    have HB := Lib.hid (Below.next bl.out hb)
    clear hb bl
    go_wp2
    go_ret
    exact ⟨rfl, HB.out⟩
  case pos =>
    exact core ls0 g0 c0 w w0 (vStackRows (ls0.map TnA.p)).1 (vStackRows (ls0.map TnA.p)).2.1 (vStackRows (ls0.map TnA.p)).2.2.1 (vStackRows (ls0.map TnA.p)).2.2.2 hL0 (vStackRows_len (ls0.map TnA.p)) (fun g c y w hp0 h0 => t_sStackRows (ls0.map TnA.p) ls0.length g c y w hp0 h0) (fun g c y w hp0 h0 => t_iStackRows (ls0.map TnA.p) ls0.length g c y w hp0 h0)

/-! the row's step -/
set_option maxRecDepth 100000 in
theorem lifted (os : Os) (started : os.Started) (H : Type) (enc : TypeId × Value → H) :
    ReturnsInHanded {} Try.checked os 3 .any (Rows.fnExactStackRowsSpec.pre6 enc Try.prog Try.f3 Rows.fnExactStackRowsRow.domain false) (Rows.fnExactStackRowsSpec.post enc Try.prog Try.f3 false true false false) := by
  refine returnsInHanded_of_change (C := Try.checked) own started (by kernel_rfl) Try.func3
    (ChangeSpec.witness6 (enc := enc) (C := Try.checked) false ⟨#[], #[.slice none 0 0], []⟩ 8 (by kernel_rfl) (by kernel_rfl) (by kernel_rfl) (by kernel_rfl)) ?_
  intro W base args ds gs before hval0 hW hcnd _
  have hval : ∀ (j : Nat) t v, Try.f3.params[j]? = some t → args[j]? = some v → Value.okWide Try.prog W .any base t v := hval0
  have hW' := hW
  obtain ⟨p, q, hA0, hV, rfl, hfz, hnd⟩ := hW
  have hA : DataW.TrodAll enc Try.prog W 0 (fun _ => true) true Try.f3.params.toList args.toList ds p := hA0
  rw [Try.params3] at hA hval
  obtain ⟨v0, vs0, d0, ds0, p0, q0, hargs, rfl, rfl, h0, rest0⟩ := trodAll_cons hA
  obtain ⟨rfl, rfl, rfl⟩ := trodAll_nil rest0
  obtain rfl : args = #[v0] := by cases args; simp_all
  obtain ⟨rfl, rfl⟩ := trodVars_none hV
  have k0 := h0
  have lt0 : ∀ x ∈ p0, x.block < W.heap.size := by obtain ⟨m, hm⟩ := k0; exact DataW.trod_lt m _ _ _ hm
  have w0 := open_Tns (hval 0 22 v0 rfl rfl) h0
  clear hA0 hval0
  refine (walk _ W w0).mono fun e W' ⟨he, bel⟩ => ?_
  subst he
  exact ⟨_, rfl, _, _, _, [], _, [], hW', trodAll_mk1 (shut_bool Try.underlying4 _), (trodAll_cons_mk (Below.trod laidOut (by kernel_rfl) (of_decide_eq_true (by kernel_rfl)) k0 bel lt0) trodAll_mk0), rfl, bel.frame _, fun h => by cases h⟩

theorem over : Rows.fnExactStackRowsRow.holds Try.pinned (OpenSpec.ofChange Rows.fnExactStackRowsSpec) :=
  OpenClaim.holds_of_wide 3 Try.f3 rfl rfl rfl rfl rfl rfl rfl ⟨rfl, rfl, rfl, rfl, rfl⟩ rfl rfl rfl rfl rfl (by kernel_rfl) Try.func3 (by kernel_rfl)
    (of_decide_eq_true (by kernel_rfl)) (by unfold Func.isWrapper; first | (rw [if_pos (by decide +kernel)]; kernel_rfl) | (rw [if_neg (by decide +kernel)]; exact ⟨rfl, rfl⟩))
    (fun os started H enc _ => lifted os started H enc)

/-- the statement -/
theorem proved : Rows.FnExactStackRowsSaid := over
end Go.Proofs.Ytappcbijhfghlaa.fnExactStackRows
