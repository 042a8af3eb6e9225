/-
  RoundModel answers as its model says, for every model, changes nothing of it, and its answer owns its memory. Conditions: none.
-/
import Derived.Test.YtaklcmibpnpffaaTRound
import Derived.ChangeOld
import Derived.Below
namespace Go.Proofs.Ytaklcmibpnpffaa.fnExactRoundModel
open Go.ChangeShapes Go.WideShapes Go.ChangeAt Go.RowKit
open Go.ChangeMaps (open_string shut_string)
set_option linter.unusedVariables false

set_option maxHeartbeats 4000000 in
set_option maxRecDepth 100000 in
/-- for any contracts of the model and of the program that say the same -/
theorem core (ls0 : List LayA) (g0 : Option Addr) (c0 : Nat) (w : World) (w0' : LaysAt w g0 ls0.length c0 ls0) (b : Bool) (zs : List LayP) (hL0 : (ls0.length + laySum (ls0.map LayA.p)) ≤ 1048576) (hz : 3 * zs.length + laySum zs ≤ 1048576)
    (CS' : ∀ (g0 : Option Addr) (c0 : Nat) (y0 : List LayA) (w : World), (y0.map LayA.p = ls0.map LayA.p) → (LaysAt w g0 ls0.length c0 y0) → Calls Try.prog 47 #[.agg #[.slice g0 ls0.length c0]] w (RetM b zs w))
    (CI' : ∀ (g0 : Option Addr) (c0 : Nat) (y0 : List LayA) (w : World), (y0.map LayA.p = ls0.map LayA.p) → (LaysAt w g0 ls0.length c0 y0) → Calls Try.prog 49 #[.agg #[.slice g0 ls0.length c0]] w (RetM b zs w)) :
    Calls Try.prog 14 #[.agg #[.slice g0 ls0.length c0]] w fun e w' => e = .returned (.bool true) ∧ Below w.heap.size w w' := by
  have HS0 := Lib.hid w0'
  have HZ0 := Lib.hid (show ls0.length + laySum (ls0.map LayA.p) ≤ 1048576 by omega)
  have CS := Lib.hid CS'
  have CI := Lib.hid CI'
  obtain ⟨l0, hl0⟩ : ∃ l, 1048576 - (ls0.length + laySum (ls0.map LayA.p)) = l := ⟨_, rfl⟩
  have hl0' : l0 ≤ 1048576 := by omega
  have HQ0 := Lib.hid (show ls0.length + laySum (ls0.map LayA.p) ≤ 1048576 by omega)
  have HE0 := Lib.hid hl0
  have hp0 : (0 : Int) ≤ (l0 : Int) := by omega
  obtain ⟨m0, hm0⟩ : ∃ m, 1 + (3 * ls0.length + laySum (ls0.map LayA.p)) = m := ⟨_, rfl⟩
  have hm0' : m0 ≤ 4194304 := by omega
  have hn0' : (0 : Int) ≤ (m0 : Int) := by omega
  have HM0 := Lib.hid hm0
  clear hm0
  clear w0' CS' CI' hl0 hL0
  go_enter Try.func14, Try.ntmps14
  go_wp2_with fail
  have B_0 := Lib.hid (Below.refl w.heap.size w)
  have bl := (Below.refl (w).heap.size (w)).alloc (Nat.le_refl _) (.cells #[.slice g0 ls0.length c0] 62)
  have K0_1 := Lib.hid (Blk.new (w) 62 #[.slice g0 ls0.length c0])
  have B_1 := Lib.hid (Below.next B_0.out bl)
  clear B_0
  clear bl
  generalize (w).alloc (.cells #[.slice g0 ls0.length c0] 62) = w1 at B_1 K0_1 ⊢
  refine (c_szMod _ _ _ _ _ ls0 _ (HS0.out.kept B_1.out) (Nat.le_refl _) HQ0.out HE0.out).mono ?_
  rintro e w2 ⟨rfl, bl⟩
  have B_2 := Lib.hid (Below.next B_1.out bl)
  clear B_1
  have K0_2 := Lib.hid (K0_1.out.below bl)
  clear K0_1
  clear bl
  obtain ⟨pK00, pK0l⟩ := tb1 K0_2.out
  go_wp2_with fail
  clear pK00 pK0l
  refine (c_toMod _ _ _ ls0 _ (HS0.out.kept B_2.out) HZ0.out).mono ?_
  rintro e w3 ⟨gT0, yT0, rfl, hl, hp, ho, hnd, bl⟩
  have HPT0 := Lib.hid hp
  have HLT0 := Lib.hid hl
  have T0_3 := Lib.hid (OwnL.base B_2.out.size _ ho)
  have B_3 := Lib.hid (Below.next B_2.out bl)
  clear B_2
  have K0_3 := Lib.hid (K0_2.out.below bl)
  clear K0_2
  clear hl hp ho hnd
  clear bl
  obtain ⟨pK00, pK0l⟩ := tb1 K0_3.out
  go_wp2_with fail
  clear pK00 pK0l
  refine (CS.out _ _ yT0 _ HPT0.out (laysAt_own HLT0.out T0_3.out)).mono ?_
  rintro e w4 ⟨gS, capS, yS, rfl, ho, hnd, hy, bl⟩
  have HYS := Lib.hid hy
  have S_4 := Lib.hid (OwnL.base B_3.out.size _ ho)
  have B_4 := Lib.hid (Below.next B_3.out bl)
  clear B_3
  have K0_4 := Lib.hid (K0_3.out.below bl)
  clear K0_3
  have T0_4 := Lib.hid (OwnL.kept T0_3.out bl)
  clear T0_3
  clear ho hnd hy
  clear bl
  clear T0_4
  obtain ⟨pK00, pK0l⟩ := tb1 K0_4.out
  go_wp2_with fail
  clear pK00 pK0l
  have bl := (Below.refl w4.heap.size w4).alloc (Nat.le_refl _) (.cells #[.slice gS yS.length capS] 66)
  have SB_5 := Lib.hid (Blk.new w4 66 #[.slice gS yS.length capS])
  have B_5 := Lib.hid (Below.next B_4.out bl)
  clear B_4
  have K0_5 := Lib.hid (K0_4.out.below bl)
  clear K0_4
  have S_5 := Lib.hid (OwnL.kept S_4.out bl)
  clear S_4
  clear bl
  generalize w4.alloc (.cells #[.slice gS yS.length capS] 66) = w5 at B_5 K0_5 S_5 SB_5 ⊢
  obtain ⟨pK00, pK0l⟩ := tb1 K0_5.out
  obtain ⟨pSB0, pSBl⟩ := tb1 SB_5.out
  try go_wp2_with fail
  clear pK00 pK0l pSB0 pSBl
  obtain ⟨pK00, pK0l⟩ := tb1 K0_5.out
  obtain ⟨pSB0, pSBl⟩ := tb1 SB_5.out
  go_wp2_with fail
  clear pK00 pK0l pSB0 pSBl
  refine (c_toMod _ _ _ ls0 _ (HS0.out.kept B_5.out) HZ0.out).mono ?_
  rintro e w6 ⟨gX0, yX0, rfl, hl, hp, ho, hnd, bl⟩
  have HPX0 := Lib.hid hp
  have HLX0 := Lib.hid hl
  have D_X0_K0 := Lib.hid (apart_box K0_5.out ho)
  have D_X0_S := Lib.hid (apart_new S_5.out ho)
  have D_X0_SB := Lib.hid (apart_box SB_5.out ho)
  have NDX0 := Lib.hid hnd
  have X0_6 := Lib.hid (OwnL.base B_5.out.size _ ho)
  have B_6 := Lib.hid (Below.next B_5.out bl)
  clear B_5
  have K0_6 := Lib.hid (K0_5.out.below bl)
  clear K0_5
  have S_6 := Lib.hid (OwnL.kept S_5.out bl)
  clear S_5
  have SB_6 := Lib.hid (SB_5.out.below bl)
  clear SB_5
  clear hl hp ho hnd
  clear bl
  obtain ⟨pK00, pK0l⟩ := tb1 K0_6.out
  obtain ⟨pSB0, pSBl⟩ := tb1 SB_6.out
  go_wp2_with fail
  clear pK00 pK0l pSB0 pSBl
  have D_X0_XB0 := Lib.hid (apart_next X0_6.out)
  have bl := (Below.refl w6.heap.size w6).alloc (Nat.le_refl _) (.cells #[.slice (some ⟨gX0, 0, none⟩) ls0.length ls0.length] 66)
  have XB0_7 := Lib.hid (Blk.new w6 66 #[.slice (some ⟨gX0, 0, none⟩) ls0.length ls0.length])
  have B_7 := Lib.hid (Below.next B_6.out bl)
  clear B_6
  have K0_7 := Lib.hid (K0_6.out.below bl)
  clear K0_6
  have S_7 := Lib.hid (OwnL.kept S_6.out bl)
  clear S_6
  have SB_7 := Lib.hid (SB_6.out.below bl)
  clear SB_6
  have X0_7 := Lib.hid (OwnL.kept X0_6.out bl)
  clear X0_6
  clear bl
  generalize w6.alloc (.cells #[.slice (some ⟨gX0, 0, none⟩) ls0.length ls0.length] 66) = w7 at B_7 K0_7 S_7 SB_7 X0_7 XB0_7 ⊢
  obtain ⟨pK00, pK0l⟩ := tb1 K0_7.out
  obtain ⟨pSB0, pSBl⟩ := tb1 SB_7.out
  obtain ⟨pXB00, pXB0l⟩ := tb1 XB0_7.out
  try go_wp2_with fail
  clear pK00 pK0l pSB0 pSBl pXB00 pXB0l
  refine (CI.out _ _ yX0 _ HPX0.out (laysAt_own HLX0.out X0_7.out)).mono ?_
  rintro e w8 ⟨gG, capG, yG, rfl, ho, hnd, hy, bl⟩
  have HYG := Lib.hid hy
  have D_G_K0 := Lib.hid (apart_box K0_7.out ho)
  have D_G_S := Lib.hid (apart_new S_7.out ho)
  have D_G_SB := Lib.hid (apart_box SB_7.out ho)
  have D_X0_G := Lib.hid (apart_symm (apart_new X0_7.out ho))
  have D_G_X0 := Lib.hid (apart_new X0_7.out ho)
  have D_G_XB0 := Lib.hid (apart_box XB0_7.out ho)
  have NDG := Lib.hid hnd
  have LG := Lib.hid (retM_bound hy hz)
  have G_8 := Lib.hid (OwnL.base B_7.out.size _ ho)
  have B_8 := Lib.hid (Below.next B_7.out bl)
  clear B_7
  have K0_8 := Lib.hid (K0_7.out.below bl)
  clear K0_7
  have S_8 := Lib.hid (OwnL.kept S_7.out bl)
  clear S_7
  have SB_8 := Lib.hid (SB_7.out.below bl)
  clear SB_7
  have X0_8 := Lib.hid (OwnL.kept X0_7.out bl)
  clear X0_7
  have XB0_8 := Lib.hid (XB0_7.out.below bl)
  clear XB0_7
  clear ho hnd hy
  clear bl
  obtain ⟨pK00, pK0l⟩ := tb1 K0_8.out
  obtain ⟨pSB0, pSBl⟩ := tb1 SB_8.out
  obtain ⟨pXB00, pXB0l⟩ := tb1 XB0_8.out
  go_wp2_with fail
  clear pK00 pK0l pSB0 pSBl pXB00 pXB0l
  have D_X0_GB := Lib.hid (apart_next X0_8.out)
  have D_G_GB := Lib.hid (apart_next G_8.out)
  have bl := (Below.refl w8.heap.size w8).alloc (Nat.le_refl _) (.cells #[.slice gG yG.length capG] 66)
  have GB_9 := Lib.hid (Blk.new w8 66 #[.slice gG yG.length capG])
  have B_9 := Lib.hid (Below.next B_8.out bl)
  clear B_8
  have K0_9 := Lib.hid (K0_8.out.below bl)
  clear K0_8
  have S_9 := Lib.hid (OwnL.kept S_8.out bl)
  clear S_8
  have SB_9 := Lib.hid (SB_8.out.below bl)
  clear SB_8
  have X0_9 := Lib.hid (OwnL.kept X0_8.out bl)
  clear X0_8
  have XB0_9 := Lib.hid (XB0_8.out.below bl)
  clear XB0_8
  have G_9 := Lib.hid (OwnL.kept G_8.out bl)
  clear G_8
  clear bl
  generalize w8.alloc (.cells #[.slice gG yG.length capG] 66) = w9 at B_9 K0_9 S_9 SB_9 X0_9 XB0_9 G_9 GB_9 ⊢
  obtain ⟨pK00, pK0l⟩ := tb1 K0_9.out
  obtain ⟨pSB0, pSBl⟩ := tb1 SB_9.out
  obtain ⟨pXB00, pXB0l⟩ := tb1 XB0_9.out
  obtain ⟨pGB0, pGBl⟩ := tb1 GB_9.out
  try go_wp2_with fail
  clear pK00 pK0l pSB0 pSBl pXB00 pXB0l pGB0 pGBl
  refine (c_eqMod' _ _ _ _ yG yS _ (laysAt_own rfl G_9.out) (laysAt_own rfl S_9.out) (HYG.out.trans HYS.out.symm)).mono ?_
  rintro e w10 ⟨rfl, bl⟩
  have B_10 := Lib.hid (Below.next B_9.out bl)
  clear B_9
  have K0_10 := Lib.hid (K0_9.out.below bl)
  clear K0_9
  have S_10 := Lib.hid (OwnL.kept S_9.out bl)
  clear S_9
  have SB_10 := Lib.hid (SB_9.out.below bl)
  clear SB_9
  have X0_10 := Lib.hid (OwnL.kept X0_9.out bl)
  clear X0_9
  have XB0_10 := Lib.hid (XB0_9.out.below bl)
  clear XB0_9
  have G_10 := Lib.hid (OwnL.kept G_9.out bl)
  clear G_9
  have GB_10 := Lib.hid (GB_9.out.below bl)
  clear GB_9
  clear bl
  obtain ⟨pK00, pK0l⟩ := tb1 K0_10.out
  obtain ⟨pSB0, pSBl⟩ := tb1 SB_10.out
  obtain ⟨pXB00, pXB0l⟩ := tb1 XB0_10.out
  obtain ⟨pGB0, pGBl⟩ := tb1 GB_10.out
  go_wp2_with fail
  clear pK00 pK0l pSB0 pSBl pXB00 pXB0l pGB0 pGBl
  have bl : Below w10.heap.size w10 w10.drew := (Below.refl _ _).drew
  have B_11 := Lib.hid (Below.next B_10.out bl)
  clear B_10
  have K0_11 := Lib.hid (K0_10.out.below bl)
  clear K0_10
  have S_11 := Lib.hid (OwnL.kept S_10.out bl)
  clear S_10
  have SB_11 := Lib.hid (SB_10.out.below bl)
  clear SB_10
  have X0_11 := Lib.hid (OwnL.kept X0_10.out bl)
  clear X0_10
  have XB0_11 := Lib.hid (XB0_10.out.below bl)
  clear XB0_10
  have G_11 := Lib.hid (OwnL.kept G_10.out bl)
  clear G_10
  have GB_11 := Lib.hid (GB_10.out.below bl)
  clear GB_10
  clear bl
  obtain ⟨pK00, pK0l⟩ := tb1 K0_11.out
  obtain ⟨pSB0, pSBl⟩ := tb1 SB_11.out
  obtain ⟨pXB00, pXB0l⟩ := tb1 XB0_11.out
  obtain ⟨pGB0, pGBl⟩ := tb1 GB_11.out
  go_region_held3 (fun w' => w'.cell? ⟨w.heap.size, 0, none⟩ = some (.slice g0 ls0.length c0) ∧ w'.cell? ⟨w4.heap.size, 0, none⟩ = some (.slice gS yS.length capS) ∧ w'.cell? ⟨w6.heap.size, 0, none⟩ = some (.slice (some ⟨gX0, 0, none⟩) ls0.length ls0.length) ∧ w'.cell? ⟨w8.heap.size, 0, none⟩ = some (.slice gG yG.length capG)) (go_keep)
    (first
      | (go_at_call 48
         clear pK00 pK0l pSB0 pSBl pXB00 pXB0l pGB0 pGBl
         refine (c_toMod _ _ _ ls0 _ (HS0.out.kept B_11.out) HZ0.out).mono ?_
         rintro e w12 ⟨gY0, yY0, rfl, hl, hp, ho, hnd, bl⟩
         have HPY0 := Lib.hid hp
         have HLY0 := Lib.hid hl
         have Y0_12 := Lib.hid (OwnL.base B_11.out.size _ ho)
         have B_12 := Lib.hid (Below.next B_11.out bl)
         clear B_11
         have K0_12 := Lib.hid (K0_11.out.below bl)
         clear K0_11
         have S_12 := Lib.hid (OwnL.kept S_11.out bl)
         clear S_11
         have SB_12 := Lib.hid (SB_11.out.below bl)
         clear SB_11
         have X0_12 := Lib.hid (OwnL.kept X0_11.out bl)
         clear X0_11
         have XB0_12 := Lib.hid (XB0_11.out.below bl)
         clear XB0_11
         have G_12 := Lib.hid (OwnL.kept G_11.out bl)
         clear G_11
         have GB_12 := Lib.hid (GB_11.out.below bl)
         clear GB_11
         clear hl hp ho hnd
         clear bl
         obtain ⟨pK00, pK0l⟩ := tb1 K0_12.out
         obtain ⟨pSB0, pSBl⟩ := tb1 SB_12.out
         obtain ⟨pXB00, pXB0l⟩ := tb1 XB0_12.out
         obtain ⟨pGB0, pGBl⟩ := tb1 GB_12.out)
      | (go_at_call 50
         clear pK00 pK0l pSB0 pSBl pXB00 pXB0l pGB0 pGBl
         refine (c_eqMod _ _ _ _ _ yX0 yY0 _ (laysAt_own HLX0.out X0_12.out) (laysAt_own HLY0.out Y0_12.out) (can_of (HPX0.out.trans HPY0.out.symm))).mono ?_
         rintro e w13 ⟨rfl, bl⟩
         have B_13 := Lib.hid (Below.next B_12.out bl)
         clear B_12
         have K0_13 := Lib.hid (K0_12.out.below bl)
         clear K0_12
         have S_13 := Lib.hid (OwnL.kept S_12.out bl)
         clear S_12
         have SB_13 := Lib.hid (SB_12.out.below bl)
         clear SB_12
         have X0_13 := Lib.hid (OwnL.kept X0_12.out bl)
         clear X0_12
         have XB0_13 := Lib.hid (XB0_12.out.below bl)
         clear XB0_12
         have G_13 := Lib.hid (OwnL.kept G_12.out bl)
         clear G_12
         have GB_13 := Lib.hid (GB_12.out.below bl)
         clear GB_12
         have Y0_13 := Lib.hid (OwnL.kept Y0_12.out bl)
         clear Y0_12
         clear bl
         obtain ⟨pK00, pK0l⟩ := tb1 K0_13.out
         obtain ⟨pSB0, pSBl⟩ := tb1 SB_13.out
         obtain ⟨pXB00, pXB0l⟩ := tb1 XB0_13.out
         obtain ⟨pGB0, pGBl⟩ := tb1 GB_13.out))
  clear pK00 pK0l pSB0 pSBl pXB00 pXB0l pGB0 pGBl
  clear Y0_13
  obtain ⟨pK00, pK0l⟩ := tb1 K0_13.out
  obtain ⟨pSB0, pSBl⟩ := tb1 SB_13.out
  obtain ⟨pXB00, pXB0l⟩ := tb1 XB0_13.out
  obtain ⟨pGB0, pGBl⟩ := tb1 GB_13.out
  go_wp2_with fail
  clear pK00 pK0l pSB0 pSBl pXB00 pXB0l pGB0 pGBl
  refine (c_markMod _ _ _ 1 m0 _ yX0 _ HLX0.out X0_13.out NDX0.out (by rw [cnt_copy HLX0.out HPX0.out]; exact HM0.out) hm0' (by rw [HPX0.out]; have := HZ0.out; omega)).mono ?_
  rintro e w14 ⟨rfl, ho, hg⟩
  have B_14 := Lib.hid (hg.below' B_13.out (fun g h => (OwnL.lt _ X0_13.out g h).1))
  have K0_14 := Lib.hid (K0_13.out.inn hg D_X0_K0.out)
  have S_14 := Lib.hid (OwnL.apart hg _ S_13.out D_X0_S.out)
  have SB_14 := Lib.hid (SB_13.out.inn hg D_X0_SB.out)
  have XB0_14 := Lib.hid (XB0_13.out.inn hg D_X0_XB0.out)
  have G_14 := Lib.hid (OwnL.apart hg _ G_13.out D_X0_G.out)
  have GB_14 := Lib.hid (GB_13.out.inn hg D_X0_GB.out)
  clear B_13
  clear K0_13
  clear S_13
  clear SB_13
  clear X0_13
  clear XB0_13
  clear G_13
  clear GB_13
  clear ho hg
  clear XB0_14
  obtain ⟨pK00, pK0l⟩ := tb1 K0_14.out
  obtain ⟨pSB0, pSBl⟩ := tb1 SB_14.out
  obtain ⟨pGB0, pGBl⟩ := tb1 GB_14.out
  go_wp2_with fail
  clear pK00 pK0l pSB0 pSBl pGB0 pGBl
  refine (c_eqMod' _ _ _ _ yG yS _ (laysAt_own rfl G_14.out) (laysAt_own rfl S_14.out) (HYG.out.trans HYS.out.symm)).mono ?_
  rintro e w15 ⟨rfl, bl⟩
  have B_15 := Lib.hid (Below.next B_14.out bl)
  clear B_14
  have K0_15 := Lib.hid (K0_14.out.below bl)
  clear K0_14
  have S_15 := Lib.hid (OwnL.kept S_14.out bl)
  clear S_14
  have SB_15 := Lib.hid (SB_14.out.below bl)
  clear SB_14
  have G_15 := Lib.hid (OwnL.kept G_14.out bl)
  clear G_14
  have GB_15 := Lib.hid (GB_14.out.below bl)
  clear GB_14
  clear bl
  obtain ⟨pK00, pK0l⟩ := tb1 K0_15.out
  obtain ⟨pSB0, pSBl⟩ := tb1 SB_15.out
  obtain ⟨pGB0, pGBl⟩ := tb1 GB_15.out
  go_wp2_with fail
  clear pK00 pK0l pSB0 pSBl pGB0 pGBl
  obtain ⟨q, hq⟩ : ∃ q, 1 + cntLays yG = q := ⟨_, rfl⟩
  have HQ := Lib.hid hq
  have hq' : q ≤ 4194304 := by have := LG.out; omega
  have hq0 : (0 : Int) ≤ (q : Int) := by omega
  clear hq
  refine (c_markMod _ _ _ 1 q _ yG _ rfl G_15.out NDG.out HQ.out hq' LG.out.2).mono ?_
  rintro e w16 ⟨rfl, ho, hg⟩
  have B_16 := Lib.hid (hg.below' B_15.out (fun g h => (OwnL.lt _ G_15.out g h).1))
  have K0_16 := Lib.hid (K0_15.out.inn hg D_G_K0.out)
  have S_16 := Lib.hid (OwnL.apart hg _ S_15.out D_G_S.out)
  have SB_16 := Lib.hid (SB_15.out.inn hg D_G_SB.out)
  have G_16 := Lib.hid (ho)
  have GB_16 := Lib.hid (GB_15.out.inn hg D_G_GB.out)
  clear B_15
  clear K0_15
  clear S_15
  clear SB_15
  clear G_15
  clear GB_15
  clear ho hg
  obtain ⟨pK00, pK0l⟩ := tb1 K0_16.out
  obtain ⟨pSB0, pSBl⟩ := tb1 SB_16.out
  obtain ⟨pGB0, pGBl⟩ := tb1 GB_16.out
  go_wp2_with fail
  clear pK00 pK0l pSB0 pSBl pGB0 pGBl
  refine (c_heldMod _ _ _ 1 q yG _ rfl (held_mod rfl G_16.out) HQ.out hq' LG.out.2).mono ?_
  rintro e w17 ⟨rfl, bl⟩
  have B_17 := Lib.hid (Below.next B_16.out bl)
  clear B_16
  have K0_17 := Lib.hid (K0_16.out.below bl)
  clear K0_16
  have S_17 := Lib.hid (OwnL.kept S_16.out bl)
  clear S_16
  have SB_17 := Lib.hid (SB_16.out.below bl)
  clear SB_16
  have G_17 := Lib.hid (OwnL.kept G_16.out bl)
  clear G_16
  have GB_17 := Lib.hid (GB_16.out.below bl)
  clear GB_16
  clear bl
  obtain ⟨pK00, pK0l⟩ := tb1 K0_17.out
  obtain ⟨pSB0, pSBl⟩ := tb1 SB_17.out
  obtain ⟨pGB0, pGBl⟩ := tb1 GB_17.out
  go_wp2_with fail
  clear pK00 pK0l pSB0 pSBl pGB0 pGBl
  refine (c_toMod _ _ _ ls0 _ (HS0.out.kept B_17.out) HZ0.out).mono ?_
  rintro e w18 ⟨gU0, yU0, rfl, hl, hp, ho, hnd, bl⟩
  have HPU0 := Lib.hid hp
  have HLU0 := Lib.hid hl
  have U0_18 := Lib.hid (OwnL.base B_17.out.size _ ho)
  have B_18 := Lib.hid (Below.next B_17.out bl)
  clear B_17
  have K0_18 := Lib.hid (K0_17.out.below bl)
  clear K0_17
  have S_18 := Lib.hid (OwnL.kept S_17.out bl)
  clear S_17
  have SB_18 := Lib.hid (SB_17.out.below bl)
  clear SB_17
  have G_18 := Lib.hid (OwnL.kept G_17.out bl)
  clear G_17
  have GB_18 := Lib.hid (GB_17.out.below bl)
  clear GB_17
  clear hl hp ho hnd
  clear bl
  obtain ⟨pK00, pK0l⟩ := tb1 K0_18.out
  obtain ⟨pSB0, pSBl⟩ := tb1 SB_18.out
  obtain ⟨pGB0, pGBl⟩ := tb1 GB_18.out
  go_wp2_with fail
  clear pK00 pK0l pSB0 pSBl pGB0 pGBl
  refine (CI.out _ _ yU0 _ HPU0.out (laysAt_own HLU0.out U0_18.out)).mono ?_
  rintro e w19 ⟨gH, capH, yH, rfl, ho, hnd, hy, bl⟩
  have HYH := Lib.hid hy
  have H_19 := Lib.hid (OwnL.base B_18.out.size _ ho)
  have B_19 := Lib.hid (Below.next B_18.out bl)
  clear B_18
  have K0_19 := Lib.hid (K0_18.out.below bl)
  clear K0_18
  have S_19 := Lib.hid (OwnL.kept S_18.out bl)
  clear S_18
  have SB_19 := Lib.hid (SB_18.out.below bl)
  clear SB_18
  have G_19 := Lib.hid (OwnL.kept G_18.out bl)
  clear G_18
  have GB_19 := Lib.hid (GB_18.out.below bl)
  clear GB_18
  have U0_19 := Lib.hid (OwnL.kept U0_18.out bl)
  clear U0_18
  clear ho hnd hy
  clear bl
  clear U0_19
  obtain ⟨pK00, pK0l⟩ := tb1 K0_19.out
  obtain ⟨pSB0, pSBl⟩ := tb1 SB_19.out
  obtain ⟨pGB0, pGBl⟩ := tb1 GB_19.out
  go_wp2_with fail
  clear pK00 pK0l pSB0 pSBl pGB0 pGBl
  have D_G_HB := Lib.hid (apart_next G_19.out)
  have bl := (Below.refl w19.heap.size w19).alloc (Nat.le_refl _) (.cells #[.slice gH yH.length capH] 66)
  have HB_20 := Lib.hid (Blk.new w19 66 #[.slice gH yH.length capH])
  have B_20 := Lib.hid (Below.next B_19.out bl)
  clear B_19
  have K0_20 := Lib.hid (K0_19.out.below bl)
  clear K0_19
  have S_20 := Lib.hid (OwnL.kept S_19.out bl)
  clear S_19
  have SB_20 := Lib.hid (SB_19.out.below bl)
  clear SB_19
  have G_20 := Lib.hid (OwnL.kept G_19.out bl)
  clear G_19
  have GB_20 := Lib.hid (GB_19.out.below bl)
  clear GB_19
  have H_20 := Lib.hid (OwnL.kept H_19.out bl)
  clear H_19
  clear bl
  generalize w19.alloc (.cells #[.slice gH yH.length capH] 66) = w20 at B_20 K0_20 S_20 SB_20 G_20 GB_20 H_20 HB_20 ⊢
  obtain ⟨pK00, pK0l⟩ := tb1 K0_20.out
  obtain ⟨pSB0, pSBl⟩ := tb1 SB_20.out
  obtain ⟨pGB0, pGBl⟩ := tb1 GB_20.out
  obtain ⟨pHB0, pHBl⟩ := tb1 HB_20.out
  try go_wp2_with fail
  clear pK00 pK0l pSB0 pSBl pGB0 pGBl pHB0 pHBl
  refine (c_eqMod' _ _ _ _ yH yS _ (laysAt_own rfl H_20.out) (laysAt_own rfl S_20.out) (HYH.out.trans HYS.out.symm)).mono ?_
  rintro e w21 ⟨rfl, bl⟩
  have B_21 := Lib.hid (Below.next B_20.out bl)
  clear B_20
  have K0_21 := Lib.hid (K0_20.out.below bl)
  clear K0_20
  have S_21 := Lib.hid (OwnL.kept S_20.out bl)
  clear S_20
  have SB_21 := Lib.hid (SB_20.out.below bl)
  clear SB_20
  have G_21 := Lib.hid (OwnL.kept G_20.out bl)
  clear G_20
  have GB_21 := Lib.hid (GB_20.out.below bl)
  clear GB_20
  have H_21 := Lib.hid (OwnL.kept H_20.out bl)
  clear H_20
  have HB_21 := Lib.hid (HB_20.out.below bl)
  clear HB_20
  clear bl
  obtain ⟨pK00, pK0l⟩ := tb1 K0_21.out
  obtain ⟨pSB0, pSBl⟩ := tb1 SB_21.out
  obtain ⟨pGB0, pGBl⟩ := tb1 GB_21.out
  obtain ⟨pHB0, pHBl⟩ := tb1 HB_21.out
  go_wp2_with fail
  clear pK00 pK0l pSB0 pSBl pGB0 pGBl pHB0 pHBl
  refine (c_heldMod _ _ _ 1 q yG _ rfl (held_mod rfl G_21.out) HQ.out hq' LG.out.2).mono ?_
  rintro e w22 ⟨rfl, bl⟩
  have B_22 := Lib.hid (Below.next B_21.out bl)
  clear B_21
  have K0_22 := Lib.hid (K0_21.out.below bl)
  clear K0_21
  have S_22 := Lib.hid (OwnL.kept S_21.out bl)
  clear S_21
  have SB_22 := Lib.hid (SB_21.out.below bl)
  clear SB_21
  have G_22 := Lib.hid (OwnL.kept G_21.out bl)
  clear G_21
  have GB_22 := Lib.hid (GB_21.out.below bl)
  clear GB_21
  have H_22 := Lib.hid (OwnL.kept H_21.out bl)
  clear H_21
  have HB_22 := Lib.hid (HB_21.out.below bl)
  clear HB_21
  clear bl
  obtain ⟨pK00, pK0l⟩ := tb1 K0_22.out
  obtain ⟨pSB0, pSBl⟩ := tb1 SB_22.out
  obtain ⟨pGB0, pGBl⟩ := tb1 GB_22.out
  obtain ⟨pHB0, pHBl⟩ := tb1 HB_22.out
  go_wp2_with fail
  clear pK00 pK0l pSB0 pSBl pGB0 pGBl pHB0 pHBl
  go_ret
  exact ⟨rfl, B_22.out⟩

theorem walk (v0 : Value) (w : World) (w0 : ∃ x : ModA, v0 = .agg #[.slice x.g x.ls.length x.c] ∧ LaysAt w x.g x.ls.length x.c x.ls) :
    Calls Try.prog 14 #[v0] w fun e w' => e = .returned (.bool true) ∧ Below w.heap.size w w' := by
  obtain ⟨⟨g0, c0, ls0⟩, rfl, w0⟩ := w0
  by_cases hL0 : (ls0.length + laySum (ls0.map LayA.p)) ≤ 1048576
  case neg =>
    have HN := Lib.hid (show 1048576 < ls0.length + laySum (ls0.map LayA.p) by omega)
    have HS := Lib.hid w0
    have bl := Lib.hid ((Below.refl w.heap.size w).alloc (by simp) (.cells #[.slice g0 ls0.length c0] 62))
    clear hL0 w0
    go_enter Try.func14, Try.ntmps14
    go_wp2_with fail
    refine (c_szMod_no _ _ _ 1048576 ls0 _ (HS.out.kept bl.out) (Nat.le_refl _) HN.out).mono ?_
    rintro e w1 ⟨rfl, hb⟩
    have HB := Lib.hid (Below.next bl.out hb)
    clear hb bl
    go_wp2
    go_ret
    exact ⟨rfl, HB.out⟩
  case pos =>
    exact core ls0 g0 c0 w w0 (vRoundModel (ls0.map LayA.p)).1 (vRoundModel (ls0.map LayA.p)).2 hL0 (vRoundModel_len (ls0.map LayA.p)) (fun g c y w hp0 h0 => t_sRoundModel (ls0.map LayA.p) ls0.length g c y w hp0 h0) (fun g c y w hp0 h0 => t_iRoundModel (ls0.map LayA.p) ls0.length g c y w hp0 h0)

/-! the row's step -/
set_option maxRecDepth 100000 in
theorem lifted (os : Os) (started : os.Started) (H : Type) (enc : TypeId × Value → H) :
    ReturnsInHanded {} Try.checked os 14 .any (Rows.fnExactRoundModelSpec.pre6 enc Try.prog Try.f14 Rows.fnExactRoundModelRow.domain false) (Rows.fnExactRoundModelSpec.post enc Try.prog Try.f14 false true false false) := by
  refine returnsInHanded_of_change (C := Try.checked) own started (by kernel_rfl) Try.func14
    (ChangeSpec.witness6 (enc := enc) (C := Try.checked) false ⟨#[], #[.agg #[.slice none 0 0]], []⟩ 8 (by kernel_rfl) (by kernel_rfl) (by kernel_rfl) (by kernel_rfl)) ?_
  intro W base args ds gs before hval0 hW hcnd _
  have hval : ∀ (j : Nat) t v, Try.f14.params[j]? = some t → args[j]? = some v → Value.okWide Try.prog W .any base t v := hval0
  have hW' := hW
  obtain ⟨p, q, hA0, hV, rfl, hfz, hnd⟩ := hW
  have hA : DataW.TrodAll enc Try.prog W 0 (fun _ => true) true Try.f14.params.toList args.toList ds p := hA0
  rw [Try.params14] at hA hval
  obtain ⟨v0, vs0, d0, ds0, p0, q0, hargs, rfl, rfl, h0, rest0⟩ := trodAll_cons hA
  obtain ⟨rfl, rfl, rfl⟩ := trodAll_nil rest0
  obtain rfl : args = #[v0] := by cases args; simp_all
  obtain ⟨rfl, rfl⟩ := trodVars_none hV
  have k0 := h0
  have lt0 : ∀ x ∈ p0, x.block < W.heap.size := by obtain ⟨m, hm⟩ := k0; exact DataW.trod_lt m _ _ _ hm
  have w0 := open_Mod (hval 0 62 v0 rfl rfl) h0
  clear hA0 hval0
  refine (walk _ W w0).mono fun e W' ⟨he, bel⟩ => ?_
  subst he
  exact ⟨_, rfl, _, _, _, [], _, [], hW', trodAll_mk1 (shut_bool Try.underlying4 _), (trodAll_cons_mk (Below.trod laidOut (by kernel_rfl) (of_decide_eq_true (by kernel_rfl)) k0 bel lt0) trodAll_mk0), rfl, bel.frame _, fun h => by cases h⟩

theorem over : Rows.fnExactRoundModelRow.holds Try.pinned (OpenSpec.ofChange Rows.fnExactRoundModelSpec) :=
  OpenClaim.holds_of_wide 14 Try.f14 rfl rfl rfl rfl rfl rfl rfl ⟨rfl, rfl, rfl, rfl, rfl⟩ rfl rfl rfl rfl rfl (by kernel_rfl) Try.func14 (by kernel_rfl)
    (of_decide_eq_true (by kernel_rfl)) (by unfold Func.isWrapper; first | (rw [if_pos (by decide +kernel)]; kernel_rfl) | (rw [if_neg (by decide +kernel)]; exact ⟨rfl, rfl⟩))
    (fun os started H enc _ => lifted os started H enc)

/-- the statement -/
theorem proved : Rows.FnExactRoundModelSaid := over
end Go.Proofs.Ytaklcmibpnpffaa.fnExactRoundModel
