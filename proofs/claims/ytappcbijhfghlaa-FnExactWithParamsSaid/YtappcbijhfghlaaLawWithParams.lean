/-
  WithParams answers as its model says, for all arguments, changes none of them, and its answer owns its memory. Conditions: none.
-/
import Derived.Test.YtappcbijhfghlaaTWithP
import Derived.ChangeOld
import Derived.Below
namespace Go.Proofs.Ytappcbijhfghlaa.fnExactWithParams
open Go.ChangeShapes Go.WideShapes Go.ChangeAt Go.RowKit
open Go.ChangeMaps (open_string shut_string)
set_option linter.unusedVariables false

set_option maxHeartbeats 4000000 in
set_option maxRecDepth 100000 in
/-- for any contracts of the model and of the program that say the same -/
theorem core (ls0 : List LayA) (z1 : List Nat) (g0 : Option Addr) (c0 : Nat) (a1 : Option Addr) (c1 : Nat) (w : World) (w0' : LaysAt w g0 ls0.length c0 ls0) (w1' : IsFloats .f32 w a1 z1.length c1 z1) (b : Bool) (zs : List LayP) (hL0 : (ls0.length + laySum (ls0.map LayA.p)) ≤ 1048576) (hL1 : z1.length ≤ 1048576) (hz : 3 * zs.length + laySum zs ≤ 1048576)
    (CS' : ∀ (g0 : Option Addr) (c0 : Nat) (y0 : List LayA) (a1 : Option Addr) (c1 : Nat) (w : World), (y0.map LayA.p = ls0.map LayA.p) → (LaysAt w g0 ls0.length c0 y0) → (IsFloats .f32 w a1 z1.length c1 z1) → Calls Try.prog 51 #[.agg #[.slice g0 ls0.length c0], .slice a1 z1.length c1] w (RetM b zs w))
    (CI' : ∀ (g0 : Option Addr) (c0 : Nat) (y0 : List LayA) (a1 : Option Addr) (c1 : Nat) (w : World), (y0.map LayA.p = ls0.map LayA.p) → (LaysAt w g0 ls0.length c0 y0) → (IsFloats .f32 w a1 z1.length c1 z1) → Calls Try.prog 52 #[.agg #[.slice g0 ls0.length c0], .slice a1 z1.length c1] w (RetM b zs w)) :
    Calls Try.prog 10 #[.agg #[.slice g0 ls0.length c0], .slice a1 z1.length c1] w fun e w' => e = .returned (.bool true) ∧ Below w.heap.size w w' := by
  have HS0 := Lib.hid w0'
  have HZ0 := Lib.hid (show ls0.length + laySum (ls0.map LayA.p) ≤ 1048576 by omega)
  have HS1 := Lib.hid w1'
  have HZ1 := Lib.hid (show z1.length ≤ 1048576 by omega)
  have CS := Lib.hid CS'
  have CI := Lib.hid CI'
  have hs1 : z1.length ≤ 1048576 := by omega
  obtain ⟨l0, hl0⟩ : ∃ l, 1048576 - (ls0.length + laySum (ls0.map LayA.p)) = l := ⟨_, rfl⟩
  have hl0' : l0 ≤ 1048576 := by omega
  have HQ0 := Lib.hid (show ls0.length + laySum (ls0.map LayA.p) ≤ 1048576 by omega)
  have HE0 := Lib.hid hl0
  have hp0 : (0 : Int) ≤ (l0 : Int) := by omega
  obtain ⟨m0, hm0⟩ : ∃ m, 1 + (3 * ls0.length + laySum (ls0.map LayA.p)) = m := ⟨_, rfl⟩
  obtain ⟨m1, hm1⟩ : ∃ m, m0 + (z1.length) = m := ⟨_, rfl⟩
  have hm0' : m0 ≤ 4194304 := by omega
  have hn0' : (0 : Int) ≤ (m0 : Int) := by omega
  have HM0 := Lib.hid hm0
  have hm1' : m1 ≤ 8388608 := by omega
  have hn1' : (0 : Int) ≤ (m1 : Int) := by omega
  have HM1 := Lib.hid hm1
  clear hm1 hm0
  clear w0' w1' CS' CI' hl0 hL0 hL1
  go_enter Try.func10, Try.ntmps10
  go_wp2_with fail
  have B_0 := Lib.hid (Below.refl w.heap.size w)
  have bl := (Below.refl (w).heap.size (w)).alloc (Nat.le_refl _) (.cells #[.slice g0 ls0.length c0] 53)
  have K0_1 := Lib.hid (Blk.new (w) 53 #[.slice g0 ls0.length c0])
  have B_1 := Lib.hid (Below.next B_0.out bl)
  clear B_0
  clear bl
  generalize (w).alloc (.cells #[.slice g0 ls0.length c0] 53) = w1 at B_1 K0_1 ⊢
  refine (c_szMod _ _ _ _ _ ls0 _ (HS0.out.kept B_1.out) (Nat.le_refl _) HQ0.out HE0.out).mono ?_
  rintro e w2 ⟨rfl, bl⟩
  have B_2 := Lib.hid (Below.next B_1.out bl)
  clear B_1
  have K0_2 := Lib.hid (K0_1.out.below bl)
  clear K0_1
  clear bl
  obtain ⟨pK00, pK0l⟩ := tb1 K0_2.out
  go_wp2_with fail
  clear pK00 pK0l
  refine (c_toMod _ _ _ ls0 _ (HS0.out.kept B_2.out) HZ0.out).mono ?_
  rintro e w3 ⟨gT0, yT0, rfl, hl, hp, ho, hnd, bl⟩
  have HPT0 := Lib.hid hp
  have HLT0 := Lib.hid hl
  have T0_3 := Lib.hid (OwnL.base B_2.out.size _ ho)
  have B_3 := Lib.hid (Below.next B_2.out bl)
  clear B_2
  have K0_3 := Lib.hid (K0_2.out.below bl)
  clear K0_2
  clear hl hp ho hnd
  clear bl
  obtain ⟨pK00, pK0l⟩ := tb1 K0_3.out
  go_wp2_with fail
  clear pK00 pK0l
  refine (c_toFloats _ _ _ z1 _ (HS1.out.kept B_3.out) HZ1.out).mono ?_
  rintro e w4 ⟨aT1, rfl, hf, bl⟩
  have ho := flL_own.2 hf
  have T1_4 := Lib.hid (OwnL.base B_3.out.size _ ho)
  have B_4 := Lib.hid (Below.next B_3.out bl)
  clear B_3
  have K0_4 := Lib.hid (K0_3.out.below bl)
  clear K0_3
  have T0_4 := Lib.hid (OwnL.kept T0_3.out bl)
  clear T0_3
  clear hf ho
  clear bl
  obtain ⟨pK00, pK0l⟩ := tb1 K0_4.out
  go_wp2_with fail
  clear pK00 pK0l
  refine (CS.out _ _ yT0 _ _ _ HPT0.out (laysAt_own HLT0.out T0_4.out) (flL_at.1 (OwnL.at _ T1_4.out))).mono ?_
  rintro e w5 ⟨gS, capS, yS, rfl, ho, hnd, hy, bl⟩
  have HYS := Lib.hid hy
  have S_5 := Lib.hid (OwnL.base B_4.out.size _ ho)
  have B_5 := Lib.hid (Below.next B_4.out bl)
  clear B_4
  have K0_5 := Lib.hid (K0_4.out.below bl)
  clear K0_4
  have T0_5 := Lib.hid (OwnL.kept T0_4.out bl)
  clear T0_4
  have T1_5 := Lib.hid (OwnL.kept T1_4.out bl)
  clear T1_4
  clear ho hnd hy
  clear bl
  clear T0_5
  clear T1_5
  obtain ⟨pK00, pK0l⟩ := tb1 K0_5.out
  go_wp2_with fail
  clear pK00 pK0l
  have bl := (Below.refl w5.heap.size w5).alloc (Nat.le_refl _) (.cells #[.slice gS yS.length capS] 58)
  have SB_6 := Lib.hid (Blk.new w5 58 #[.slice gS yS.length capS])
  have B_6 := Lib.hid (Below.next B_5.out bl)
  clear B_5
  have K0_6 := Lib.hid (K0_5.out.below bl)
  clear K0_5
  have S_6 := Lib.hid (OwnL.kept S_5.out bl)
  clear S_5
  clear bl
  generalize w5.alloc (.cells #[.slice gS yS.length capS] 58) = w6 at B_6 K0_6 S_6 SB_6 ⊢
  obtain ⟨pK00, pK0l⟩ := tb1 K0_6.out
  obtain ⟨pSB0, pSBl⟩ := tb1 SB_6.out
  try go_wp2_with fail
  clear pK00 pK0l pSB0 pSBl
  obtain ⟨pK00, pK0l⟩ := tb1 K0_6.out
  obtain ⟨pSB0, pSBl⟩ := tb1 SB_6.out
  go_wp2_with fail
  clear pK00 pK0l pSB0 pSBl
  refine (c_toMod _ _ _ ls0 _ (HS0.out.kept B_6.out) HZ0.out).mono ?_
  rintro e w7 ⟨gX0, yX0, rfl, hl, hp, ho, hnd, bl⟩
  have HPX0 := Lib.hid hp
  have HLX0 := Lib.hid hl
  have D_X0_K0 := Lib.hid (apart_box K0_6.out ho)
  have D_X0_S := Lib.hid (apart_new S_6.out ho)
  have D_X0_SB := Lib.hid (apart_box SB_6.out ho)
  have NDX0 := Lib.hid hnd
  have X0_7 := Lib.hid (OwnL.base B_6.out.size _ ho)
  have B_7 := Lib.hid (Below.next B_6.out bl)
  clear B_6
  have K0_7 := Lib.hid (K0_6.out.below bl)
  clear K0_6
  have S_7 := Lib.hid (OwnL.kept S_6.out bl)
  clear S_6
  have SB_7 := Lib.hid (SB_6.out.below bl)
  clear SB_6
  clear hl hp ho hnd
  clear bl
  obtain ⟨pK00, pK0l⟩ := tb1 K0_7.out
  obtain ⟨pSB0, pSBl⟩ := tb1 SB_7.out
  go_wp2_with fail
  clear pK00 pK0l pSB0 pSBl
  have D_X0_XB0 := Lib.hid (apart_next X0_7.out)
  have bl := (Below.refl w7.heap.size w7).alloc (Nat.le_refl _) (.cells #[.slice (some ⟨gX0, 0, none⟩) ls0.length ls0.length] 58)
  have XB0_8 := Lib.hid (Blk.new w7 58 #[.slice (some ⟨gX0, 0, none⟩) ls0.length ls0.length])
  have B_8 := Lib.hid (Below.next B_7.out bl)
  clear B_7
  have K0_8 := Lib.hid (K0_7.out.below bl)
  clear K0_7
  have S_8 := Lib.hid (OwnL.kept S_7.out bl)
  clear S_7
  have SB_8 := Lib.hid (SB_7.out.below bl)
  clear SB_7
  have X0_8 := Lib.hid (OwnL.kept X0_7.out bl)
  clear X0_7
  clear bl
  generalize w7.alloc (.cells #[.slice (some ⟨gX0, 0, none⟩) ls0.length ls0.length] 58) = w8 at B_8 K0_8 S_8 SB_8 X0_8 XB0_8 ⊢
  obtain ⟨pK00, pK0l⟩ := tb1 K0_8.out
  obtain ⟨pSB0, pSBl⟩ := tb1 SB_8.out
  obtain ⟨pXB00, pXB0l⟩ := tb1 XB0_8.out
  try go_wp2_with fail
  clear pK00 pK0l pSB0 pSBl pXB00 pXB0l
  obtain ⟨pK00, pK0l⟩ := tb1 K0_8.out
  obtain ⟨pSB0, pSBl⟩ := tb1 SB_8.out
  obtain ⟨pXB00, pXB0l⟩ := tb1 XB0_8.out
  go_wp2_with fail
  clear pK00 pK0l pSB0 pSBl pXB00 pXB0l
  refine (c_toFloats _ _ _ z1 _ (HS1.out.kept B_8.out) HZ1.out).mono ?_
  rintro e w9 ⟨aX1, rfl, hf, bl⟩
  have ho := flL_own.2 hf
  have D_X1_K0 := Lib.hid (apart_box K0_8.out ho)
  have D_X1_S := Lib.hid (apart_new S_8.out ho)
  have D_X1_SB := Lib.hid (apart_box SB_8.out ho)
  have D_X0_X1 := Lib.hid (apart_symm (apart_new X0_8.out ho))
  have D_X1_X0 := Lib.hid (apart_new X0_8.out ho)
  have D_X1_XB0 := Lib.hid (apart_box XB0_8.out ho)
  have X1_9 := Lib.hid (OwnL.base B_8.out.size _ ho)
  have B_9 := Lib.hid (Below.next B_8.out bl)
  clear B_8
  have K0_9 := Lib.hid (K0_8.out.below bl)
  clear K0_8
  have S_9 := Lib.hid (OwnL.kept S_8.out bl)
  clear S_8
  have SB_9 := Lib.hid (SB_8.out.below bl)
  clear SB_8
  have X0_9 := Lib.hid (OwnL.kept X0_8.out bl)
  clear X0_8
  have XB0_9 := Lib.hid (XB0_8.out.below bl)
  clear XB0_8
  clear hf ho
  clear bl
  obtain ⟨pK00, pK0l⟩ := tb1 K0_9.out
  obtain ⟨pSB0, pSBl⟩ := tb1 SB_9.out
  obtain ⟨pXB00, pXB0l⟩ := tb1 XB0_9.out
  go_wp2_with fail
  clear pK00 pK0l pSB0 pSBl pXB00 pXB0l
  refine (CI.out _ _ yX0 _ _ _ HPX0.out (laysAt_own HLX0.out X0_9.out) (flL_at.1 (OwnL.at _ X1_9.out))).mono ?_
  rintro e w10 ⟨gG, capG, yG, rfl, ho, hnd, hy, bl⟩
  have HYG := Lib.hid hy
  have D_G_K0 := Lib.hid (apart_box K0_9.out ho)
  have D_G_S := Lib.hid (apart_new S_9.out ho)
  have D_G_SB := Lib.hid (apart_box SB_9.out ho)
  have D_X0_G := Lib.hid (apart_symm (apart_new X0_9.out ho))
  have D_G_X0 := Lib.hid (apart_new X0_9.out ho)
  have D_G_XB0 := Lib.hid (apart_box XB0_9.out ho)
  have D_X1_G := Lib.hid (apart_symm (apart_new X1_9.out ho))
  have D_G_X1 := Lib.hid (apart_new X1_9.out ho)
  have NDG := Lib.hid hnd
  have LG := Lib.hid (retM_bound hy hz)
  have G_10 := Lib.hid (OwnL.base B_9.out.size _ ho)
  have B_10 := Lib.hid (Below.next B_9.out bl)
  clear B_9
  have K0_10 := Lib.hid (K0_9.out.below bl)
  clear K0_9
  have S_10 := Lib.hid (OwnL.kept S_9.out bl)
  clear S_9
  have SB_10 := Lib.hid (SB_9.out.below bl)
  clear SB_9
  have X0_10 := Lib.hid (OwnL.kept X0_9.out bl)
  clear X0_9
  have XB0_10 := Lib.hid (XB0_9.out.below bl)
  clear XB0_9
  have X1_10 := Lib.hid (OwnL.kept X1_9.out bl)
  clear X1_9
  clear ho hnd hy
  clear bl
  obtain ⟨pK00, pK0l⟩ := tb1 K0_10.out
  obtain ⟨pSB0, pSBl⟩ := tb1 SB_10.out
  obtain ⟨pXB00, pXB0l⟩ := tb1 XB0_10.out
  go_wp2_with fail
  clear pK00 pK0l pSB0 pSBl pXB00 pXB0l
  have D_X0_GB := Lib.hid (apart_next X0_10.out)
  have D_X1_GB := Lib.hid (apart_next X1_10.out)
  have D_G_GB := Lib.hid (apart_next G_10.out)
  have bl := (Below.refl w10.heap.size w10).alloc (Nat.le_refl _) (.cells #[.slice gG yG.length capG] 58)
  have GB_11 := Lib.hid (Blk.new w10 58 #[.slice gG yG.length capG])
  have B_11 := Lib.hid (Below.next B_10.out bl)
  clear B_10
  have K0_11 := Lib.hid (K0_10.out.below bl)
  clear K0_10
  have S_11 := Lib.hid (OwnL.kept S_10.out bl)
  clear S_10
  have SB_11 := Lib.hid (SB_10.out.below bl)
  clear SB_10
  have X0_11 := Lib.hid (OwnL.kept X0_10.out bl)
  clear X0_10
  have XB0_11 := Lib.hid (XB0_10.out.below bl)
  clear XB0_10
  have X1_11 := Lib.hid (OwnL.kept X1_10.out bl)
  clear X1_10
  have G_11 := Lib.hid (OwnL.kept G_10.out bl)
  clear G_10
  clear bl
  generalize w10.alloc (.cells #[.slice gG yG.length capG] 58) = w11 at B_11 K0_11 S_11 SB_11 X0_11 XB0_11 X1_11 G_11 GB_11 ⊢
  obtain ⟨pK00, pK0l⟩ := tb1 K0_11.out
  obtain ⟨pSB0, pSBl⟩ := tb1 SB_11.out
  obtain ⟨pXB00, pXB0l⟩ := tb1 XB0_11.out
  obtain ⟨pGB0, pGBl⟩ := tb1 GB_11.out
  try go_wp2_with fail
  clear pK00 pK0l pSB0 pSBl pXB00 pXB0l pGB0 pGBl
  refine (c_eqMod' _ _ _ _ yG yS _ (laysAt_own rfl G_11.out) (laysAt_own rfl S_11.out) (HYG.out.trans HYS.out.symm)).mono ?_
  rintro e w12 ⟨rfl, bl⟩
  have B_12 := Lib.hid (Below.next B_11.out bl)
  clear B_11
  have K0_12 := Lib.hid (K0_11.out.below bl)
  clear K0_11
  have S_12 := Lib.hid (OwnL.kept S_11.out bl)
  clear S_11
  have SB_12 := Lib.hid (SB_11.out.below bl)
  clear SB_11
  have X0_12 := Lib.hid (OwnL.kept X0_11.out bl)
  clear X0_11
  have XB0_12 := Lib.hid (XB0_11.out.below bl)
  clear XB0_11
  have X1_12 := Lib.hid (OwnL.kept X1_11.out bl)
  clear X1_11
  have G_12 := Lib.hid (OwnL.kept G_11.out bl)
  clear G_11
  have GB_12 := Lib.hid (GB_11.out.below bl)
  clear GB_11
  clear bl
  obtain ⟨pK00, pK0l⟩ := tb1 K0_12.out
  obtain ⟨pSB0, pSBl⟩ := tb1 SB_12.out
  obtain ⟨pXB00, pXB0l⟩ := tb1 XB0_12.out
  obtain ⟨pGB0, pGBl⟩ := tb1 GB_12.out
  go_wp2_with fail
  clear pK00 pK0l pSB0 pSBl pXB00 pXB0l pGB0 pGBl
  have bl : Below w12.heap.size w12 w12.drew := (Below.refl _ _).drew
  have B_13 := Lib.hid (Below.next B_12.out bl)
  clear B_12
  have K0_13 := Lib.hid (K0_12.out.below bl)
  clear K0_12
  have S_13 := Lib.hid (OwnL.kept S_12.out bl)
  clear S_12
  have SB_13 := Lib.hid (SB_12.out.below bl)
  clear SB_12
  have X0_13 := Lib.hid (OwnL.kept X0_12.out bl)
  clear X0_12
  have XB0_13 := Lib.hid (XB0_12.out.below bl)
  clear XB0_12
  have X1_13 := Lib.hid (OwnL.kept X1_12.out bl)
  clear X1_12
  have G_13 := Lib.hid (OwnL.kept G_12.out bl)
  clear G_12
  have GB_13 := Lib.hid (GB_12.out.below bl)
  clear GB_12
  clear bl
  obtain ⟨pK00, pK0l⟩ := tb1 K0_13.out
  obtain ⟨pSB0, pSBl⟩ := tb1 SB_13.out
  obtain ⟨pXB00, pXB0l⟩ := tb1 XB0_13.out
  obtain ⟨pGB0, pGBl⟩ := tb1 GB_13.out
  go_region_held3 (fun w' => w'.cell? ⟨w.heap.size, 0, none⟩ = some (.slice g0 ls0.length c0) ∧ w'.cell? ⟨w5.heap.size, 0, none⟩ = some (.slice gS yS.length capS) ∧ w'.cell? ⟨w7.heap.size, 0, none⟩ = some (.slice (some ⟨gX0, 0, none⟩) ls0.length ls0.length) ∧ w'.cell? ⟨w10.heap.size, 0, none⟩ = some (.slice gG yG.length capG)) (go_keep)
    (first
      | (go_at_call 38
         clear pK00 pK0l pSB0 pSBl pXB00 pXB0l pGB0 pGBl
         refine (c_toMod _ _ _ ls0 _ (HS0.out.kept B_13.out) HZ0.out).mono ?_
         rintro e w14 ⟨gY0, yY0, rfl, hl, hp, ho, hnd, bl⟩
         have HPY0 := Lib.hid hp
         have HLY0 := Lib.hid hl
         have Y0_14 := Lib.hid (OwnL.base B_13.out.size _ ho)
         have B_14 := Lib.hid (Below.next B_13.out bl)
         clear B_13
         have K0_14 := Lib.hid (K0_13.out.below bl)
         clear K0_13
         have S_14 := Lib.hid (OwnL.kept S_13.out bl)
         clear S_13
         have SB_14 := Lib.hid (SB_13.out.below bl)
         clear SB_13
         have X0_14 := Lib.hid (OwnL.kept X0_13.out bl)
         clear X0_13
         have XB0_14 := Lib.hid (XB0_13.out.below bl)
         clear XB0_13
         have X1_14 := Lib.hid (OwnL.kept X1_13.out bl)
         clear X1_13
         have G_14 := Lib.hid (OwnL.kept G_13.out bl)
         clear G_13
         have GB_14 := Lib.hid (GB_13.out.below bl)
         clear GB_13
         clear hl hp ho hnd
         clear bl
         obtain ⟨pK00, pK0l⟩ := tb1 K0_14.out
         obtain ⟨pSB0, pSBl⟩ := tb1 SB_14.out
         obtain ⟨pXB00, pXB0l⟩ := tb1 XB0_14.out
         obtain ⟨pGB0, pGBl⟩ := tb1 GB_14.out)
      | (go_at_call 40
         clear pK00 pK0l pSB0 pSBl pXB00 pXB0l pGB0 pGBl
         refine (c_eqMod _ _ _ _ _ yX0 yY0 _ (laysAt_own HLX0.out X0_14.out) (laysAt_own HLY0.out Y0_14.out) (can_of (HPX0.out.trans HPY0.out.symm))).mono ?_
         rintro e w15 ⟨rfl, bl⟩
         have B_15 := Lib.hid (Below.next B_14.out bl)
         clear B_14
         have K0_15 := Lib.hid (K0_14.out.below bl)
         clear K0_14
         have S_15 := Lib.hid (OwnL.kept S_14.out bl)
         clear S_14
         have SB_15 := Lib.hid (SB_14.out.below bl)
         clear SB_14
         have X0_15 := Lib.hid (OwnL.kept X0_14.out bl)
         clear X0_14
         have XB0_15 := Lib.hid (XB0_14.out.below bl)
         clear XB0_14
         have X1_15 := Lib.hid (OwnL.kept X1_14.out bl)
         clear X1_14
         have G_15 := Lib.hid (OwnL.kept G_14.out bl)
         clear G_14
         have GB_15 := Lib.hid (GB_14.out.below bl)
         clear GB_14
         have Y0_15 := Lib.hid (OwnL.kept Y0_14.out bl)
         clear Y0_14
         clear bl
         obtain ⟨pK00, pK0l⟩ := tb1 K0_15.out
         obtain ⟨pSB0, pSBl⟩ := tb1 SB_15.out
         obtain ⟨pXB00, pXB0l⟩ := tb1 XB0_15.out
         obtain ⟨pGB0, pGBl⟩ := tb1 GB_15.out))
  clear pK00 pK0l pSB0 pSBl pXB00 pXB0l pGB0 pGBl
  clear Y0_15
  obtain ⟨pK00, pK0l⟩ := tb1 K0_15.out
  obtain ⟨pSB0, pSBl⟩ := tb1 SB_15.out
  obtain ⟨pXB00, pXB0l⟩ := tb1 XB0_15.out
  obtain ⟨pGB0, pGBl⟩ := tb1 GB_15.out
  go_wp2_with fail
  clear pK00 pK0l pSB0 pSBl pXB00 pXB0l pGB0 pGBl
  refine (c_toFloats _ _ _ z1 _ (HS1.out.kept B_15.out) HZ1.out).mono ?_
  rintro e w16 ⟨aY1, rfl, hf, bl⟩
  have ho := flL_own.2 hf
  have Y1_16 := Lib.hid (OwnL.base B_15.out.size _ ho)
  have B_16 := Lib.hid (Below.next B_15.out bl)
  clear B_15
  have K0_16 := Lib.hid (K0_15.out.below bl)
  clear K0_15
  have S_16 := Lib.hid (OwnL.kept S_15.out bl)
  clear S_15
  have SB_16 := Lib.hid (SB_15.out.below bl)
  clear SB_15
  have X0_16 := Lib.hid (OwnL.kept X0_15.out bl)
  clear X0_15
  have XB0_16 := Lib.hid (XB0_15.out.below bl)
  clear XB0_15
  have X1_16 := Lib.hid (OwnL.kept X1_15.out bl)
  clear X1_15
  have G_16 := Lib.hid (OwnL.kept G_15.out bl)
  clear G_15
  have GB_16 := Lib.hid (GB_15.out.below bl)
  clear GB_15
  clear hf ho
  clear bl
  obtain ⟨pK00, pK0l⟩ := tb1 K0_16.out
  obtain ⟨pSB0, pSBl⟩ := tb1 SB_16.out
  obtain ⟨pXB00, pXB0l⟩ := tb1 XB0_16.out
  obtain ⟨pGB0, pGBl⟩ := tb1 GB_16.out
  go_wp2_with fail
  clear pK00 pK0l pSB0 pSBl pXB00 pXB0l pGB0 pGBl
  refine (c_eqFloats _ _ _ _ z1 z1 _ (flL_at.1 (OwnL.at _ X1_16.out)) (flL_at.1 (OwnL.at _ Y1_16.out)) rfl).mono ?_
  rintro e w17 ⟨rfl, dn⟩
  have bl : Below w16.heap.size w16 w17 := by first | exact dn.below | exact (below_drewN (Below.refl _ _) _).trans dn.below
  clear dn
  have B_17 := Lib.hid (Below.next B_16.out bl)
  clear B_16
  have K0_17 := Lib.hid (K0_16.out.below bl)
  clear K0_16
  have S_17 := Lib.hid (OwnL.kept S_16.out bl)
  clear S_16
  have SB_17 := Lib.hid (SB_16.out.below bl)
  clear SB_16
  have X0_17 := Lib.hid (OwnL.kept X0_16.out bl)
  clear X0_16
  have XB0_17 := Lib.hid (XB0_16.out.below bl)
  clear XB0_16
  have X1_17 := Lib.hid (OwnL.kept X1_16.out bl)
  clear X1_16
  have G_17 := Lib.hid (OwnL.kept G_16.out bl)
  clear G_16
  have GB_17 := Lib.hid (GB_16.out.below bl)
  clear GB_16
  have Y1_17 := Lib.hid (OwnL.kept Y1_16.out bl)
  clear Y1_16
  clear bl
  clear Y1_17
  obtain ⟨pK00, pK0l⟩ := tb1 K0_17.out
  obtain ⟨pSB0, pSBl⟩ := tb1 SB_17.out
  obtain ⟨pXB00, pXB0l⟩ := tb1 XB0_17.out
  obtain ⟨pGB0, pGBl⟩ := tb1 GB_17.out
  go_wp2_with fail
  clear pK00 pK0l pSB0 pSBl pXB00 pXB0l pGB0 pGBl
  refine (c_markMod _ _ _ 1 m0 _ yX0 _ HLX0.out X0_17.out NDX0.out (by rw [cnt_copy HLX0.out HPX0.out]; exact HM0.out) hm0' (by rw [HPX0.out]; have := HZ0.out; omega)).mono ?_
  rintro e w18 ⟨rfl, ho, hg⟩
  have B_18 := Lib.hid (hg.below' B_17.out (fun g h => (OwnL.lt _ X0_17.out g h).1))
  have K0_18 := Lib.hid (K0_17.out.inn hg D_X0_K0.out)
  have S_18 := Lib.hid (OwnL.apart hg _ S_17.out D_X0_S.out)
  have SB_18 := Lib.hid (SB_17.out.inn hg D_X0_SB.out)
  have XB0_18 := Lib.hid (XB0_17.out.inn hg D_X0_XB0.out)
  have X1_18 := Lib.hid (OwnL.apart hg _ X1_17.out D_X0_X1.out)
  have G_18 := Lib.hid (OwnL.apart hg _ G_17.out D_X0_G.out)
  have GB_18 := Lib.hid (GB_17.out.inn hg D_X0_GB.out)
  clear B_17
  clear K0_17
  clear S_17
  clear SB_17
  clear X0_17
  clear XB0_17
  clear X1_17
  clear G_17
  clear GB_17
  clear ho hg
  obtain ⟨pK00, pK0l⟩ := tb1 K0_18.out
  obtain ⟨pSB0, pSBl⟩ := tb1 SB_18.out
  obtain ⟨pXB00, pXB0l⟩ := tb1 XB0_18.out
  obtain ⟨pGB0, pGBl⟩ := tb1 GB_18.out
  go_wp2_with fail
  clear pK00 pK0l pSB0 pSBl pXB00 pXB0l pGB0 pGBl
  refine (c_markFl _ _ _ m0 m1 z1 _ X1_18.out HM1.out hm0' HZ1.out).mono ?_
  rintro e w19 ⟨rfl, ho, hg⟩
  have B_19 := Lib.hid (hg.below' B_18.out (fun g h => (OwnL.lt _ X1_18.out g h).1))
  have K0_19 := Lib.hid (K0_18.out.inn hg D_X1_K0.out)
  have S_19 := Lib.hid (OwnL.apart hg _ S_18.out D_X1_S.out)
  have SB_19 := Lib.hid (SB_18.out.inn hg D_X1_SB.out)
  have XB0_19 := Lib.hid (XB0_18.out.inn hg D_X1_XB0.out)
  have G_19 := Lib.hid (OwnL.apart hg _ G_18.out D_X1_G.out)
  have GB_19 := Lib.hid (GB_18.out.inn hg D_X1_GB.out)
  clear B_18
  clear K0_18
  clear S_18
  clear SB_18
  clear XB0_18
  clear X1_18
  clear G_18
  clear GB_18
  clear ho hg
  clear XB0_19
  obtain ⟨pK00, pK0l⟩ := tb1 K0_19.out
  obtain ⟨pSB0, pSBl⟩ := tb1 SB_19.out
  obtain ⟨pGB0, pGBl⟩ := tb1 GB_19.out
  go_wp2_with fail
  clear pK00 pK0l pSB0 pSBl pGB0 pGBl
  refine (c_eqMod' _ _ _ _ yG yS _ (laysAt_own rfl G_19.out) (laysAt_own rfl S_19.out) (HYG.out.trans HYS.out.symm)).mono ?_
  rintro e w20 ⟨rfl, bl⟩
  have B_20 := Lib.hid (Below.next B_19.out bl)
  clear B_19
  have K0_20 := Lib.hid (K0_19.out.below bl)
  clear K0_19
  have S_20 := Lib.hid (OwnL.kept S_19.out bl)
  clear S_19
  have SB_20 := Lib.hid (SB_19.out.below bl)
  clear SB_19
  have G_20 := Lib.hid (OwnL.kept G_19.out bl)
  clear G_19
  have GB_20 := Lib.hid (GB_19.out.below bl)
  clear GB_19
  clear bl
  obtain ⟨pK00, pK0l⟩ := tb1 K0_20.out
  obtain ⟨pSB0, pSBl⟩ := tb1 SB_20.out
  obtain ⟨pGB0, pGBl⟩ := tb1 GB_20.out
  go_wp2_with fail
  clear pK00 pK0l pSB0 pSBl pGB0 pGBl
  obtain ⟨q, hq⟩ : ∃ q, 1 + cntLays yG = q := ⟨_, rfl⟩
  have HQ := Lib.hid hq
  have hq' : q ≤ 4194304 := by have := LG.out; omega
  have hq0 : (0 : Int) ≤ (q : Int) := by omega
  clear hq
  refine (c_markMod _ _ _ 1 q _ yG _ rfl G_20.out NDG.out HQ.out hq' LG.out.2).mono ?_
  rintro e w21 ⟨rfl, ho, hg⟩
  have B_21 := Lib.hid (hg.below' B_20.out (fun g h => (OwnL.lt _ G_20.out g h).1))
  have K0_21 := Lib.hid (K0_20.out.inn hg D_G_K0.out)
  have S_21 := Lib.hid (OwnL.apart hg _ S_20.out D_G_S.out)
  have SB_21 := Lib.hid (SB_20.out.inn hg D_G_SB.out)
  have G_21 := Lib.hid (ho)
  have GB_21 := Lib.hid (GB_20.out.inn hg D_G_GB.out)
  clear B_20
  clear K0_20
  clear S_20
  clear SB_20
  clear G_20
  clear GB_20
  clear ho hg
  obtain ⟨pK00, pK0l⟩ := tb1 K0_21.out
  obtain ⟨pSB0, pSBl⟩ := tb1 SB_21.out
  obtain ⟨pGB0, pGBl⟩ := tb1 GB_21.out
  go_wp2_with fail
  clear pK00 pK0l pSB0 pSBl pGB0 pGBl
  refine (c_heldMod _ _ _ 1 q yG _ rfl (held_mod rfl G_21.out) HQ.out hq' LG.out.2).mono ?_
  rintro e w22 ⟨rfl, bl⟩
  have B_22 := Lib.hid (Below.next B_21.out bl)
  clear B_21
  have K0_22 := Lib.hid (K0_21.out.below bl)
  clear K0_21
  have S_22 := Lib.hid (OwnL.kept S_21.out bl)
  clear S_21
  have SB_22 := Lib.hid (SB_21.out.below bl)
  clear SB_21
  have G_22 := Lib.hid (OwnL.kept G_21.out bl)
  clear G_21
  have GB_22 := Lib.hid (GB_21.out.below bl)
  clear GB_21
  clear bl
  obtain ⟨pK00, pK0l⟩ := tb1 K0_22.out
  obtain ⟨pSB0, pSBl⟩ := tb1 SB_22.out
  obtain ⟨pGB0, pGBl⟩ := tb1 GB_22.out
  go_wp2_with fail
  clear pK00 pK0l pSB0 pSBl pGB0 pGBl
  refine (c_toMod _ _ _ ls0 _ (HS0.out.kept B_22.out) HZ0.out).mono ?_
  rintro e w23 ⟨gU0, yU0, rfl, hl, hp, ho, hnd, bl⟩
  have HPU0 := Lib.hid hp
  have HLU0 := Lib.hid hl
  have U0_23 := Lib.hid (OwnL.base B_22.out.size _ ho)
  have B_23 := Lib.hid (Below.next B_22.out bl)
  clear B_22
  have K0_23 := Lib.hid (K0_22.out.below bl)
  clear K0_22
  have S_23 := Lib.hid (OwnL.kept S_22.out bl)
  clear S_22
  have SB_23 := Lib.hid (SB_22.out.below bl)
  clear SB_22
  have G_23 := Lib.hid (OwnL.kept G_22.out bl)
  clear G_22
  have GB_23 := Lib.hid (GB_22.out.below bl)
  clear GB_22
  clear hl hp ho hnd
  clear bl
  obtain ⟨pK00, pK0l⟩ := tb1 K0_23.out
  obtain ⟨pSB0, pSBl⟩ := tb1 SB_23.out
  obtain ⟨pGB0, pGBl⟩ := tb1 GB_23.out
  go_wp2_with fail
  clear pK00 pK0l pSB0 pSBl pGB0 pGBl
  refine (c_toFloats _ _ _ z1 _ (HS1.out.kept B_23.out) HZ1.out).mono ?_
  rintro e w24 ⟨aU1, rfl, hf, bl⟩
  have ho := flL_own.2 hf
  have U1_24 := Lib.hid (OwnL.base B_23.out.size _ ho)
  have B_24 := Lib.hid (Below.next B_23.out bl)
  clear B_23
  have K0_24 := Lib.hid (K0_23.out.below bl)
  clear K0_23
  have S_24 := Lib.hid (OwnL.kept S_23.out bl)
  clear S_23
  have SB_24 := Lib.hid (SB_23.out.below bl)
  clear SB_23
  have G_24 := Lib.hid (OwnL.kept G_23.out bl)
  clear G_23
  have GB_24 := Lib.hid (GB_23.out.below bl)
  clear GB_23
  have U0_24 := Lib.hid (OwnL.kept U0_23.out bl)
  clear U0_23
  clear hf ho
  clear bl
  obtain ⟨pK00, pK0l⟩ := tb1 K0_24.out
  obtain ⟨pSB0, pSBl⟩ := tb1 SB_24.out
  obtain ⟨pGB0, pGBl⟩ := tb1 GB_24.out
  go_wp2_with fail
  clear pK00 pK0l pSB0 pSBl pGB0 pGBl
  refine (CI.out _ _ yU0 _ _ _ HPU0.out (laysAt_own HLU0.out U0_24.out) (flL_at.1 (OwnL.at _ U1_24.out))).mono ?_
  rintro e w25 ⟨gH, capH, yH, rfl, ho, hnd, hy, bl⟩
  have HYH := Lib.hid hy
  have H_25 := Lib.hid (OwnL.base B_24.out.size _ ho)
  have B_25 := Lib.hid (Below.next B_24.out bl)
  clear B_24
  have K0_25 := Lib.hid (K0_24.out.below bl)
  clear K0_24
  have S_25 := Lib.hid (OwnL.kept S_24.out bl)
  clear S_24
  have SB_25 := Lib.hid (SB_24.out.below bl)
  clear SB_24
  have G_25 := Lib.hid (OwnL.kept G_24.out bl)
  clear G_24
  have GB_25 := Lib.hid (GB_24.out.below bl)
  clear GB_24
  have U0_25 := Lib.hid (OwnL.kept U0_24.out bl)
  clear U0_24
  have U1_25 := Lib.hid (OwnL.kept U1_24.out bl)
  clear U1_24
  clear ho hnd hy
  clear bl
  clear U0_25
  clear U1_25
  obtain ⟨pK00, pK0l⟩ := tb1 K0_25.out
  obtain ⟨pSB0, pSBl⟩ := tb1 SB_25.out
  obtain ⟨pGB0, pGBl⟩ := tb1 GB_25.out
  go_wp2_with fail
  clear pK00 pK0l pSB0 pSBl pGB0 pGBl
  have D_G_HB := Lib.hid (apart_next G_25.out)
  have bl := (Below.refl w25.heap.size w25).alloc (Nat.le_refl _) (.cells #[.slice gH yH.length capH] 58)
  have HB_26 := Lib.hid (Blk.new w25 58 #[.slice gH yH.length capH])
  have B_26 := Lib.hid (Below.next B_25.out bl)
  clear B_25
  have K0_26 := Lib.hid (K0_25.out.below bl)
  clear K0_25
  have S_26 := Lib.hid (OwnL.kept S_25.out bl)
  clear S_25
  have SB_26 := Lib.hid (SB_25.out.below bl)
  clear SB_25
  have G_26 := Lib.hid (OwnL.kept G_25.out bl)
  clear G_25
  have GB_26 := Lib.hid (GB_25.out.below bl)
  clear GB_25
  have H_26 := Lib.hid (OwnL.kept H_25.out bl)
  clear H_25
  clear bl
  generalize w25.alloc (.cells #[.slice gH yH.length capH] 58) = w26 at B_26 K0_26 S_26 SB_26 G_26 GB_26 H_26 HB_26 ⊢
  obtain ⟨pK00, pK0l⟩ := tb1 K0_26.out
  obtain ⟨pSB0, pSBl⟩ := tb1 SB_26.out
  obtain ⟨pGB0, pGBl⟩ := tb1 GB_26.out
  obtain ⟨pHB0, pHBl⟩ := tb1 HB_26.out
  try go_wp2_with fail
  clear pK00 pK0l pSB0 pSBl pGB0 pGBl pHB0 pHBl
  refine (c_eqMod' _ _ _ _ yH yS _ (laysAt_own rfl H_26.out) (laysAt_own rfl S_26.out) (HYH.out.trans HYS.out.symm)).mono ?_
  rintro e w27 ⟨rfl, bl⟩
  have B_27 := Lib.hid (Below.next B_26.out bl)
  clear B_26
  have K0_27 := Lib.hid (K0_26.out.below bl)
  clear K0_26
  have S_27 := Lib.hid (OwnL.kept S_26.out bl)
  clear S_26
  have SB_27 := Lib.hid (SB_26.out.below bl)
  clear SB_26
  have G_27 := Lib.hid (OwnL.kept G_26.out bl)
  clear G_26
  have GB_27 := Lib.hid (GB_26.out.below bl)
  clear GB_26
  have H_27 := Lib.hid (OwnL.kept H_26.out bl)
  clear H_26
  have HB_27 := Lib.hid (HB_26.out.below bl)
  clear HB_26
  clear bl
  obtain ⟨pK00, pK0l⟩ := tb1 K0_27.out
  obtain ⟨pSB0, pSBl⟩ := tb1 SB_27.out
  obtain ⟨pGB0, pGBl⟩ := tb1 GB_27.out
  obtain ⟨pHB0, pHBl⟩ := tb1 HB_27.out
  go_wp2_with fail
  clear pK00 pK0l pSB0 pSBl pGB0 pGBl pHB0 pHBl
  refine (c_heldMod _ _ _ 1 q yG _ rfl (held_mod rfl G_27.out) HQ.out hq' LG.out.2).mono ?_
  rintro e w28 ⟨rfl, bl⟩
  have B_28 := Lib.hid (Below.next B_27.out bl)
  clear B_27
  have K0_28 := Lib.hid (K0_27.out.below bl)
  clear K0_27
  have S_28 := Lib.hid (OwnL.kept S_27.out bl)
  clear S_27
  have SB_28 := Lib.hid (SB_27.out.below bl)
  clear SB_27
  have G_28 := Lib.hid (OwnL.kept G_27.out bl)
  clear G_27
  have GB_28 := Lib.hid (GB_27.out.below bl)
  clear GB_27
  have H_28 := Lib.hid (OwnL.kept H_27.out bl)
  clear H_27
  have HB_28 := Lib.hid (HB_27.out.below bl)
  clear HB_27
  clear bl
  obtain ⟨pK00, pK0l⟩ := tb1 K0_28.out
  obtain ⟨pSB0, pSBl⟩ := tb1 SB_28.out
  obtain ⟨pGB0, pGBl⟩ := tb1 GB_28.out
  obtain ⟨pHB0, pHBl⟩ := tb1 HB_28.out
  go_wp2_with fail
  clear pK00 pK0l pSB0 pSBl pGB0 pGBl pHB0 pHBl
  go_ret
  exact ⟨rfl, B_28.out⟩

theorem walk (v0 : Value) (a1 : Option Addr) (len1 cap1 : Nat) (z1 : List Nat) (w : World) (w0 : ∃ x : ModA, v0 = .agg #[.slice x.g x.ls.length x.c] ∧ LaysAt w x.g x.ls.length x.c x.ls) (w1 : IsFloats .f32 w a1 len1 cap1 z1) :
    Calls Try.prog 10 #[v0, .slice a1 len1 cap1] w fun e w' => e = .returned (.bool true) ∧ Below w.heap.size w w' := by
  obtain ⟨⟨g0, c0, ls0⟩, rfl, w0⟩ := w0
  have hn1 : len1 ≤ 9223372036854775807 := by have h1 := w1.1; have h2 := w1.2.1; unfold maxLen at h2; omega
  obtain rfl : z1.length = len1 := w1.2.2.1
  obtain ⟨c1, rfl⟩ : ∃ c, c = cap1 := ⟨_, rfl⟩
  by_cases hL1 : z1.length ≤ 1048576
  case neg =>
    have hq : (1048576 : Int) < (z1.length : Int) := by omega
    clear hL1
    go_enter Try.func10, Try.ntmps10
    go_wp2
    go_ret
    exact ⟨rfl, (Below.refl w.heap.size w).alloc (by simp) (.cells #[.slice g0 ls0.length c0] 53)⟩
  case pos =>
    by_cases hL0 : (ls0.length + laySum (ls0.map LayA.p)) ≤ 1048576
    case neg =>
      have HN := Lib.hid (show 1048576 < ls0.length + laySum (ls0.map LayA.p) by omega)
      have HS := Lib.hid w0
      have hs1 : z1.length ≤ 1048576 := hL1
      have bl := Lib.hid ((Below.refl w.heap.size w).alloc (by simp) (.cells #[.slice g0 ls0.length c0] 53))
      clear hL0 w0
      go_enter Try.func10, Try.ntmps10
      go_wp2_with fail
      refine (c_szMod_no _ _ _ 1048576 ls0 _ (HS.out.kept bl.out) (Nat.le_refl _) HN.out).mono ?_
      rintro e w1 ⟨rfl, hb⟩
      have HB := Lib.hid (Below.next bl.out hb)
      clear hb bl
      go_wp2
      go_ret
      exact ⟨rfl, HB.out⟩
    case pos =>
      exact core ls0 z1 g0 c0 a1 c1 w w0 w1 (vWithParams (ls0.map LayA.p) z1).1 (vWithParams (ls0.map LayA.p) z1).2 hL0 hL1 (vWithParams_len (ls0.map LayA.p) z1) (fun g c y a1 c1 w hp0 h0 h1 => t_sWithParams (ls0.map LayA.p) ls0.length g c y z1 a1 c1 w hp0 h0 h1) (fun g c y a1 c1 w hp0 h0 h1 => t_iWithParams (ls0.map LayA.p) ls0.length g c y z1 a1 c1 w hp0 h0 h1)

/-! the row's step -/
set_option maxRecDepth 100000 in
theorem lifted (os : Os) (started : os.Started) (H : Type) (enc : TypeId × Value → H) :
    ReturnsInHanded {} Try.checked os 10 .any (Rows.fnExactWithParamsSpec.pre6 enc Try.prog Try.f10 Rows.fnExactWithParamsRow.domain false) (Rows.fnExactWithParamsSpec.post enc Try.prog Try.f10 false true false false) := by
  refine returnsInHanded_of_change (C := Try.checked) own started (by kernel_rfl) Try.func10
    (ChangeSpec.witness6 (enc := enc) (C := Try.checked) false ⟨#[], #[.agg #[.slice none 0 0], .slice none 0 0], []⟩ 8 (by kernel_rfl) (by kernel_rfl) (by kernel_rfl) (by kernel_rfl)) ?_
  intro W base args ds gs before hval0 hW hcnd _
  have hval : ∀ (j : Nat) t v, Try.f10.params[j]? = some t → args[j]? = some v → Value.okWide Try.prog W .any base t v := hval0
  have hW' := hW
  obtain ⟨p, q, hA0, hV, rfl, hfz, hnd⟩ := hW
  have hA : DataW.TrodAll enc Try.prog W 0 (fun _ => true) true Try.f10.params.toList args.toList ds p := hA0
  rw [Try.params10] at hA hval
  obtain ⟨v0, vs0, d0, ds0, p0, q0, hargs, rfl, rfl, h0, rest0⟩ := trodAll_cons hA
  obtain ⟨v1, vs1, d1, ds1, p1, q1, rfl, rfl, rfl, h1, rest1⟩ := trodAll_cons rest0
  obtain ⟨rfl, rfl, rfl⟩ := trodAll_nil rest1
  obtain rfl : args = #[v0, v1] := by cases args; simp_all
  obtain ⟨rfl, rfl⟩ := trodVars_none hV
  have k0 := h0
  have lt0 : ∀ x ∈ p0, x.block < W.heap.size := by obtain ⟨m, hm⟩ := k0; exact DataW.trod_lt m _ _ _ hm
  have w0 := open_Mod (hval 0 53 v0 rfl rfl) h0
  obtain ⟨a1, len1, cap1, rfl⟩ := okWide_slice Try.underlying24 (hval 1 24 v1 rfl rfl)
  have k1 := h1
  have lt1 : ∀ x ∈ p1, x.block < W.heap.size := by obtain ⟨m, hm⟩ := k1; exact DataW.trod_lt m _ _ _ hm
  obtain ⟨z1, w1⟩ := isFloats_of (k := .f32) Try.underlying24 Try.underlying104 (by kernel_rfl) h1
  clear hA0 hval0
  refine (walk _ a1 len1 cap1 z1 W w0 w1).mono fun e W' ⟨he, bel⟩ => ?_
  subst he
  exact ⟨_, rfl, _, _, _, [], _, [], hW', trodAll_mk1 (shut_bool Try.underlying4 _), (trodAll_cons_mk (Below.trod laidOut (by kernel_rfl) (of_decide_eq_true (by kernel_rfl)) k0 bel lt0) (trodAll_cons_mk (Below.trod laidOut (by kernel_rfl) (of_decide_eq_true (by kernel_rfl)) k1 bel lt1) trodAll_mk0)), rfl, bel.frame _, fun h => by cases h⟩

theorem over : Rows.fnExactWithParamsRow.holds Try.pinned (OpenSpec.ofChange Rows.fnExactWithParamsSpec) :=
  OpenClaim.holds_of_wide 10 Try.f10 rfl rfl rfl rfl rfl rfl rfl ⟨rfl, rfl, rfl, rfl, rfl⟩ rfl rfl rfl rfl rfl (by kernel_rfl) Try.func10 (by kernel_rfl)
    (of_decide_eq_true (by kernel_rfl)) (by unfold Func.isWrapper; first | (rw [if_pos (by decide +kernel)]; kernel_rfl) | (rw [if_neg (by decide +kernel)]; exact ⟨rfl, rfl⟩))
    (fun os started H enc _ => lifted os started H enc)

/-- the statement -/
theorem proved : Rows.FnExactWithParamsSaid := over
end Go.Proofs.Ytappcbijhfghlaa.fnExactWithParams
