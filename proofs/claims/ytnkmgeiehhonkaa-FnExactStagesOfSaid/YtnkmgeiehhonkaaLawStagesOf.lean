/-
  For every model and every list of numbers, StagesOf answers as its model, writes into no argument, and its answer owns its memory.
-/
import Derived.Test.YtnkmgeiehhonkaaCls
import Derived.Test.YtnkmgeiehhonkaaSgo
import Derived.Test.YtnkmgeiehhonkaaMark
import Derived.ChangeOld
import Derived.Below
namespace Go.Proofs.Ytnkmgeiehhonkaa.fnExactStagesOf
open Go.ChangeShapes Go.WideShapes Go.ChangeAt Go.RowKit
open Go.ChangeMaps (open_string shut_string)
set_option linter.unusedVariables false

set_option maxHeartbeats 4000000 in
set_option maxRecDepth 100000 in
/-- for any contracts of the model and of the program that say the same -/
theorem core (ls0 : List LayA) (z1 : List Nat) (g0 : Option Addr) (c0 : Nat) (a1 : Option Addr) (c1 : Nat) (w : World) (w0' : LaysAt w g0 ls0.length c0 ls0) (w1' : IsFloats .f32 w a1 z1.length c1 z1) (b : Bool) (zs : List (List Nat)) (hL0 : (ls0.length + laySum (ls0.map LayA.p)) ≤ 1048576) (hL1 : z1.length ≤ 1048576) (hz : zs.length + cntZZ zs ≤ 1048576)
    (CS' : ∀ (g0 : Option Addr) (c0 : Nat) (y0 : List LayA) (a1 : Option Addr) (c1 : Nat) (w : World), (y0.map LayA.p = ls0.map LayA.p) → (LaysAt w g0 ls0.length c0 y0) → (IsFloats .f32 w a1 z1.length c1 z1) → Calls Try.prog 62 #[.agg #[.slice g0 ls0.length c0], .slice a1 z1.length c1] w (RetSS b zs w))
    (CI' : ∀ (g0 : Option Addr) (c0 : Nat) (y0 : List LayA) (a1 : Option Addr) (c1 : Nat) (w : World), (y0.map LayA.p = ls0.map LayA.p) → (LaysAt w g0 ls0.length c0 y0) → (IsFloats .f32 w a1 z1.length c1 z1) → Calls Try.prog 64 #[.agg #[.slice g0 ls0.length c0], .slice a1 z1.length c1] w (RetSS b zs w)) :
    Calls Try.prog 10 #[.agg #[.slice g0 ls0.length c0], .slice a1 z1.length c1] w fun e w' => e = .returned (.bool true) ∧ Below w.heap.size w w' := by
  have HS0 := Lib.hid w0'
  have HZ0 := Lib.hid (show ls0.length + laySum (ls0.map LayA.p) ≤ 1048576 by omega)
  have HS1 := Lib.hid w1'
  have HZ1 := Lib.hid (show z1.length ≤ 1048576 by omega)
  have CS := Lib.hid CS'
  have CI := Lib.hid CI'
  have hs1 : z1.length ≤ 1048576 := by omega
  obtain ⟨l0, hl0⟩ : ∃ l, 1048576 - (ls0.length + laySum (ls0.map LayA.p)) = l := ⟨_, rfl⟩
  have hl0' : l0 ≤ 1048576 := by omega
  have HQ0 := Lib.hid (show ls0.length + laySum (ls0.map LayA.p) ≤ 1048576 by omega)
  have HE0 := Lib.hid hl0
  have hp0 : (0 : Int) ≤ (l0 : Int) := by omega
  obtain ⟨m0, hm0⟩ : ∃ m, 1 + (3 * ls0.length + laySum (ls0.map LayA.p)) = m := ⟨_, rfl⟩
  obtain ⟨m1, hm1⟩ : ∃ m, m0 + (z1.length) = m := ⟨_, rfl⟩
  have hm0' : m0 ≤ 4194304 := by omega
  have hn0' : (0 : Int) ≤ (m0 : Int) := by omega
  have HM0 := Lib.hid hm0
  have hm1' : m1 ≤ 8388608 := by omega
  have hn1' : (0 : Int) ≤ (m1 : Int) := by omega
  have HM1 := Lib.hid hm1
  clear hm1 hm0
  clear w0' w1' CS' CI' hl0 hL0 hL1
  go_enter Try.func10, Try.ntmps10
  go_wp2_with fail
  have B_0 := Lib.hid (Below.refl w.heap.size w)
  have bl := (Below.refl (w).heap.size (w)).alloc (Nat.le_refl _) (.cells #[.slice g0 ls0.length c0] 86)
  have K0_1 := Lib.hid (Blk.new (w) 86 #[.slice g0 ls0.length c0])
  have B_1 := Lib.hid (Below.next B_0.out bl)
  clear B_0
  clear bl
  generalize (w).alloc (.cells #[.slice g0 ls0.length c0] 86) = w1 at B_1 K0_1 ⊢
  refine (c_szMod _ _ _ _ _ ls0 _ (HS0.out.kept B_1.out) (Nat.le_refl _) HQ0.out HE0.out).mono ?_
  rintro e w2 ⟨rfl, bl⟩
  have B_2 := Lib.hid (Below.next B_1.out bl)
  clear B_1
  have K0_2 := Lib.hid (K0_1.out.below bl)
  clear K0_1
  clear bl
  obtain ⟨pK00, pK0l⟩ := tb1 K0_2.out
  go_wp2_with fail
  clear pK00 pK0l
  refine (c_toMod _ _ _ ls0 _ (HS0.out.kept B_2.out) HZ0.out).mono ?_
  rintro e w3 ⟨gT0, yT0, rfl, hl, hp, ho, hnd, bl⟩
  have HPT0 := Lib.hid hp
  have HLT0 := Lib.hid hl
  have T0_3 := Lib.hid (OwnL.base B_2.out.size _ ho)
  have B_3 := Lib.hid (Below.next B_2.out bl)
  clear B_2
  have K0_3 := Lib.hid (K0_2.out.below bl)
  clear K0_2
  clear hl hp ho hnd
  clear bl
  obtain ⟨pK00, pK0l⟩ := tb1 K0_3.out
  go_wp2_with fail
  clear pK00 pK0l
  refine (c_toFloats _ _ _ z1 _ (HS1.out.kept B_3.out) HZ1.out).mono ?_
  rintro e w4 ⟨aT1, rfl, hf, bl⟩
  have ho := flL_own.2 hf
  have T1_4 := Lib.hid (OwnL.base B_3.out.size _ ho)
  have B_4 := Lib.hid (Below.next B_3.out bl)
  clear B_3
  have K0_4 := Lib.hid (K0_3.out.below bl)
  clear K0_3
  have T0_4 := Lib.hid (OwnL.kept T0_3.out bl)
  clear T0_3
  clear hf ho
  clear bl
  obtain ⟨pK00, pK0l⟩ := tb1 K0_4.out
  go_wp2_with fail
  clear pK00 pK0l
  refine (CS.out _ _ yT0 _ _ _ HPT0.out (laysAt_own HLT0.out T0_4.out) (flL_at.1 (OwnL.at _ T1_4.out))).mono ?_
  rintro e w5 ⟨gS, capS, yS, rfl, ho, hnd, hy, bl⟩
  have HYS := Lib.hid hy
  have S_5 := Lib.hid (OwnL.base B_4.out.size _ ho)
  have B_5 := Lib.hid (Below.next B_4.out bl)
  clear B_4
  have K0_5 := Lib.hid (K0_4.out.below bl)
  clear K0_4
  have T0_5 := Lib.hid (OwnL.kept T0_4.out bl)
  clear T0_4
  have T1_5 := Lib.hid (OwnL.kept T1_4.out bl)
  clear T1_4
  clear ho hnd hy
  clear bl
  clear T0_5
  clear T1_5
  obtain ⟨pK00, pK0l⟩ := tb1 K0_5.out
  go_wp2_with fail
  clear pK00 pK0l
  refine (c_toMod _ _ _ ls0 _ (HS0.out.kept B_5.out) HZ0.out).mono ?_
  rintro e w6 ⟨gX0, yX0, rfl, hl, hp, ho, hnd, bl⟩
  have HPX0 := Lib.hid hp
  have HLX0 := Lib.hid hl
  have D_X0_K0 := Lib.hid (apart_box K0_5.out ho)
  have D_X0_S := Lib.hid (apart_new S_5.out ho)
  have NDX0 := Lib.hid hnd
  have X0_6 := Lib.hid (OwnL.base B_5.out.size _ ho)
  have B_6 := Lib.hid (Below.next B_5.out bl)
  clear B_5
  have K0_6 := Lib.hid (K0_5.out.below bl)
  clear K0_5
  have S_6 := Lib.hid (OwnL.kept S_5.out bl)
  clear S_5
  clear hl hp ho hnd
  clear bl
  obtain ⟨pK00, pK0l⟩ := tb1 K0_6.out
  go_wp2_with fail
  clear pK00 pK0l
  have D_X0_XB0 := Lib.hid (apart_next X0_6.out)
  have bl := (Below.refl w6.heap.size w6).alloc (Nat.le_refl _) (.cells #[.slice (some ⟨gX0, 0, none⟩) ls0.length ls0.length] 92)
  have XB0_7 := Lib.hid (Blk.new w6 92 #[.slice (some ⟨gX0, 0, none⟩) ls0.length ls0.length])
  have B_7 := Lib.hid (Below.next B_6.out bl)
  clear B_6
  have K0_7 := Lib.hid (K0_6.out.below bl)
  clear K0_6
  have S_7 := Lib.hid (OwnL.kept S_6.out bl)
  clear S_6
  have X0_7 := Lib.hid (OwnL.kept X0_6.out bl)
  clear X0_6
  clear bl
  generalize w6.alloc (.cells #[.slice (some ⟨gX0, 0, none⟩) ls0.length ls0.length] 92) = w7 at B_7 K0_7 S_7 X0_7 XB0_7 ⊢
  obtain ⟨pK00, pK0l⟩ := tb1 K0_7.out
  obtain ⟨pXB00, pXB0l⟩ := tb1 XB0_7.out
  try go_wp2_with fail
  clear pK00 pK0l pXB00 pXB0l
  obtain ⟨pK00, pK0l⟩ := tb1 K0_7.out
  obtain ⟨pXB00, pXB0l⟩ := tb1 XB0_7.out
  go_wp2_with fail
  clear pK00 pK0l pXB00 pXB0l
  refine (c_toFloats _ _ _ z1 _ (HS1.out.kept B_7.out) HZ1.out).mono ?_
  rintro e w8 ⟨aX1, rfl, hf, bl⟩
  have ho := flL_own.2 hf
  have D_X1_K0 := Lib.hid (apart_box K0_7.out ho)
  have D_X1_S := Lib.hid (apart_new S_7.out ho)
  have D_X0_X1 := Lib.hid (apart_symm (apart_new X0_7.out ho))
  have D_X1_X0 := Lib.hid (apart_new X0_7.out ho)
  have D_X1_XB0 := Lib.hid (apart_box XB0_7.out ho)
  have X1_8 := Lib.hid (OwnL.base B_7.out.size _ ho)
  have B_8 := Lib.hid (Below.next B_7.out bl)
  clear B_7
  have K0_8 := Lib.hid (K0_7.out.below bl)
  clear K0_7
  have S_8 := Lib.hid (OwnL.kept S_7.out bl)
  clear S_7
  have X0_8 := Lib.hid (OwnL.kept X0_7.out bl)
  clear X0_7
  have XB0_8 := Lib.hid (XB0_7.out.below bl)
  clear XB0_7
  clear hf ho
  clear bl
  obtain ⟨pK00, pK0l⟩ := tb1 K0_8.out
  obtain ⟨pXB00, pXB0l⟩ := tb1 XB0_8.out
  go_wp2_with fail
  clear pK00 pK0l pXB00 pXB0l
  refine (CI.out _ _ yX0 _ _ _ HPX0.out (laysAt_own HLX0.out X0_8.out) (flL_at.1 (OwnL.at _ X1_8.out))).mono ?_
  rintro e w9 ⟨gG, capG, yG, rfl, ho, hnd, hy, bl⟩
  have HYG := Lib.hid hy
  have D_G_K0 := Lib.hid (apart_box K0_8.out ho)
  have D_G_S := Lib.hid (apart_new S_8.out ho)
  have D_X0_G := Lib.hid (apart_symm (apart_new X0_8.out ho))
  have D_G_X0 := Lib.hid (apart_new X0_8.out ho)
  have D_G_XB0 := Lib.hid (apart_box XB0_8.out ho)
  have D_X1_G := Lib.hid (apart_symm (apart_new X1_8.out ho))
  have D_G_X1 := Lib.hid (apart_new X1_8.out ho)
  have NDG := Lib.hid hnd
  have LG := Lib.hid (retSS_bound hy hz)
  have G_9 := Lib.hid (OwnL.base B_8.out.size _ ho)
  have B_9 := Lib.hid (Below.next B_8.out bl)
  clear B_8
  have K0_9 := Lib.hid (K0_8.out.below bl)
  clear K0_8
  have S_9 := Lib.hid (OwnL.kept S_8.out bl)
  clear S_8
  have X0_9 := Lib.hid (OwnL.kept X0_8.out bl)
  clear X0_8
  have XB0_9 := Lib.hid (XB0_8.out.below bl)
  clear XB0_8
  have X1_9 := Lib.hid (OwnL.kept X1_8.out bl)
  clear X1_8
  clear ho hnd hy
  clear bl
  obtain ⟨pK00, pK0l⟩ := tb1 K0_9.out
  obtain ⟨pXB00, pXB0l⟩ := tb1 XB0_9.out
  go_wp2_with fail
  clear pK00 pK0l pXB00 pXB0l
  refine (c_eqSS' _ _ _ _ yG yS _ (ssAt_owns rfl G_9.out) (ssAt_owns rfl S_9.out) (HYG.out.trans HYS.out.symm)).mono ?_
  rintro e w10 ⟨rfl, bl⟩
  have B_10 := Lib.hid (Below.next B_9.out bl)
  clear B_9
  have K0_10 := Lib.hid (K0_9.out.below bl)
  clear K0_9
  have S_10 := Lib.hid (OwnL.kept S_9.out bl)
  clear S_9
  have X0_10 := Lib.hid (OwnL.kept X0_9.out bl)
  clear X0_9
  have XB0_10 := Lib.hid (XB0_9.out.below bl)
  clear XB0_9
  have X1_10 := Lib.hid (OwnL.kept X1_9.out bl)
  clear X1_9
  have G_10 := Lib.hid (OwnL.kept G_9.out bl)
  clear G_9
  clear bl
  obtain ⟨pK00, pK0l⟩ := tb1 K0_10.out
  obtain ⟨pXB00, pXB0l⟩ := tb1 XB0_10.out
  go_wp2_with fail
  clear pK00 pK0l pXB00 pXB0l
  have bl : Below w10.heap.size w10 w10.drew := (Below.refl _ _).drew
  have B_11 := Lib.hid (Below.next B_10.out bl)
  clear B_10
  have K0_11 := Lib.hid (K0_10.out.below bl)
  clear K0_10
  have S_11 := Lib.hid (OwnL.kept S_10.out bl)
  clear S_10
  have X0_11 := Lib.hid (OwnL.kept X0_10.out bl)
  clear X0_10
  have XB0_11 := Lib.hid (XB0_10.out.below bl)
  clear XB0_10
  have X1_11 := Lib.hid (OwnL.kept X1_10.out bl)
  clear X1_10
  have G_11 := Lib.hid (OwnL.kept G_10.out bl)
  clear G_10
  clear bl
  obtain ⟨pK00, pK0l⟩ := tb1 K0_11.out
  obtain ⟨pXB00, pXB0l⟩ := tb1 XB0_11.out
  go_region_held3 (fun w' => w'.cell? ⟨w.heap.size, 0, none⟩ = some (.slice g0 ls0.length c0) ∧ w'.cell? ⟨w6.heap.size, 0, none⟩ = some (.slice (some ⟨gX0, 0, none⟩) ls0.length ls0.length)) (go_keep)
    (first
      | (go_at_call 63
         clear pK00 pK0l pXB00 pXB0l
         refine (c_toMod _ _ _ ls0 _ (HS0.out.kept B_11.out) HZ0.out).mono ?_
         rintro e w12 ⟨gY0, yY0, rfl, hl, hp, ho, hnd, bl⟩
         have HPY0 := Lib.hid hp
         have HLY0 := Lib.hid hl
         have Y0_12 := Lib.hid (OwnL.base B_11.out.size _ ho)
         have B_12 := Lib.hid (Below.next B_11.out bl)
         clear B_11
         have K0_12 := Lib.hid (K0_11.out.below bl)
         clear K0_11
         have S_12 := Lib.hid (OwnL.kept S_11.out bl)
         clear S_11
         have X0_12 := Lib.hid (OwnL.kept X0_11.out bl)
         clear X0_11
         have XB0_12 := Lib.hid (XB0_11.out.below bl)
         clear XB0_11
         have X1_12 := Lib.hid (OwnL.kept X1_11.out bl)
         clear X1_11
         have G_12 := Lib.hid (OwnL.kept G_11.out bl)
         clear G_11
         clear hl hp ho hnd
         clear bl
         obtain ⟨pK00, pK0l⟩ := tb1 K0_12.out
         obtain ⟨pXB00, pXB0l⟩ := tb1 XB0_12.out)
      | (go_at_call 65
         clear pK00 pK0l pXB00 pXB0l
         refine (c_eqMod _ _ _ _ _ yX0 yY0 _ (laysAt_own HLX0.out X0_12.out) (laysAt_own HLY0.out Y0_12.out) (can_of (HPX0.out.trans HPY0.out.symm))).mono ?_
         rintro e w13 ⟨rfl, bl⟩
         have B_13 := Lib.hid (Below.next B_12.out bl)
         clear B_12
         have K0_13 := Lib.hid (K0_12.out.below bl)
         clear K0_12
         have S_13 := Lib.hid (OwnL.kept S_12.out bl)
         clear S_12
         have X0_13 := Lib.hid (OwnL.kept X0_12.out bl)
         clear X0_12
         have XB0_13 := Lib.hid (XB0_12.out.below bl)
         clear XB0_12
         have X1_13 := Lib.hid (OwnL.kept X1_12.out bl)
         clear X1_12
         have G_13 := Lib.hid (OwnL.kept G_12.out bl)
         clear G_12
         have Y0_13 := Lib.hid (OwnL.kept Y0_12.out bl)
         clear Y0_12
         clear bl
         obtain ⟨pK00, pK0l⟩ := tb1 K0_13.out
         obtain ⟨pXB00, pXB0l⟩ := tb1 XB0_13.out))
  clear pK00 pK0l pXB00 pXB0l
  clear Y0_13
  obtain ⟨pK00, pK0l⟩ := tb1 K0_13.out
  obtain ⟨pXB00, pXB0l⟩ := tb1 XB0_13.out
  go_wp2_with fail
  clear pK00 pK0l pXB00 pXB0l
  refine (c_toFloats _ _ _ z1 _ (HS1.out.kept B_13.out) HZ1.out).mono ?_
  rintro e w14 ⟨aY1, rfl, hf, bl⟩
  have ho := flL_own.2 hf
  have Y1_14 := Lib.hid (OwnL.base B_13.out.size _ ho)
  have B_14 := Lib.hid (Below.next B_13.out bl)
  clear B_13
  have K0_14 := Lib.hid (K0_13.out.below bl)
  clear K0_13
  have S_14 := Lib.hid (OwnL.kept S_13.out bl)
  clear S_13
  have X0_14 := Lib.hid (OwnL.kept X0_13.out bl)
  clear X0_13
  have XB0_14 := Lib.hid (XB0_13.out.below bl)
  clear XB0_13
  have X1_14 := Lib.hid (OwnL.kept X1_13.out bl)
  clear X1_13
  have G_14 := Lib.hid (OwnL.kept G_13.out bl)
  clear G_13
  clear hf ho
  clear bl
  obtain ⟨pK00, pK0l⟩ := tb1 K0_14.out
  obtain ⟨pXB00, pXB0l⟩ := tb1 XB0_14.out
  go_wp2_with fail
  clear pK00 pK0l pXB00 pXB0l
  refine (c_eqFloats _ _ _ _ z1 z1 _ (flL_at.1 (OwnL.at _ X1_14.out)) (flL_at.1 (OwnL.at _ Y1_14.out)) rfl).mono ?_
  rintro e w15 ⟨rfl, dn⟩
  have bl : Below w14.heap.size w14 w15 := by first | exact dn.below | exact (below_drewN (Below.refl _ _) _).trans dn.below
  clear dn
  have B_15 := Lib.hid (Below.next B_14.out bl)
  clear B_14
  have K0_15 := Lib.hid (K0_14.out.below bl)
  clear K0_14
  have S_15 := Lib.hid (OwnL.kept S_14.out bl)
  clear S_14
  have X0_15 := Lib.hid (OwnL.kept X0_14.out bl)
  clear X0_14
  have XB0_15 := Lib.hid (XB0_14.out.below bl)
  clear XB0_14
  have X1_15 := Lib.hid (OwnL.kept X1_14.out bl)
  clear X1_14
  have G_15 := Lib.hid (OwnL.kept G_14.out bl)
  clear G_14
  have Y1_15 := Lib.hid (OwnL.kept Y1_14.out bl)
  clear Y1_14
  clear bl
  clear Y1_15
  obtain ⟨pK00, pK0l⟩ := tb1 K0_15.out
  obtain ⟨pXB00, pXB0l⟩ := tb1 XB0_15.out
  go_wp2_with fail
  clear pK00 pK0l pXB00 pXB0l
  refine (c_markMod _ _ _ 1 m0 _ yX0 _ HLX0.out X0_15.out NDX0.out (by rw [cnt_copy HLX0.out HPX0.out]; exact HM0.out) hm0' (by rw [HPX0.out]; have := HZ0.out; omega)).mono ?_
  rintro e w16 ⟨rfl, ho, hg⟩
  have B_16 := Lib.hid (hg.below' B_15.out (fun g h => (OwnL.lt _ X0_15.out g h).1))
  have K0_16 := Lib.hid (K0_15.out.inn hg D_X0_K0.out)
  have S_16 := Lib.hid (OwnL.apart hg _ S_15.out D_X0_S.out)
  have XB0_16 := Lib.hid (XB0_15.out.inn hg D_X0_XB0.out)
  have X1_16 := Lib.hid (OwnL.apart hg _ X1_15.out D_X0_X1.out)
  have G_16 := Lib.hid (OwnL.apart hg _ G_15.out D_X0_G.out)
  clear B_15
  clear K0_15
  clear S_15
  clear X0_15
  clear XB0_15
  clear X1_15
  clear G_15
  clear ho hg
  obtain ⟨pK00, pK0l⟩ := tb1 K0_16.out
  obtain ⟨pXB00, pXB0l⟩ := tb1 XB0_16.out
  go_wp2_with fail
  clear pK00 pK0l pXB00 pXB0l
  refine (c_markFl _ _ _ m0 m1 z1 _ X1_16.out HM1.out hm0' HZ1.out).mono ?_
  rintro e w17 ⟨rfl, ho, hg⟩
  have B_17 := Lib.hid (hg.below' B_16.out (fun g h => (OwnL.lt _ X1_16.out g h).1))
  have K0_17 := Lib.hid (K0_16.out.inn hg D_X1_K0.out)
  have S_17 := Lib.hid (OwnL.apart hg _ S_16.out D_X1_S.out)
  have XB0_17 := Lib.hid (XB0_16.out.inn hg D_X1_XB0.out)
  have G_17 := Lib.hid (OwnL.apart hg _ G_16.out D_X1_G.out)
  clear B_16
  clear K0_16
  clear S_16
  clear XB0_16
  clear X1_16
  clear G_16
  clear ho hg
  clear XB0_17
  obtain ⟨pK00, pK0l⟩ := tb1 K0_17.out
  go_wp2_with fail
  clear pK00 pK0l
  refine (c_eqSS' _ _ _ _ yG yS _ (ssAt_owns rfl G_17.out) (ssAt_owns rfl S_17.out) (HYG.out.trans HYS.out.symm)).mono ?_
  rintro e w18 ⟨rfl, bl⟩
  have B_18 := Lib.hid (Below.next B_17.out bl)
  clear B_17
  have K0_18 := Lib.hid (K0_17.out.below bl)
  clear K0_17
  have S_18 := Lib.hid (OwnL.kept S_17.out bl)
  clear S_17
  have G_18 := Lib.hid (OwnL.kept G_17.out bl)
  clear G_17
  clear bl
  obtain ⟨pK00, pK0l⟩ := tb1 K0_18.out
  go_wp2_with fail
  clear pK00 pK0l
  obtain ⟨q, hq⟩ : ∃ q, 1 + cntSS yG = q := ⟨_, rfl⟩
  have HQ := Lib.hid hq
  have hq' : q ≤ 4194304 := by have := LG.out; omega
  have hq0 : (0 : Int) ≤ (q : Int) := by omega
  clear hq
  refine (c_markSS4 _ _ _ 1 q _ yG _ rfl G_18.out NDG.out HQ.out hq' LG.out.2.1 LG.out.2.2).mono ?_
  rintro e w19 ⟨rfl, ho, hg⟩
  have B_19 := Lib.hid (hg.below' B_18.out (fun g h => (OwnL.lt _ G_18.out g h).1))
  have K0_19 := Lib.hid (K0_18.out.inn hg D_G_K0.out)
  have S_19 := Lib.hid (OwnL.apart hg _ S_18.out D_G_S.out)
  have G_19 := Lib.hid (ho)
  clear B_18
  clear K0_18
  clear S_18
  clear G_18
  clear ho hg
  obtain ⟨pK00, pK0l⟩ := tb1 K0_19.out
  go_wp2_with fail
  clear pK00 pK0l
  refine (c_heldSS4 _ _ _ 1 q yG _ rfl (held_ss rfl G_19.out) HQ.out hq' LG.out.2.1 LG.out.2.2).mono ?_
  rintro e w' ⟨rfl, rfl⟩
  obtain ⟨pK00, pK0l⟩ := tb1 K0_19.out
  go_wp2_with fail
  clear pK00 pK0l
  refine (c_toMod _ _ _ ls0 _ (HS0.out.kept B_19.out) HZ0.out).mono ?_
  rintro e w20 ⟨gU0, yU0, rfl, hl, hp, ho, hnd, bl⟩
  have HPU0 := Lib.hid hp
  have HLU0 := Lib.hid hl
  have U0_20 := Lib.hid (OwnL.base B_19.out.size _ ho)
  have B_20 := Lib.hid (Below.next B_19.out bl)
  clear B_19
  have K0_20 := Lib.hid (K0_19.out.below bl)
  clear K0_19
  have S_20 := Lib.hid (OwnL.kept S_19.out bl)
  clear S_19
  have G_20 := Lib.hid (OwnL.kept G_19.out bl)
  clear G_19
  clear hl hp ho hnd
  clear bl
  obtain ⟨pK00, pK0l⟩ := tb1 K0_20.out
  go_wp2_with fail
  clear pK00 pK0l
  refine (c_toFloats _ _ _ z1 _ (HS1.out.kept B_20.out) HZ1.out).mono ?_
  rintro e w21 ⟨aU1, rfl, hf, bl⟩
  have ho := flL_own.2 hf
  have U1_21 := Lib.hid (OwnL.base B_20.out.size _ ho)
  have B_21 := Lib.hid (Below.next B_20.out bl)
  clear B_20
  have K0_21 := Lib.hid (K0_20.out.below bl)
  clear K0_20
  have S_21 := Lib.hid (OwnL.kept S_20.out bl)
  clear S_20
  have G_21 := Lib.hid (OwnL.kept G_20.out bl)
  clear G_20
  have U0_21 := Lib.hid (OwnL.kept U0_20.out bl)
  clear U0_20
  clear hf ho
  clear bl
  obtain ⟨pK00, pK0l⟩ := tb1 K0_21.out
  go_wp2_with fail
  clear pK00 pK0l
  refine (CI.out _ _ yU0 _ _ _ HPU0.out (laysAt_own HLU0.out U0_21.out) (flL_at.1 (OwnL.at _ U1_21.out))).mono ?_
  rintro e w22 ⟨gH, capH, yH, rfl, ho, hnd, hy, bl⟩
  have HYH := Lib.hid hy
  have H_22 := Lib.hid (OwnL.base B_21.out.size _ ho)
  have B_22 := Lib.hid (Below.next B_21.out bl)
  clear B_21
  have K0_22 := Lib.hid (K0_21.out.below bl)
  clear K0_21
  have S_22 := Lib.hid (OwnL.kept S_21.out bl)
  clear S_21
  have G_22 := Lib.hid (OwnL.kept G_21.out bl)
  clear G_21
  have U0_22 := Lib.hid (OwnL.kept U0_21.out bl)
  clear U0_21
  have U1_22 := Lib.hid (OwnL.kept U1_21.out bl)
  clear U1_21
  clear ho hnd hy
  clear bl
  clear U0_22
  clear U1_22
  obtain ⟨pK00, pK0l⟩ := tb1 K0_22.out
  go_wp2_with fail
  clear pK00 pK0l
  refine (c_eqSS' _ _ _ _ yH yS _ (ssAt_owns rfl H_22.out) (ssAt_owns rfl S_22.out) (HYH.out.trans HYS.out.symm)).mono ?_
  rintro e w23 ⟨rfl, bl⟩
  have B_23 := Lib.hid (Below.next B_22.out bl)
  clear B_22
  have K0_23 := Lib.hid (K0_22.out.below bl)
  clear K0_22
  have S_23 := Lib.hid (OwnL.kept S_22.out bl)
  clear S_22
  have G_23 := Lib.hid (OwnL.kept G_22.out bl)
  clear G_22
  have H_23 := Lib.hid (OwnL.kept H_22.out bl)
  clear H_22
  clear bl
  obtain ⟨pK00, pK0l⟩ := tb1 K0_23.out
  go_wp2_with fail
  clear pK00 pK0l
  refine (c_heldSS4 _ _ _ 1 q yG _ rfl (held_ss rfl G_23.out) HQ.out hq' LG.out.2.1 LG.out.2.2).mono ?_
  rintro e w' ⟨rfl, rfl⟩
  obtain ⟨pK00, pK0l⟩ := tb1 K0_23.out
  go_wp2_with fail
  clear pK00 pK0l
  go_ret
  exact ⟨rfl, B_23.out⟩

theorem walk (v0 : Value) (a1 : Option Addr) (len1 cap1 : Nat) (z1 : List Nat) (w : World) (w0 : ∃ x : ModA, v0 = .agg #[.slice x.g x.ls.length x.c] ∧ LaysAt w x.g x.ls.length x.c x.ls) (w1 : IsFloats .f32 w a1 len1 cap1 z1) :
    Calls Try.prog 10 #[v0, .slice a1 len1 cap1] w fun e w' => e = .returned (.bool true) ∧ Below w.heap.size w w' := by
  obtain ⟨⟨g0, c0, ls0⟩, rfl, w0⟩ := w0
  have hn1 : len1 ≤ 9223372036854775807 := by have h1 := w1.1; have h2 := w1.2.1; unfold maxLen at h2; omega
  obtain rfl : z1.length = len1 := w1.2.2.1
  obtain ⟨c1, rfl⟩ : ∃ c, c = cap1 := ⟨_, rfl⟩
  by_cases hL1 : z1.length ≤ 1048576
  case neg =>
    have hq : (1048576 : Int) < (z1.length : Int) := by omega
    clear hL1
    go_enter Try.func10, Try.ntmps10
    go_wp2
    go_ret
    exact ⟨rfl, ((Below.refl w.heap.size w).alloc (by simp) (.cells #[.slice g0 ls0.length c0] 86))⟩
  case pos =>
    by_cases hL0 : (ls0.length + laySum (ls0.map LayA.p)) ≤ 1048576
    case neg =>
      have HN := Lib.hid (show 1048576 < ls0.length + laySum (ls0.map LayA.p) by omega)
      have HS := Lib.hid w0
      have hs1 : z1.length ≤ 1048576 := hL1
      have bl := Lib.hid (((Below.refl w.heap.size w).alloc (by simp) (.cells #[.slice g0 ls0.length c0] 86)))
      clear hL0 w0
      go_enter Try.func10, Try.ntmps10
      go_wp2_with fail
      refine (c_szMod_no _ _ _ 1048576 ls0 _ (HS.out.kept bl.out) (Nat.le_refl _) HN.out).mono ?_
      rintro e w1 ⟨rfl, hb⟩
      have HB := Lib.hid (Below.next bl.out hb)
      clear hb bl
      go_wp2
      go_ret
      exact ⟨rfl, HB.out⟩
    case pos =>
      exact core ls0 z1 g0 c0 a1 c1 w w0 w1 (vStagesOf (ls0.map LayA.p) z1).1 (vStagesOf (ls0.map LayA.p) z1).2 hL0 hL1 (vStagesOf_len (ls0.map LayA.p) z1) (fun g0_ c0_ y0_ a1 c1 w hp0 h0 h1 => t_sStagesOf (ls0.map LayA.p) ls0.length g0_ c0_ y0_ z1 a1 c1 w hp0 h0 h1) (fun g0_ c0_ y0_ a1 c1 w hp0 h0 h1 => t_iStagesOf (ls0.map LayA.p) ls0.length g0_ c0_ y0_ z1 a1 c1 w hp0 h0 h1)

/-! the row's step -/
set_option maxRecDepth 100000 in
theorem lifted (os : Os) (started : os.Started) (H : Type) (enc : TypeId × Value → H) :
    ReturnsInHanded {} Try.checked os 10 .any (Rows.fnExactStagesOfSpec.pre6 enc Try.prog Try.f10 Rows.fnExactStagesOfRow.domain false) (Rows.fnExactStagesOfSpec.post enc Try.prog Try.f10 false true false false) := by
  refine returnsInHanded_of_change (C := Try.checked) own started (by kernel_rfl) Try.func10
    (ChangeSpec.witness6 (enc := enc) (C := Try.checked) false ⟨#[], #[.agg #[.slice none 0 0], .slice none 0 0], []⟩ 8 (by kernel_rfl) (by kernel_rfl) (by kernel_rfl) (by kernel_rfl)) ?_
  intro W base args ds gs before hval0 hW hcnd _
  have hval : ∀ (j : Nat) t v, Try.f10.params[j]? = some t → args[j]? = some v → Value.okWide Try.prog W .any base t v := hval0
  have hW' := hW
  obtain ⟨p, q, hA0, hV, rfl, hfz, hnd⟩ := hW
  have hA : DataW.TrodAll enc Try.prog W 0 (fun _ => true) true Try.f10.params.toList args.toList ds p := hA0
  rw [Try.params10] at hA hval
  obtain ⟨v0, vs0, d0, ds0, p0, q0, hargs, rfl, rfl, h0, rest0⟩ := trodAll_cons hA
  obtain ⟨v1, vs1, d1, ds1, p1, q1, rfl, rfl, rfl, h1, rest1⟩ := trodAll_cons rest0
  obtain ⟨rfl, rfl, rfl⟩ := trodAll_nil rest1
  obtain rfl : args = #[v0, v1] := by cases args; simp_all
  obtain ⟨rfl, rfl⟩ := trodVars_none hV
  have k0 := h0
  have lt0 : ∀ x ∈ p0, x.block < W.heap.size := by obtain ⟨m, hm⟩ := k0; exact DataW.trod_lt m _ _ _ hm
  have w0 := open_Mod (hval 0 86 v0 rfl rfl) h0
  obtain ⟨a1, len1, cap1, rfl⟩ := okWide_slice Try.underlying50 (hval 1 50 v1 rfl rfl)
  have k1 := h1
  have lt1 : ∀ x ∈ p1, x.block < W.heap.size := by obtain ⟨m, hm⟩ := k1; exact DataW.trod_lt m _ _ _ hm
  obtain ⟨z1, w1⟩ := isFloats_of (k := .f32) Try.underlying50 Try.underlying72 (by kernel_rfl) h1
  clear hA0 hval0
  refine (walk _ a1 len1 cap1 z1 W w0 w1).mono fun e W' ⟨he, bel⟩ => ?_
  subst he
  exact ⟨_, rfl, _, _, _, [], _, [], hW', trodAll_mk1 (shut_bool Try.underlying4 _), (trodAll_cons_mk (Below.trod laidOut (by kernel_rfl) (of_decide_eq_true (by kernel_rfl)) k0 bel lt0) (trodAll_cons_mk (Below.trod laidOut (by kernel_rfl) (of_decide_eq_true (by kernel_rfl)) k1 bel lt1) trodAll_mk0)), rfl, bel.frame _, fun h => by cases h⟩

theorem named_ : Try.pinned.checked.prog.funcNamed Rows.fnExactStagesOfRow.func = some 10 := by kernel_rfl
theorem fk1 : (Rows.fnExactStagesOfRow.wf (OpenSpec.ofChange Rows.fnExactStagesOfSpec)) = true := by kernel_rfl
theorem fk4 : (Try.f10.params.all (Try.pinned.checked.prog.readableRec ·)) = true := by kernel_rfl
theorem fk5 : (namedTie Try.pinned.checked.prog Rows.fnExactStagesOfRow.named Rows.fnExactStagesOfSpec.vars) = true := by kernel_rfl
theorem fk6 : ((Rows.fnExactStagesOfRow.stops == [])) = true := by kernel_rfl
theorem fk8 : ((Rows.fnExactStagesOfRow.knobs == [])) = true := by kernel_rfl
theorem fk10 : ((Rows.fnExactStagesOfRow.inPlace == Try.pinned.checked.prog.inPlace 10)) = true := by kernel_rfl
theorem fk11 : ((Rows.fnExactStagesOfRow.unfollowed == Try.pinned.checked.prog.unfollowed 10)) = true := by kernel_rfl
theorem fk12 : ((Rows.fnExactStagesOfRow.recurses == Try.pinned.checked.prog.recurses 10)) = true := by kernel_rfl
theorem fk13 : ((Rows.fnExactStagesOfRow.named == Try.pinned.checked.prog.varsNamed 10)) = true := by kernel_rfl
theorem fk14 : ((Rows.fnExactStagesOfRow.maps == (Try.f10.params.toList ++ Rows.fnExactStagesOfSpec.plain.varTypes Try.pinned.checked.prog).any (Try.pinned.checked.prog.mapsRec ·))) = true := by kernel_rfl
theorem fk15 : ((Rows.fnExactStagesOfRow.ifaces == (Try.f10.params.toList ++ Rows.fnExactStagesOfSpec.plain.varTypes Try.pinned.checked.prog).any (Try.pinned.checked.prog.ifacesRec ·))) = true := by kernel_rfl
theorem fk16 : ((Rows.fnExactStagesOfRow.mapsOut == Try.pinned.checked.prog.mapsAmong Try.f10.resultTypes.toList)) = true := by kernel_rfl
theorem fk17 : ((Rows.fnExactStagesOfRow.loops == (Try.f10.params.toList ++ Rows.fnExactStagesOfSpec.plain.varTypes Try.pinned.checked.prog).any (Try.pinned.checked.prog.loopsFrom ·))) = true := by kernel_rfl
theorem fk18 : ((Rows.fnExactStagesOfRow.wideKeys == (Try.f10.params.toList ++ Rows.fnExactStagesOfSpec.plain.varTypes Try.pinned.checked.prog ++ Try.f10.resultTypes.toList).any (Try.pinned.checked.prog.wideKeysFrom ·))) = true := by kernel_rfl
theorem fk19 : (Rows.fnExactStagesOfSpec.vars.all (Try.pinned.checked.prog.varReadable ·)) = true := by kernel_rfl
theorem fk20 : (Try.f10.resultTypes.all (fun t => Try.pinned.checked.prog.readableRec t && decide (t < Try.pinned.checked.prog.types.size))) = true := by kernel_rfl
theorem fk21 : ((Rows.fnExactStagesOfRow.ifacesOut == Try.f10.resultTypes.toList.any (Try.pinned.checked.prog.ifacesRec ·))) = true := by kernel_rfl
theorem fk22 : ((Rows.fnExactStagesOfRow.loopsOut == Try.f10.resultTypes.toList.any (Try.pinned.checked.prog.loopsFrom ·))) = true := by kernel_rfl
theorem fk23 : (Rows.fnExactStagesOfRow.plainKeys == Try.pinned.checked.prog.plainKeys) = true := by rw [cls_keys]; kernel_rfl
theorem fk24 : (Rows.fnExactStagesOfRow.shortTexts.isNone) = true := by kernel_rfl
theorem fk27 : (Rows.fnExactStagesOfRow.lifted == Try.pinned.checked.prog.liftsFinal) = true := by rw [cls_lift]; kernel_rfl
theorem fk28 : (Try.pinned.checked.prog.make == some Rows.fnExactStagesOfRow.make) = true := by rw [cls_make]; kernel_rfl
theorem fk29 : ((Rows.fnExactStagesOfRow.kinds == (if Rows.fnExactStagesOfRow.domain.isEmpty then [] else Try.f10.params.toList.map fun t => match Try.pinned.checked.prog.underlying t with | some (.int k) => some k | _ => none))) = true := by kernel_rfl
theorem fk30 : ((Rows.fnExactStagesOfRow.pinned == Rows.fnExactStagesOfRow.pinnedBy)) = true := by kernel_rfl
theorem fk31 : ((Rows.fnExactStagesOfRow.veiled == (Try.f10.params.toList ++ Rows.fnExactStagesOfSpec.plain.varTypes Try.pinned.checked.prog ++ Try.f10.resultTypes.toList).any (Try.pinned.checked.prog.veiledRec ·))) = true := by kernel_rfl
theorem fk32 : (Rows.fnExactStagesOfRow.veiledFits Try.pinned.checked.prog Try.f10.params.toList (Try.f10.params.toList ++ Rows.fnExactStagesOfSpec.plain.varTypes Try.pinned.checked.prog ++ Try.f10.resultTypes.toList)) = true := by kernel_rfl
set_option maxRecDepth 100000 in
theorem closed : joinedFacts Try.pinned.checked.prog 10 Try.f10 Rows.fnExactStagesOfSpec Rows.fnExactStagesOfRow = true := (and2 (and2 (and2 (and2 (and2 (and2 (and2 (and2 (and2 (and2 (and2 (and2 (and2 (and2 (and2 (and2 (and2 (and2 (and2 (and2 (and2 (and2 (and2 (and2 (and2 (and2 (and2 (and2 (and2 (and2 (and2 fk1 cls_laid) cls_maps) fk4) fk5) fk6) cls_stops) fk8) cls_knobs) fk10) fk11) fk12) fk13) fk14) fk15) fk16) fk17) fk18) fk19) fk20) fk21) fk22) fk23) fk24) cls_heard) cls_enter) fk27) fk28) fk29) fk30) fk31) fk32)
theorem over : Rows.fnExactStagesOfRow.holds Try.pinned (OpenSpec.ofChange Rows.fnExactStagesOfSpec) :=
  OpenClaim.holds_of_wide 10 Try.f10 rfl rfl rfl rfl rfl rfl rfl ⟨rfl, rfl, rfl, rfl, rfl⟩ rfl rfl rfl rfl rfl named_ Try.func10 closed
    (of_decide_eq_true (by kernel_rfl)) (by unfold Func.isWrapper; first | (rw [if_pos (by decide +kernel)]; kernel_rfl) | (rw [if_neg (by decide +kernel)]; exact ⟨rfl, rfl⟩))
    (fun os started H enc _ => lifted os started H enc)

/-- the statement -/
theorem proved : Rows.FnExactStagesOfSaid := over
end Go.Proofs.Ytnkmgeiehhonkaa.fnExactStagesOf
