/-
  MulRow answers as its model says, for all arguments, changes none of them, and its answer owns its memory. Conditions: none.
-/
import Derived.Test.YtaonfaeinoackaaTMulRow
import Derived.ChangeOld
import Derived.Below
namespace Go.Proofs.Ytaonfaeinoackaa.fnExactMulRow
open Go.ChangeShapes Go.WideShapes Go.ChangeAt Go.RowKit
open Go.ChangeMaps (open_string shut_string)
set_option linter.unusedVariables false

set_option maxHeartbeats 4000000 in
set_option maxRecDepth 100000 in
/-- for any contracts of the model and of the program that say the same -/
theorem core (r0 c0 : Int) (a0 a1 : Option Addr) (cap0 cap1 : Nat) (z0 z1 : List Nat) (w : World) (w0' : IsFloats .f32 w a0 z0.length cap0 z0) (w1' : IsFloats .f32 w a1 z1.length cap1 z1) (R C : Int) (b : Bool) (zs : List Nat)
    (hL : z0.length ≤ 1048576) (hL1 : z1.length ≤ 1048576) (hz : zs.length ≤ 1048576) (CS' : ∀ (a0 a1 : Option Addr) (w : World), IsFloats .f32 w a0 z0.length z0.length z0 → IsFloats .f32 w a1 z1.length z1.length z1 → Calls Try.prog 38 #[.agg #[.int .i64 r0, .int .i64 c0, .slice a0 z0.length z0.length], .slice a1 z1.length z1.length] w (RetT R C b zs w))
    (CI' : ∀ (a0 a1 : Option Addr) (w : World), IsFloats .f32 w a0 z0.length z0.length z0 → IsFloats .f32 w a1 z1.length z1.length z1 → Calls Try.prog 39 #[.agg #[.int .i64 r0, .int .i64 c0, .slice a0 z0.length z0.length], .slice a1 z1.length z1.length] w (RetT R C b zs w)) :
    Calls Try.prog 10 #[.agg #[.int .i64 r0, .int .i64 c0, .slice a0 z0.length cap0], .slice a1 z1.length cap1] w fun e w' => e = .returned (.bool true) ∧ Below w.heap.size w w' := by
  have HI0 := Lib.hid w0'
  have HZ0 := Lib.hid (show z0.length ≤ 1048576 by omega)
  have HI1 := Lib.hid w1'
  have HZ1 := Lib.hid (show z1.length ≤ 1048576 by omega)
  have CS := Lib.hid CS'
  have CI := Lib.hid CI'
  have hs0 : z0.length ≤ 1048576 := by omega
  have hs1 : z1.length ≤ 1048576 := by omega
  clear w0' w1' CS' CI'
  obtain ⟨l0, hl0⟩ : ∃ l, 1048576 - z0.length = l := ⟨_, rfl⟩
  have hl0' : l0 ≤ 1048576 := by omega
  have HQ0 := Lib.hid (show z0.length ≤ 1048576 by omega)
  have HE0 := Lib.hid hl0
  have hp0 : (0 : Int) ≤ (l0 : Int) := by omega
  clear hl0
  obtain ⟨m0, hm0⟩ : ∃ m, 1 + z0.length = m := ⟨_, rfl⟩
  obtain ⟨m1, hm1⟩ : ∃ m, m0 + z1.length = m := ⟨_, rfl⟩
  have hm0' : m0 ≤ 4194304 := by omega
  have hn0' : (0 : Int) ≤ (m0 : Int) := by omega
  have hm1' : m1 ≤ 4194304 := by omega
  have hn1' : (0 : Int) ≤ (m1 : Int) := by omega
  have HM0 := Lib.hid hm0
  have HM1 := Lib.hid hm1
  clear hm1 hm0
  go_enter Try.func10, Try.ntmps10
  go_wp2_with fail
  have B_0 := Lib.hid (Below.refl w.heap.size w)
  have bl := (Below.refl (w).heap.size (w)).alloc (Nat.le_refl _) (.cells #[.int .i64 r0, .int .i64 c0, .slice a0 z0.length cap0] 33)
  have K0_1 := Lib.hid (Blk.new (w) 33 #[.int .i64 r0, .int .i64 c0, .slice a0 z0.length cap0])
  have B_1 := Lib.hid (Below.next B_0.out bl)
  clear B_0
  clear bl
  generalize (w).alloc (.cells #[.int .i64 r0, .int .i64 c0, .slice a0 z0.length cap0] 33) = w1 at B_1 K0_1 ⊢
  refine (c_szTensor' r0 c0 _ _ _ _ _ _ HQ0.out (Nat.le_refl _) HE0.out).mono ?_
  rintro e w2 ⟨rfl, bl⟩
  have B_2 := Lib.hid (Below.next B_1.out bl)
  clear B_1
  have K0_2 := Lib.hid (K0_1.out.below bl)
  clear K0_1
  clear bl
  obtain ⟨pK00, pK01, pK02, pK03⟩ := tb K0_2.out
  go_wp2_with fail
  clear pK00 pK01 pK02 pK03
  refine (c_toTensor r0 c0 _ _ _ z0 _ (HI0.out.kept B_2.out) HZ0.out).mono ?_
  rintro e w3 ⟨bT0, rfl, hf, bl⟩
  have T0_3 := Lib.hid (hf.base B_2.out.size)
  have B_3 := Lib.hid (Below.next B_2.out bl)
  clear B_2
  have K0_3 := Lib.hid (K0_2.out.below bl)
  clear K0_2
  clear bl
  clear hf
  obtain ⟨pK00, pK01, pK02, pK03⟩ := tb K0_3.out
  go_wp2_with fail
  clear pK00 pK01 pK02 pK03
  refine (c_toFloats _ _ _ z1 _ (HI1.out.kept B_3.out) HZ1.out).mono ?_
  rintro e w4 ⟨bT1, rfl, hf, bl⟩
  have T1_4 := Lib.hid (hf.base B_3.out.size)
  have B_4 := Lib.hid (Below.next B_3.out bl)
  clear B_3
  have K0_4 := Lib.hid (K0_3.out.below bl)
  clear K0_3
  have T0_4 := Lib.hid (T0_3.out.kept bl)
  clear T0_3
  clear bl
  clear hf
  obtain ⟨pK00, pK01, pK02, pK03⟩ := tb K0_4.out
  go_wp2_with fail
  clear pK00 pK01 pK02 pK03
  refine (CS.out _ _ _ T0_4.out.isFloats T1_4.out.isFloats).mono ?_
  rintro e w5 ⟨bS, capS, yS, rfl, hf, hyS, bl⟩
  have HYS := Lib.hid hyS
  clear hyS
  have S_5 := Lib.hid (hf.base B_4.out.size)
  have B_5 := Lib.hid (Below.next B_4.out bl)
  clear B_4
  have K0_5 := Lib.hid (K0_4.out.below bl)
  clear K0_4
  have T0_5 := Lib.hid (T0_4.out.kept bl)
  clear T0_4
  have T1_5 := Lib.hid (T1_4.out.kept bl)
  clear T1_4
  clear bl hf
  clear T0_5
  clear T1_5
  obtain ⟨pK00, pK01, pK02, pK03⟩ := tb K0_5.out
  go_wp2_with fail
  clear pK00 pK01 pK02 pK03
  have bl := (Below.refl w5.heap.size w5).alloc (Nat.le_refl _) (.cells #[.int .i64 R, .int .i64 C, .slice bS yS.length capS] 36)
  have SB_6 := Lib.hid (Blk.new w5 36 #[.int .i64 R, .int .i64 C, .slice bS yS.length capS])
  have B_6 := Lib.hid (Below.next B_5.out bl)
  clear B_5
  have K0_6 := Lib.hid (K0_5.out.below bl)
  clear K0_5
  have S_6 := Lib.hid (S_5.out.kept bl)
  clear S_5
  clear bl
  generalize w5.alloc (.cells #[.int .i64 R, .int .i64 C, .slice bS yS.length capS] 36) = w6 at B_6 K0_6 S_6 SB_6 ⊢
  obtain ⟨pK00, pK01, pK02, pK03⟩ := tb K0_6.out
  obtain ⟨pSB0, pSB1, pSB2, pSB3⟩ := tb SB_6.out
  try go_wp2_with fail
  clear pK00 pK01 pK02 pK03 pSB0 pSB1 pSB2 pSB3
  refine (c_toTensor r0 c0 _ _ _ z0 _ (HI0.out.kept B_6.out) HZ0.out).mono ?_
  rintro e w7 ⟨bX0, rfl, hf, bl⟩
  have NSX0 := Lib.hid (OwnF.new_apart S_6.out hf)
  have X0_7 := Lib.hid (hf.base B_6.out.size)
  have B_7 := Lib.hid (Below.next B_6.out bl)
  clear B_6
  have K0_7 := Lib.hid (K0_6.out.below bl)
  clear K0_6
  have S_7 := Lib.hid (S_6.out.kept bl)
  clear S_6
  have SB_7 := Lib.hid (SB_6.out.below bl)
  clear SB_6
  clear bl
  clear hf
  obtain ⟨pK00, pK01, pK02, pK03⟩ := tb K0_7.out
  obtain ⟨pSB0, pSB1, pSB2, pSB3⟩ := tb SB_7.out
  go_wp2_with fail
  clear pK00 pK01 pK02 pK03 pSB0 pSB1 pSB2 pSB3
  have bl := (Below.refl w7.heap.size w7).alloc (Nat.le_refl _) (.cells #[.int .i64 r0, .int .i64 c0, .slice bX0 z0.length z0.length] 36)
  have XB0_8 := Lib.hid (Blk.new w7 36 #[.int .i64 r0, .int .i64 c0, .slice bX0 z0.length z0.length])
  have B_8 := Lib.hid (Below.next B_7.out bl)
  clear B_7
  have K0_8 := Lib.hid (K0_7.out.below bl)
  clear K0_7
  have S_8 := Lib.hid (S_7.out.kept bl)
  clear S_7
  have SB_8 := Lib.hid (SB_7.out.below bl)
  clear SB_7
  have X0_8 := Lib.hid (X0_7.out.kept bl)
  clear X0_7
  clear bl
  generalize w7.alloc (.cells #[.int .i64 r0, .int .i64 c0, .slice bX0 z0.length z0.length] 36) = w8 at B_8 K0_8 S_8 SB_8 X0_8 XB0_8 ⊢
  obtain ⟨pK00, pK01, pK02, pK03⟩ := tb K0_8.out
  obtain ⟨pSB0, pSB1, pSB2, pSB3⟩ := tb SB_8.out
  obtain ⟨pXB00, pXB01, pXB02, pXB03⟩ := tb XB0_8.out
  try go_wp2_with fail
  clear pK00 pK01 pK02 pK03 pSB0 pSB1 pSB2 pSB3 pXB00 pXB01 pXB02 pXB03
  refine (c_toFloats _ _ _ z1 _ (HI1.out.kept B_8.out) HZ1.out).mono ?_
  rintro e w9 ⟨bX1, rfl, hf, bl⟩
  have NSX1 := Lib.hid (OwnF.new_apart S_8.out hf)
  have NXX0_1 := Lib.hid (OwnF.new_apart X0_8.out hf)
  have X1_9 := Lib.hid (hf.base B_8.out.size)
  have B_9 := Lib.hid (Below.next B_8.out bl)
  clear B_8
  have K0_9 := Lib.hid (K0_8.out.below bl)
  clear K0_8
  have S_9 := Lib.hid (S_8.out.kept bl)
  clear S_8
  have SB_9 := Lib.hid (SB_8.out.below bl)
  clear SB_8
  have X0_9 := Lib.hid (X0_8.out.kept bl)
  clear X0_8
  have XB0_9 := Lib.hid (XB0_8.out.below bl)
  clear XB0_8
  clear bl
  clear hf
  obtain ⟨pK00, pK01, pK02, pK03⟩ := tb K0_9.out
  obtain ⟨pSB0, pSB1, pSB2, pSB3⟩ := tb SB_9.out
  obtain ⟨pXB00, pXB01, pXB02, pXB03⟩ := tb XB0_9.out
  go_wp2_with fail
  clear pK00 pK01 pK02 pK03 pSB0 pSB1 pSB2 pSB3 pXB00 pXB01 pXB02 pXB03
  refine (CI.out _ _ _ X0_9.out.isFloats X1_9.out.isFloats).mono ?_
  rintro e w10 ⟨bG, capG, yG, rfl, hf, hyG, bl⟩
  have HYG := Lib.hid hyG
  clear hyG
  have NX0 := Lib.hid (OwnF.new_apart X0_9.out hf)
  have NX1 := Lib.hid (OwnF.new_apart X1_9.out hf)
  have NS := Lib.hid (OwnF.new_apart S_9.out hf)
  have LG := Lib.hid (hf.lenle HYG.out hz)
  have BG := Lib.hid (hf.base B_9.out.size)
  have G_10 := Lib.hid (hf.base B_9.out.size)
  have B_10 := Lib.hid (Below.next B_9.out bl)
  clear B_9
  have K0_10 := Lib.hid (K0_9.out.below bl)
  clear K0_9
  have S_10 := Lib.hid (S_9.out.kept bl)
  clear S_9
  have SB_10 := Lib.hid (SB_9.out.below bl)
  clear SB_9
  have X0_10 := Lib.hid (X0_9.out.kept bl)
  clear X0_9
  have XB0_10 := Lib.hid (XB0_9.out.below bl)
  clear XB0_9
  have X1_10 := Lib.hid (X1_9.out.kept bl)
  clear X1_9
  clear bl hf
  obtain ⟨pK00, pK01, pK02, pK03⟩ := tb K0_10.out
  obtain ⟨pSB0, pSB1, pSB2, pSB3⟩ := tb SB_10.out
  obtain ⟨pXB00, pXB01, pXB02, pXB03⟩ := tb XB0_10.out
  go_wp2_with fail
  clear pK00 pK01 pK02 pK03 pSB0 pSB1 pSB2 pSB3 pXB00 pXB01 pXB02 pXB03
  have bl := (Below.refl w10.heap.size w10).alloc (Nat.le_refl _) (.cells #[.int .i64 R, .int .i64 C, .slice bG yG.length capG] 36)
  have GB_11 := Lib.hid (Blk.new w10 36 #[.int .i64 R, .int .i64 C, .slice bG yG.length capG])
  have B_11 := Lib.hid (Below.next B_10.out bl)
  clear B_10
  have K0_11 := Lib.hid (K0_10.out.below bl)
  clear K0_10
  have S_11 := Lib.hid (S_10.out.kept bl)
  clear S_10
  have SB_11 := Lib.hid (SB_10.out.below bl)
  clear SB_10
  have X0_11 := Lib.hid (X0_10.out.kept bl)
  clear X0_10
  have XB0_11 := Lib.hid (XB0_10.out.below bl)
  clear XB0_10
  have X1_11 := Lib.hid (X1_10.out.kept bl)
  clear X1_10
  have G_11 := Lib.hid (G_10.out.kept bl)
  clear G_10
  clear bl
  generalize w10.alloc (.cells #[.int .i64 R, .int .i64 C, .slice bG yG.length capG] 36) = w11 at B_11 K0_11 S_11 SB_11 X0_11 XB0_11 X1_11 G_11 GB_11 ⊢
  obtain ⟨pK00, pK01, pK02, pK03⟩ := tb K0_11.out
  obtain ⟨pSB0, pSB1, pSB2, pSB3⟩ := tb SB_11.out
  obtain ⟨pXB00, pXB01, pXB02, pXB03⟩ := tb XB0_11.out
  obtain ⟨pGB0, pGB1, pGB2, pGB3⟩ := tb GB_11.out
  try go_wp2_with fail
  clear pK00 pK01 pK02 pK03 pSB0 pSB1 pSB2 pSB3 pXB00 pXB01 pXB02 pXB03 pGB0 pGB1 pGB2 pGB3
  refine (c_eqTensor R C _ _ _ _ yG yS _ G_11.out.isFloats S_11.out.isFloats (HYG.out.trans HYS.out.symm)).mono ?_
  rintro e w12 ⟨rfl, bl⟩
  have B_12 := Lib.hid (Below.next B_11.out bl)
  clear B_11
  have K0_12 := Lib.hid (K0_11.out.below bl)
  clear K0_11
  have S_12 := Lib.hid (S_11.out.kept bl)
  clear S_11
  have SB_12 := Lib.hid (SB_11.out.below bl)
  clear SB_11
  have X0_12 := Lib.hid (X0_11.out.kept bl)
  clear X0_11
  have XB0_12 := Lib.hid (XB0_11.out.below bl)
  clear XB0_11
  have X1_12 := Lib.hid (X1_11.out.kept bl)
  clear X1_11
  have G_12 := Lib.hid (G_11.out.kept bl)
  clear G_11
  have GB_12 := Lib.hid (GB_11.out.below bl)
  clear GB_11
  clear bl
  obtain ⟨pK00, pK01, pK02, pK03⟩ := tb K0_12.out
  obtain ⟨pSB0, pSB1, pSB2, pSB3⟩ := tb SB_12.out
  obtain ⟨pXB00, pXB01, pXB02, pXB03⟩ := tb XB0_12.out
  obtain ⟨pGB0, pGB1, pGB2, pGB3⟩ := tb GB_12.out
  go_wp2_with fail
  clear pK00 pK01 pK02 pK03 pSB0 pSB1 pSB2 pSB3 pXB00 pXB01 pXB02 pXB03 pGB0 pGB1 pGB2 pGB3
  have bl : Below w12.heap.size w12 w12.drew := (Below.refl _ _).drew
  have B_13 := Lib.hid (Below.next B_12.out bl)
  clear B_12
  have K0_13 := Lib.hid (K0_12.out.below bl)
  clear K0_12
  have S_13 := Lib.hid (S_12.out.kept bl)
  clear S_12
  have SB_13 := Lib.hid (SB_12.out.below bl)
  clear SB_12
  have X0_13 := Lib.hid (X0_12.out.kept bl)
  clear X0_12
  have XB0_13 := Lib.hid (XB0_12.out.below bl)
  clear XB0_12
  have X1_13 := Lib.hid (X1_12.out.kept bl)
  clear X1_12
  have G_13 := Lib.hid (G_12.out.kept bl)
  clear G_12
  have GB_13 := Lib.hid (GB_12.out.below bl)
  clear GB_12
  clear bl
  obtain ⟨pK00, pK01, pK02, pK03⟩ := tb K0_13.out
  obtain ⟨pSB0, pSB1, pSB2, pSB3⟩ := tb SB_13.out
  obtain ⟨pXB00, pXB01, pXB02, pXB03⟩ := tb XB0_13.out
  obtain ⟨pGB0, pGB1, pGB2, pGB3⟩ := tb GB_13.out
  go_region_held3 (fun w' => w'.cell? ⟨w.heap.size, 0, none⟩ = some (.int .i64 r0) ∧ w'.cell? ⟨w.heap.size, 1, none⟩ = some (.int .i64 c0) ∧ w'.cell? ⟨w.heap.size, 2, none⟩ = some (.slice a0 z0.length cap0) ∧ w'.cell? ⟨w5.heap.size, 0, none⟩ = some (.int .i64 R) ∧ w'.cell? ⟨w5.heap.size, 1, none⟩ = some (.int .i64 C) ∧ w'.cell? ⟨w5.heap.size, 2, none⟩ = some (.slice bS yS.length capS) ∧ w'.cell? ⟨w7.heap.size, 0, none⟩ = some (.int .i64 r0) ∧ w'.cell? ⟨w7.heap.size, 1, none⟩ = some (.int .i64 c0) ∧ w'.cell? ⟨w7.heap.size, 2, none⟩ = some (.slice bX0 z0.length z0.length) ∧ w'.cell? ⟨w10.heap.size, 0, none⟩ = some (.int .i64 R) ∧ w'.cell? ⟨w10.heap.size, 1, none⟩ = some (.int .i64 C) ∧ w'.cell? ⟨w10.heap.size, 2, none⟩ = some (.slice bG yG.length capG)) (go_keep)
    (first
      | (go_at_call 24
         clear pK00 pK01 pK02 pK03 pSB0 pSB1 pSB2 pSB3 pXB00 pXB01 pXB02 pXB03 pGB0 pGB1 pGB2 pGB3
         refine (c_toTensor r0 c0 _ _ _ z0 _ (HI0.out.kept B_13.out) HZ0.out).mono ?_
         rintro e w14 ⟨bY0, rfl, hf, bl⟩
         have Y0_14 := Lib.hid (hf.base B_13.out.size)
         have B_14 := Lib.hid (Below.next B_13.out bl)
         clear B_13
         have K0_14 := Lib.hid (K0_13.out.below bl)
         clear K0_13
         have S_14 := Lib.hid (S_13.out.kept bl)
         clear S_13
         have SB_14 := Lib.hid (SB_13.out.below bl)
         clear SB_13
         have X0_14 := Lib.hid (X0_13.out.kept bl)
         clear X0_13
         have XB0_14 := Lib.hid (XB0_13.out.below bl)
         clear XB0_13
         have X1_14 := Lib.hid (X1_13.out.kept bl)
         clear X1_13
         have G_14 := Lib.hid (G_13.out.kept bl)
         clear G_13
         have GB_14 := Lib.hid (GB_13.out.below bl)
         clear GB_13
         clear bl
         clear hf
         obtain ⟨pK00, pK01, pK02, pK03⟩ := tb K0_14.out
         obtain ⟨pSB0, pSB1, pSB2, pSB3⟩ := tb SB_14.out
         obtain ⟨pXB00, pXB01, pXB02, pXB03⟩ := tb XB0_14.out
         obtain ⟨pGB0, pGB1, pGB2, pGB3⟩ := tb GB_14.out)
      | (go_at_call 26
         clear pK00 pK01 pK02 pK03 pSB0 pSB1 pSB2 pSB3 pXB00 pXB01 pXB02 pXB03 pGB0 pGB1 pGB2 pGB3
         refine (c_eqTensor r0 c0 _ _ _ _ z0 z0 _ X0_14.out.isFloats Y0_14.out.isFloats rfl).mono ?_
         rintro e w15 ⟨rfl, bl⟩
         have B_15 := Lib.hid (Below.next B_14.out bl)
         clear B_14
         have K0_15 := Lib.hid (K0_14.out.below bl)
         clear K0_14
         have S_15 := Lib.hid (S_14.out.kept bl)
         clear S_14
         have SB_15 := Lib.hid (SB_14.out.below bl)
         clear SB_14
         have X0_15 := Lib.hid (X0_14.out.kept bl)
         clear X0_14
         have XB0_15 := Lib.hid (XB0_14.out.below bl)
         clear XB0_14
         have X1_15 := Lib.hid (X1_14.out.kept bl)
         clear X1_14
         have G_15 := Lib.hid (G_14.out.kept bl)
         clear G_14
         have GB_15 := Lib.hid (GB_14.out.below bl)
         clear GB_14
         have Y0_15 := Lib.hid (Y0_14.out.kept bl)
         clear Y0_14
         clear bl
         obtain ⟨pK00, pK01, pK02, pK03⟩ := tb K0_15.out
         obtain ⟨pSB0, pSB1, pSB2, pSB3⟩ := tb SB_15.out
         obtain ⟨pXB00, pXB01, pXB02, pXB03⟩ := tb XB0_15.out
         obtain ⟨pGB0, pGB1, pGB2, pGB3⟩ := tb GB_15.out))
  clear pK00 pK01 pK02 pK03 pSB0 pSB1 pSB2 pSB3 pXB00 pXB01 pXB02 pXB03 pGB0 pGB1 pGB2 pGB3
  clear Y0_15
  obtain ⟨pK00, pK01, pK02, pK03⟩ := tb K0_15.out
  obtain ⟨pSB0, pSB1, pSB2, pSB3⟩ := tb SB_15.out
  obtain ⟨pXB00, pXB01, pXB02, pXB03⟩ := tb XB0_15.out
  obtain ⟨pGB0, pGB1, pGB2, pGB3⟩ := tb GB_15.out
  go_wp2_with fail
  clear pK00 pK01 pK02 pK03 pSB0 pSB1 pSB2 pSB3 pXB00 pXB01 pXB02 pXB03 pGB0 pGB1 pGB2 pGB3
  refine (c_toFloats _ _ _ z1 _ (HI1.out.kept B_15.out) HZ1.out).mono ?_
  rintro e w16 ⟨bY1, rfl, hf, bl⟩
  have Y1_16 := Lib.hid (hf.base B_15.out.size)
  have B_16 := Lib.hid (Below.next B_15.out bl)
  clear B_15
  have K0_16 := Lib.hid (K0_15.out.below bl)
  clear K0_15
  have S_16 := Lib.hid (S_15.out.kept bl)
  clear S_15
  have SB_16 := Lib.hid (SB_15.out.below bl)
  clear SB_15
  have X0_16 := Lib.hid (X0_15.out.kept bl)
  clear X0_15
  have XB0_16 := Lib.hid (XB0_15.out.below bl)
  clear XB0_15
  have X1_16 := Lib.hid (X1_15.out.kept bl)
  clear X1_15
  have G_16 := Lib.hid (G_15.out.kept bl)
  clear G_15
  have GB_16 := Lib.hid (GB_15.out.below bl)
  clear GB_15
  clear bl
  clear hf
  obtain ⟨pK00, pK01, pK02, pK03⟩ := tb K0_16.out
  obtain ⟨pSB0, pSB1, pSB2, pSB3⟩ := tb SB_16.out
  obtain ⟨pXB00, pXB01, pXB02, pXB03⟩ := tb XB0_16.out
  obtain ⟨pGB0, pGB1, pGB2, pGB3⟩ := tb GB_16.out
  go_wp2_with fail
  clear pK00 pK01 pK02 pK03 pSB0 pSB1 pSB2 pSB3 pXB00 pXB01 pXB02 pXB03 pGB0 pGB1 pGB2 pGB3
  refine (c_eqFloats _ _ _ _ z1 z1 _ X1_16.out.isFloats Y1_16.out.isFloats rfl).mono ?_
  rintro e w17 ⟨rfl, dn⟩
  have bl := dn.below
  clear dn
  have B_17 := Lib.hid (Below.next B_16.out bl)
  clear B_16
  have K0_17 := Lib.hid (K0_16.out.below bl)
  clear K0_16
  have S_17 := Lib.hid (S_16.out.kept bl)
  clear S_16
  have SB_17 := Lib.hid (SB_16.out.below bl)
  clear SB_16
  have X0_17 := Lib.hid (X0_16.out.kept bl)
  clear X0_16
  have XB0_17 := Lib.hid (XB0_16.out.below bl)
  clear XB0_16
  have X1_17 := Lib.hid (X1_16.out.kept bl)
  clear X1_16
  have G_17 := Lib.hid (G_16.out.kept bl)
  clear G_16
  have GB_17 := Lib.hid (GB_16.out.below bl)
  clear GB_16
  have Y1_17 := Lib.hid (Y1_16.out.kept bl)
  clear Y1_16
  clear bl
  clear Y1_17
  obtain ⟨pK00, pK01, pK02, pK03⟩ := tb K0_17.out
  obtain ⟨pSB0, pSB1, pSB2, pSB3⟩ := tb SB_17.out
  obtain ⟨pXB00, pXB01, pXB02, pXB03⟩ := tb XB0_17.out
  obtain ⟨pGB0, pGB1, pGB2, pGB3⟩ := tb GB_17.out
  go_wp2_with fail
  clear pK00 pK01 pK02 pK03 pSB0 pSB1 pSB2 pSB3 pXB00 pXB01 pXB02 pXB03 pGB0 pGB1 pGB2 pGB3
  refine (c_markTensor' r0 c0 _ _ _ 1 m0 z0 _ X0_17.out HM0.out (by decide) HZ0.out).mono ?_
  rintro e w18 ⟨rfl, ho, hg⟩
  have B_18 := Lib.hid (Below.grownBy B_17.out hg B_17.out.size (fun g h => (X0_17.out.lt g h).1))
  have K0_18 := Lib.hid (K0_17.out.apart hg X0_17.out (by decide))
  have S_18 := Lib.hid (S_17.out.apart hg NSX0.out)
  have SB_18 := Lib.hid (SB_17.out.apart hg X0_17.out (by decide))
  have X0_18 := Lib.hid (ho)
  have XB0_18 := Lib.hid (XB0_17.out.apart hg X0_17.out (by decide))
  have X1_18 := Lib.hid (X1_17.out.apart hg (fun g h h' => NXX0_1.out g h' h))
  have G_18 := Lib.hid (G_17.out.apart hg (fun g h h' => NX0.out g h' h))
  have GB_18 := Lib.hid (GB_17.out.apart hg X0_17.out (by decide))
  clear B_17
  clear K0_17
  clear S_17
  clear SB_17
  clear X0_17
  clear XB0_17
  clear X1_17
  clear G_17
  clear GB_17
  clear ho hg
  obtain ⟨pK00, pK01, pK02, pK03⟩ := tb K0_18.out
  obtain ⟨pSB0, pSB1, pSB2, pSB3⟩ := tb SB_18.out
  obtain ⟨pXB00, pXB01, pXB02, pXB03⟩ := tb XB0_18.out
  obtain ⟨pGB0, pGB1, pGB2, pGB3⟩ := tb GB_18.out
  go_wp2_with fail
  clear pK00 pK01 pK02 pK03 pSB0 pSB1 pSB2 pSB3 pXB00 pXB01 pXB02 pXB03 pGB0 pGB1 pGB2 pGB3
  refine (c_markFloats' _ _ _ m0 m1 z1 _ X1_18.out HM1.out hm0' HZ1.out).mono ?_
  rintro e w19 ⟨rfl, ho, hg⟩
  have B_19 := Lib.hid (Below.grownBy B_18.out hg B_18.out.size (fun g h => (X1_18.out.lt g h).1))
  have K0_19 := Lib.hid (K0_18.out.apart hg X1_18.out (by decide))
  have S_19 := Lib.hid (S_18.out.apart hg NSX1.out)
  have SB_19 := Lib.hid (SB_18.out.apart hg X1_18.out (by decide))
  have X0_19 := Lib.hid (X0_18.out.apart hg NXX0_1.out)
  have XB0_19 := Lib.hid (XB0_18.out.apart hg X1_18.out (by decide))
  have X1_19 := Lib.hid (ho)
  have G_19 := Lib.hid (G_18.out.apart hg (fun g h h' => NX1.out g h' h))
  have GB_19 := Lib.hid (GB_18.out.apart hg X1_18.out (by decide))
  clear B_18
  clear K0_18
  clear S_18
  clear SB_18
  clear X0_18
  clear XB0_18
  clear X1_18
  clear G_18
  clear GB_18
  clear ho hg
  clear X0_19
  clear X1_19
  obtain ⟨pK00, pK01, pK02, pK03⟩ := tb K0_19.out
  obtain ⟨pSB0, pSB1, pSB2, pSB3⟩ := tb SB_19.out
  obtain ⟨pXB00, pXB01, pXB02, pXB03⟩ := tb XB0_19.out
  obtain ⟨pGB0, pGB1, pGB2, pGB3⟩ := tb GB_19.out
  go_wp2_with fail
  clear pK00 pK01 pK02 pK03 pSB0 pSB1 pSB2 pSB3 pXB00 pXB01 pXB02 pXB03 pGB0 pGB1 pGB2 pGB3
  refine (c_eqTensor R C _ _ _ _ yG yS _ G_19.out.isFloats S_19.out.isFloats (HYG.out.trans HYS.out.symm)).mono ?_
  rintro e w20 ⟨rfl, bl⟩
  have B_20 := Lib.hid (Below.next B_19.out bl)
  clear B_19
  have K0_20 := Lib.hid (K0_19.out.below bl)
  clear K0_19
  have S_20 := Lib.hid (S_19.out.kept bl)
  clear S_19
  have SB_20 := Lib.hid (SB_19.out.below bl)
  clear SB_19
  have XB0_20 := Lib.hid (XB0_19.out.below bl)
  clear XB0_19
  have G_20 := Lib.hid (G_19.out.kept bl)
  clear G_19
  have GB_20 := Lib.hid (GB_19.out.below bl)
  clear GB_19
  clear bl
  clear XB0_20
  obtain ⟨pK00, pK01, pK02, pK03⟩ := tb K0_20.out
  obtain ⟨pSB0, pSB1, pSB2, pSB3⟩ := tb SB_20.out
  obtain ⟨pGB0, pGB1, pGB2, pGB3⟩ := tb GB_20.out
  go_wp2_with fail
  clear pK00 pK01 pK02 pK03 pSB0 pSB1 pSB2 pSB3 pGB0 pGB1 pGB2 pGB3
  obtain ⟨q, hq⟩ : ∃ q, 1 + yG.length = q := ⟨_, rfl⟩
  have HQ := Lib.hid hq
  have hq' : q ≤ 4194304 := by have := LG.out; omega
  have hq0 : (0 : Int) ≤ (q : Int) := by omega
  clear hq
  refine (c_markTensor' R C _ _ _ 1 q yG _ G_20.out HQ.out (by decide) LG.out).mono ?_
  rintro e w21 ⟨rfl, ho, hg⟩
  have B_21 := Lib.hid (Below.grownBy B_20.out hg B_20.out.size (fun g h => (G_20.out.lt g h).1))
  have K0_21 := Lib.hid (K0_20.out.apart hg G_20.out (by decide))
  have S_21 := Lib.hid (S_20.out.apart hg NS.out)
  have SB_21 := Lib.hid (SB_20.out.apart hg G_20.out (by decide))
  have G_21 := Lib.hid (ho)
  have GB_21 := Lib.hid (GB_20.out.apart hg G_20.out (by decide))
  clear B_20
  clear K0_20
  clear S_20
  clear SB_20
  clear G_20
  clear GB_20
  clear ho hg
  obtain ⟨pK00, pK01, pK02, pK03⟩ := tb K0_21.out
  obtain ⟨pSB0, pSB1, pSB2, pSB3⟩ := tb SB_21.out
  obtain ⟨pGB0, pGB1, pGB2, pGB3⟩ := tb GB_21.out
  go_wp2_with fail
  clear pK00 pK01 pK02 pK03 pSB0 pSB1 pSB2 pSB3 pGB0 pGB1 pGB2 pGB3
  refine (c_heldTensor' R C _ _ 1 q yG.length _ G_21.out.held HQ.out (by decide) LG.out).mono ?_
  rintro e w22 ⟨rfl, bl⟩
  have B_22 := Lib.hid (Below.next B_21.out bl)
  clear B_21
  have K0_22 := Lib.hid (K0_21.out.below bl)
  clear K0_21
  have S_22 := Lib.hid (S_21.out.kept bl)
  clear S_21
  have SB_22 := Lib.hid (SB_21.out.below bl)
  clear SB_21
  have G_22 := Lib.hid (G_21.out.kept bl)
  clear G_21
  have GB_22 := Lib.hid (GB_21.out.below bl)
  clear GB_21
  clear bl
  obtain ⟨pK00, pK01, pK02, pK03⟩ := tb K0_22.out
  obtain ⟨pSB0, pSB1, pSB2, pSB3⟩ := tb SB_22.out
  obtain ⟨pGB0, pGB1, pGB2, pGB3⟩ := tb GB_22.out
  go_wp2_with fail
  clear pK00 pK01 pK02 pK03 pSB0 pSB1 pSB2 pSB3 pGB0 pGB1 pGB2 pGB3
  refine (c_toTensor r0 c0 _ _ _ z0 _ (HI0.out.kept B_22.out) HZ0.out).mono ?_
  rintro e w23 ⟨bU0, rfl, hf, bl⟩
  have U0_23 := Lib.hid (hf.base B_22.out.size)
  have B_23 := Lib.hid (Below.next B_22.out bl)
  clear B_22
  have K0_23 := Lib.hid (K0_22.out.below bl)
  clear K0_22
  have S_23 := Lib.hid (S_22.out.kept bl)
  clear S_22
  have SB_23 := Lib.hid (SB_22.out.below bl)
  clear SB_22
  have G_23 := Lib.hid (G_22.out.kept bl)
  clear G_22
  have GB_23 := Lib.hid (GB_22.out.below bl)
  clear GB_22
  clear bl
  clear hf
  obtain ⟨pK00, pK01, pK02, pK03⟩ := tb K0_23.out
  obtain ⟨pSB0, pSB1, pSB2, pSB3⟩ := tb SB_23.out
  obtain ⟨pGB0, pGB1, pGB2, pGB3⟩ := tb GB_23.out
  go_wp2_with fail
  clear pK00 pK01 pK02 pK03 pSB0 pSB1 pSB2 pSB3 pGB0 pGB1 pGB2 pGB3
  refine (c_toFloats _ _ _ z1 _ (HI1.out.kept B_23.out) HZ1.out).mono ?_
  rintro e w24 ⟨bU1, rfl, hf, bl⟩
  have U1_24 := Lib.hid (hf.base B_23.out.size)
  have B_24 := Lib.hid (Below.next B_23.out bl)
  clear B_23
  have K0_24 := Lib.hid (K0_23.out.below bl)
  clear K0_23
  have S_24 := Lib.hid (S_23.out.kept bl)
  clear S_23
  have SB_24 := Lib.hid (SB_23.out.below bl)
  clear SB_23
  have G_24 := Lib.hid (G_23.out.kept bl)
  clear G_23
  have GB_24 := Lib.hid (GB_23.out.below bl)
  clear GB_23
  have U0_24 := Lib.hid (U0_23.out.kept bl)
  clear U0_23
  clear bl
  clear hf
  obtain ⟨pK00, pK01, pK02, pK03⟩ := tb K0_24.out
  obtain ⟨pSB0, pSB1, pSB2, pSB3⟩ := tb SB_24.out
  obtain ⟨pGB0, pGB1, pGB2, pGB3⟩ := tb GB_24.out
  go_wp2_with fail
  clear pK00 pK01 pK02 pK03 pSB0 pSB1 pSB2 pSB3 pGB0 pGB1 pGB2 pGB3
  refine (CI.out _ _ _ U0_24.out.isFloats U1_24.out.isFloats).mono ?_
  rintro e w25 ⟨bH, capH, yH, rfl, hf, hyH, bl⟩
  have HYH := Lib.hid hyH
  clear hyH
  have H_25 := Lib.hid (hf.base B_24.out.size)
  have B_25 := Lib.hid (Below.next B_24.out bl)
  clear B_24
  have K0_25 := Lib.hid (K0_24.out.below bl)
  clear K0_24
  have S_25 := Lib.hid (S_24.out.kept bl)
  clear S_24
  have SB_25 := Lib.hid (SB_24.out.below bl)
  clear SB_24
  have G_25 := Lib.hid (G_24.out.kept bl)
  clear G_24
  have GB_25 := Lib.hid (GB_24.out.below bl)
  clear GB_24
  have U0_25 := Lib.hid (U0_24.out.kept bl)
  clear U0_24
  have U1_25 := Lib.hid (U1_24.out.kept bl)
  clear U1_24
  clear bl hf
  clear U0_25
  clear U1_25
  obtain ⟨pK00, pK01, pK02, pK03⟩ := tb K0_25.out
  obtain ⟨pSB0, pSB1, pSB2, pSB3⟩ := tb SB_25.out
  obtain ⟨pGB0, pGB1, pGB2, pGB3⟩ := tb GB_25.out
  go_wp2_with fail
  clear pK00 pK01 pK02 pK03 pSB0 pSB1 pSB2 pSB3 pGB0 pGB1 pGB2 pGB3
  have bl := (Below.refl w25.heap.size w25).alloc (Nat.le_refl _) (.cells #[.int .i64 R, .int .i64 C, .slice bH yH.length capH] 36)
  have HB_26 := Lib.hid (Blk.new w25 36 #[.int .i64 R, .int .i64 C, .slice bH yH.length capH])
  have B_26 := Lib.hid (Below.next B_25.out bl)
  clear B_25
  have K0_26 := Lib.hid (K0_25.out.below bl)
  clear K0_25
  have S_26 := Lib.hid (S_25.out.kept bl)
  clear S_25
  have SB_26 := Lib.hid (SB_25.out.below bl)
  clear SB_25
  have G_26 := Lib.hid (G_25.out.kept bl)
  clear G_25
  have GB_26 := Lib.hid (GB_25.out.below bl)
  clear GB_25
  have H_26 := Lib.hid (H_25.out.kept bl)
  clear H_25
  clear bl
  generalize w25.alloc (.cells #[.int .i64 R, .int .i64 C, .slice bH yH.length capH] 36) = w26 at B_26 K0_26 S_26 SB_26 G_26 GB_26 H_26 HB_26 ⊢
  obtain ⟨pK00, pK01, pK02, pK03⟩ := tb K0_26.out
  obtain ⟨pSB0, pSB1, pSB2, pSB3⟩ := tb SB_26.out
  obtain ⟨pGB0, pGB1, pGB2, pGB3⟩ := tb GB_26.out
  obtain ⟨pHB0, pHB1, pHB2, pHB3⟩ := tb HB_26.out
  try go_wp2_with fail
  clear pK00 pK01 pK02 pK03 pSB0 pSB1 pSB2 pSB3 pGB0 pGB1 pGB2 pGB3 pHB0 pHB1 pHB2 pHB3
  refine (c_eqTensor R C _ _ _ _ yH yS _ H_26.out.isFloats S_26.out.isFloats (HYH.out.trans HYS.out.symm)).mono ?_
  rintro e w27 ⟨rfl, bl⟩
  have B_27 := Lib.hid (Below.next B_26.out bl)
  clear B_26
  have K0_27 := Lib.hid (K0_26.out.below bl)
  clear K0_26
  have S_27 := Lib.hid (S_26.out.kept bl)
  clear S_26
  have SB_27 := Lib.hid (SB_26.out.below bl)
  clear SB_26
  have G_27 := Lib.hid (G_26.out.kept bl)
  clear G_26
  have GB_27 := Lib.hid (GB_26.out.below bl)
  clear GB_26
  have H_27 := Lib.hid (H_26.out.kept bl)
  clear H_26
  have HB_27 := Lib.hid (HB_26.out.below bl)
  clear HB_26
  clear bl
  obtain ⟨pK00, pK01, pK02, pK03⟩ := tb K0_27.out
  obtain ⟨pSB0, pSB1, pSB2, pSB3⟩ := tb SB_27.out
  obtain ⟨pGB0, pGB1, pGB2, pGB3⟩ := tb GB_27.out
  obtain ⟨pHB0, pHB1, pHB2, pHB3⟩ := tb HB_27.out
  go_wp2_with fail
  clear pK00 pK01 pK02 pK03 pSB0 pSB1 pSB2 pSB3 pGB0 pGB1 pGB2 pGB3 pHB0 pHB1 pHB2 pHB3
  refine (c_heldTensor' R C _ _ 1 q yG.length _ G_27.out.held HQ.out (by decide) LG.out).mono ?_
  rintro e w28 ⟨rfl, bl⟩
  have B_28 := Lib.hid (Below.next B_27.out bl)
  clear B_27
  have K0_28 := Lib.hid (K0_27.out.below bl)
  clear K0_27
  have S_28 := Lib.hid (S_27.out.kept bl)
  clear S_27
  have SB_28 := Lib.hid (SB_27.out.below bl)
  clear SB_27
  have G_28 := Lib.hid (G_27.out.kept bl)
  clear G_27
  have GB_28 := Lib.hid (GB_27.out.below bl)
  clear GB_27
  have H_28 := Lib.hid (H_27.out.kept bl)
  clear H_27
  have HB_28 := Lib.hid (HB_27.out.below bl)
  clear HB_27
  clear bl
  obtain ⟨pK00, pK01, pK02, pK03⟩ := tb K0_28.out
  obtain ⟨pSB0, pSB1, pSB2, pSB3⟩ := tb SB_28.out
  obtain ⟨pGB0, pGB1, pGB2, pGB3⟩ := tb GB_28.out
  obtain ⟨pHB0, pHB1, pHB2, pHB3⟩ := tb HB_28.out
  go_wp2_with fail
  clear pK00 pK01 pK02 pK03 pSB0 pSB1 pSB2 pSB3 pGB0 pGB1 pGB2 pGB3 pHB0 pHB1 pHB2 pHB3
  go_ret
  exact ⟨rfl, B_28.out⟩

theorem walk (r0 c0 : Int) (a0 : Option Addr) (len0 cap0 : Nat) (z0 : List Nat) (a1 : Option Addr) (len1 cap1 : Nat) (z1 : List Nat) (w : World) (w0 : IsFloats .f32 w a0 len0 cap0 z0) (wr0 : (Lit.int .i64 r0).wf = true) (wc0 : (Lit.int .i64 c0).wf = true) (w1 : IsFloats .f32 w a1 len1 cap1 z1) :
    Calls Try.prog 10 #[.agg #[.int .i64 r0, .int .i64 c0, .slice a0 len0 cap0], .slice a1 len1 cap1] w fun e w' => e = .returned (.bool true) ∧ Below w.heap.size w w' := by
  have hn0 : len0 ≤ 9223372036854775807 := by have h1 := w0.1; have h2 := w0.2.1; unfold maxLen at h2; omega
  obtain rfl : z0.length = len0 := w0.2.2.1
  have hn1 : len1 ≤ 9223372036854775807 := by have h1 := w1.1; have h2 := w1.2.1; unfold maxLen at h2; omega
  obtain rfl : z1.length = len1 := w1.2.2.1
  by_cases hL1 : z1.length ≤ 1048576
  case neg =>
    have hq : (1048576 : Int) < (z1.length : Int) := by omega
    clear hL1
    go_enter Try.func10, Try.ntmps10
    go_wp2
    go_ret
    exact ⟨rfl, (Below.refl _ _).alloc (Nat.le_refl _) _⟩
  case pos =>
    by_cases hL0 : z0.length ≤ 1048576
    case neg =>
      have HN := Lib.hid (show 1048576 < z0.length by omega)
      have hs1 : z1.length ≤ 1048576 := hL1
      clear hL0
      go_enter Try.func10, Try.ntmps10
      go_wp2_with fail
      have bl := (Below.refl w.heap.size w).alloc (Nat.le_refl _) (.cells #[.int .i64 r0, .int .i64 c0, .slice a0 z0.length cap0] 33)
      refine (c_szTensor_no _ _ _ _ _ 1048576 _ HN.out (Nat.le_refl _) hn0).mono ?_
      rintro e w1 ⟨rfl, hb⟩
      have HB := Lib.hid (Below.next bl hb)
      clear hb bl
      go_wp2
      go_ret
      exact ⟨rfl, HB.out⟩
    case pos =>
      exact core r0 c0  a0 a1 cap0 cap1 z0 z1 w w0 w1 (vMulRow r0 c0 z0 z1).1 (vMulRow r0 c0 z0 z1).2.1 (vMulRow r0 c0 z0 z1).2.2.1 (vMulRow r0 c0 z0 z1).2.2.2 hL0 hL1 (vMulRow_len r0 c0 z0 z1) (fun a0 a1 w h0 h1 => t_sMulRow r0 c0 z0 z1 a0 a1  w h0 h1 ) (fun a0 a1 w h0 h1 => t_iMulRow r0 c0 z0 z1 a0 a1  w h0 h1 )

/-! the row's step -/
set_option maxRecDepth 100000 in
theorem lifted (os : Os) (started : os.Started) (H : Type) (enc : TypeId × Value → H) :
    ReturnsInHanded {} Try.checked os 10 .any (Rows.fnExactMulRowSpec.pre6 enc Try.prog Try.f10 Rows.fnExactMulRowRow.domain false) (Rows.fnExactMulRowSpec.post enc Try.prog Try.f10 false true false false) := by
  refine returnsInHanded_of_change (C := Try.checked) own started (by kernel_rfl) Try.func10
    (ChangeSpec.witness6 (enc := enc) (C := Try.checked) false ⟨#[], #[.agg #[.int .i64 0, .int .i64 0, .slice none 0 0], .slice none 0 0], []⟩ 8 (by kernel_rfl) (by kernel_rfl) (by kernel_rfl) (by kernel_rfl)) ?_
  intro W base args ds gs before hval0 hW hcnd _
  have hval : ∀ (j : Nat) t v, Try.f10.params[j]? = some t → args[j]? = some v → Value.okWide Try.prog W .any base t v := hval0
  have hW' := hW
  obtain ⟨p, q, hA0, hV, rfl, hfz, hnd⟩ := hW
  have hA : DataW.TrodAll enc Try.prog W 0 (fun _ => true) true Try.f10.params.toList args.toList ds p := hA0
  rw [Try.params10] at hA hval
  obtain ⟨v0, vs0, d0, ds0, p0, q0, hargs, rfl, rfl, h0, rest0⟩ := trodAll_cons hA
  obtain ⟨v1, vs1, d1, ds1, p1, q1, rfl, rfl, rfl, h1, rest1⟩ := trodAll_cons rest0
  obtain ⟨rfl, rfl, rfl⟩ := trodAll_nil rest1
  obtain rfl : args = #[v0, v1] := by cases args; simp_all
  obtain ⟨rfl, rfl⟩ := trodVars_none hV
  have k0 := h0
  have lt0 : ∀ x ∈ p0, x.block < W.heap.size := by obtain ⟨m, hm⟩ := k0; exact DataW.trod_lt m _ _ _ hm
  obtain ⟨r0, c0, a0, len0, cap0, z0, rfl, w0, wr0, wc0⟩ := open_tensor (hval 0 33 v0 rfl rfl) h0
  obtain ⟨a1, len1, cap1, rfl⟩ := okWide_slice Try.underlying22 (hval 1 22 v1 rfl rfl)
  have k1 := h1
  have lt1 : ∀ x ∈ p1, x.block < W.heap.size := by obtain ⟨m, hm⟩ := k1; exact DataW.trod_lt m _ _ _ hm
  obtain ⟨z1, w1⟩ := isFloats_of (k := .f32) Try.underlying22 Try.underlying23 (by kernel_rfl) h1
  clear hA0 hval0
  refine (walk r0 c0 a0 len0 cap0 z0 a1 len1 cap1 z1 W w0 wr0 wc0 w1).mono fun e W' ⟨he, bel⟩ => ?_
  subst he
  exact ⟨_, rfl, _, _, _, [], _, [], hW', trodAll_mk1 (shut_bool Try.underlying4 _), (trodAll_cons_mk (Below.trod laidOut (by kernel_rfl) (of_decide_eq_true (by kernel_rfl)) k0 bel lt0) (trodAll_cons_mk (Below.trod laidOut (by kernel_rfl) (of_decide_eq_true (by kernel_rfl)) k1 bel lt1) trodAll_mk0)), rfl, bel.frame _, fun h => by cases h⟩

theorem over : Rows.fnExactMulRowRow.holds Try.pinned (OpenSpec.ofChange Rows.fnExactMulRowSpec) :=
  OpenClaim.holds_of_wide 10 Try.f10 rfl rfl rfl rfl rfl rfl rfl ⟨rfl, rfl, rfl, rfl, rfl⟩ rfl rfl rfl rfl rfl (by kernel_rfl) Try.func10 (by kernel_rfl)
    (of_decide_eq_true (by kernel_rfl)) (by unfold Func.isWrapper; first | (rw [if_pos (by decide +kernel)]; kernel_rfl) | (rw [if_neg (by decide +kernel)]; exact ⟨rfl, rfl⟩))
    (fun os started H enc _ => lifted os started H enc)

/-- the statement -/
theorem proved : Rows.FnExactMulRowSaid := over
end Go.Proofs.Ytaonfaeinoackaa.fnExactMulRow
