/-
  The exact law of TransposeTensor: it answers as its model, writes into no argument, and its answer owns its memory. Conditions: none.
-/
import Derived.Test.YtaonfaeinoackaaTurn
import Derived.ChangeOld
import Derived.Below
namespace Go.Proofs.Ytaonfaeinoackaa.fnExactTransposeTensor
open Go.ChangeShapes Go.WideShapes Go.ChangeAt Go.RowKit
open Go.ChangeMaps (open_string shut_string)
set_option linter.unusedVariables false

set_option maxHeartbeats 4000000 in
set_option maxRecDepth 100000 in
/-- for any contracts of the model and of the program that say the same -/
theorem core (r0 c0 : Int) (a0 : Option Addr) (cap0 : Nat) (z0 : List Nat) (w : World) (w0' : IsFloats .f32 w a0 z0.length cap0 z0) (R C : Int) (b : Bool) (zs : List Nat)
    (hL : z0.length ≤ 1048576) (hz : zs.length ≤ 1048576) (CS' : ∀ (a0 : Option Addr) (w : World), IsFloats .f32 w a0 z0.length z0.length z0 → Calls Try.prog 27 #[.agg #[.int .i64 r0, .int .i64 c0, .slice a0 z0.length z0.length]] w (RetT R C b zs w))
    (CI' : ∀ (a0 : Option Addr) (w : World), IsFloats .f32 w a0 z0.length z0.length z0 → Calls Try.prog 28 #[.agg #[.int .i64 r0, .int .i64 c0, .slice a0 z0.length z0.length]] w (RetT R C b zs w)) :
    Calls Try.prog 6 #[.agg #[.int .i64 r0, .int .i64 c0, .slice a0 z0.length cap0]] w fun e w' => e = .returned (.bool true) ∧ Below w.heap.size w w' := by
  have HI0 := Lib.hid w0'
  have HZ0 := Lib.hid (show z0.length ≤ 1048576 by omega)
  have CS := Lib.hid CS'
  have CI := Lib.hid CI'
  have hs0 : z0.length ≤ 1048576 := by omega
  clear w0' CS' CI'
  obtain ⟨l0, hl0⟩ : ∃ l, 1048576 - z0.length = l := ⟨_, rfl⟩
  have hl0' : l0 ≤ 1048576 := by omega
  have HQ0 := Lib.hid (show z0.length ≤ 1048576 by omega)
  have HE0 := Lib.hid hl0
  have hp0 : (0 : Int) ≤ (l0 : Int) := by omega
  clear hl0
  obtain ⟨m0, hm0⟩ : ∃ m, 1 + z0.length = m := ⟨_, rfl⟩
  have hm0' : m0 ≤ 4194304 := by omega
  have hn0' : (0 : Int) ≤ (m0 : Int) := by omega
  have HM0 := Lib.hid hm0
  clear hm0
  go_enter Try.func6, Try.ntmps6
  go_wp2_with fail
  have B_0 := Lib.hid (Below.refl w.heap.size w)
  have bl := (Below.refl (w).heap.size (w)).alloc (Nat.le_refl _) (.cells #[.int .i64 r0, .int .i64 c0, .slice a0 z0.length cap0] 33)
  have K0_1 := Lib.hid (Blk.new (w) 33 #[.int .i64 r0, .int .i64 c0, .slice a0 z0.length cap0])
  have B_1 := Lib.hid (Below.next B_0.out bl)
  clear B_0
  clear bl
  generalize (w).alloc (.cells #[.int .i64 r0, .int .i64 c0, .slice a0 z0.length cap0] 33) = w1 at B_1 K0_1 ⊢
  refine (c_szTensor' r0 c0 _ _ _ _ _ _ HQ0.out (Nat.le_refl _) HE0.out).mono ?_
  rintro e w2 ⟨rfl, bl⟩
  have B_2 := Lib.hid (Below.next B_1.out bl)
  clear B_1
  have K0_2 := Lib.hid (K0_1.out.below bl)
  clear K0_1
  clear bl
  obtain ⟨pK00, pK01, pK02, pK03⟩ := tb K0_2.out
  go_wp2_with fail
  clear pK00 pK01 pK02 pK03
  refine (c_toTensor r0 c0 _ _ _ z0 _ (HI0.out.kept B_2.out) HZ0.out).mono ?_
  rintro e w3 ⟨bT0, rfl, hf, bl⟩
  have T0_3 := Lib.hid (hf.base B_2.out.size)
  have B_3 := Lib.hid (Below.next B_2.out bl)
  clear B_2
  have K0_3 := Lib.hid (K0_2.out.below bl)
  clear K0_2
  clear bl
  clear hf
  obtain ⟨pK00, pK01, pK02, pK03⟩ := tb K0_3.out
  go_wp2_with fail
  clear pK00 pK01 pK02 pK03
  refine (CS.out _ _ T0_3.out.isFloats).mono ?_
  rintro e w4 ⟨bS, capS, yS, rfl, hf, hyS, bl⟩
  have HYS := Lib.hid hyS
  clear hyS
  have S_4 := Lib.hid (hf.base B_3.out.size)
  have B_4 := Lib.hid (Below.next B_3.out bl)
  clear B_3
  have K0_4 := Lib.hid (K0_3.out.below bl)
  clear K0_3
  have T0_4 := Lib.hid (T0_3.out.kept bl)
  clear T0_3
  clear bl hf
  clear T0_4
  obtain ⟨pK00, pK01, pK02, pK03⟩ := tb K0_4.out
  go_wp2_with fail
  clear pK00 pK01 pK02 pK03
  have bl := (Below.refl w4.heap.size w4).alloc (Nat.le_refl _) (.cells #[.int .i64 R, .int .i64 C, .slice bS yS.length capS] 36)
  have SB_5 := Lib.hid (Blk.new w4 36 #[.int .i64 R, .int .i64 C, .slice bS yS.length capS])
  have B_5 := Lib.hid (Below.next B_4.out bl)
  clear B_4
  have K0_5 := Lib.hid (K0_4.out.below bl)
  clear K0_4
  have S_5 := Lib.hid (S_4.out.kept bl)
  clear S_4
  clear bl
  generalize w4.alloc (.cells #[.int .i64 R, .int .i64 C, .slice bS yS.length capS] 36) = w5 at B_5 K0_5 S_5 SB_5 ⊢
  obtain ⟨pK00, pK01, pK02, pK03⟩ := tb K0_5.out
  obtain ⟨pSB0, pSB1, pSB2, pSB3⟩ := tb SB_5.out
  try go_wp2_with fail
  clear pK00 pK01 pK02 pK03 pSB0 pSB1 pSB2 pSB3
  refine (c_toTensor r0 c0 _ _ _ z0 _ (HI0.out.kept B_5.out) HZ0.out).mono ?_
  rintro e w6 ⟨bX0, rfl, hf, bl⟩
  have NSX0 := Lib.hid (lt_apart S_5.out.lt hf.lt)
  have X0_6 := Lib.hid (hf.base B_5.out.size)
  have B_6 := Lib.hid (Below.next B_5.out bl)
  clear B_5
  have K0_6 := Lib.hid (K0_5.out.below bl)
  clear K0_5
  have S_6 := Lib.hid (S_5.out.kept bl)
  clear S_5
  have SB_6 := Lib.hid (SB_5.out.below bl)
  clear SB_5
  clear bl
  clear hf
  obtain ⟨pK00, pK01, pK02, pK03⟩ := tb K0_6.out
  obtain ⟨pSB0, pSB1, pSB2, pSB3⟩ := tb SB_6.out
  go_wp2_with fail
  clear pK00 pK01 pK02 pK03 pSB0 pSB1 pSB2 pSB3
  have bl := (Below.refl w6.heap.size w6).alloc (Nat.le_refl _) (.cells #[.int .i64 r0, .int .i64 c0, .slice bX0 z0.length z0.length] 36)
  have XB0_7 := Lib.hid (Blk.new w6 36 #[.int .i64 r0, .int .i64 c0, .slice bX0 z0.length z0.length])
  have B_7 := Lib.hid (Below.next B_6.out bl)
  clear B_6
  have K0_7 := Lib.hid (K0_6.out.below bl)
  clear K0_6
  have S_7 := Lib.hid (S_6.out.kept bl)
  clear S_6
  have SB_7 := Lib.hid (SB_6.out.below bl)
  clear SB_6
  have X0_7 := Lib.hid (X0_6.out.kept bl)
  clear X0_6
  clear bl
  generalize w6.alloc (.cells #[.int .i64 r0, .int .i64 c0, .slice bX0 z0.length z0.length] 36) = w7 at B_7 K0_7 S_7 SB_7 X0_7 XB0_7 ⊢
  obtain ⟨pK00, pK01, pK02, pK03⟩ := tb K0_7.out
  obtain ⟨pSB0, pSB1, pSB2, pSB3⟩ := tb SB_7.out
  obtain ⟨pXB00, pXB01, pXB02, pXB03⟩ := tb XB0_7.out
  try go_wp2_with fail
  clear pK00 pK01 pK02 pK03 pSB0 pSB1 pSB2 pSB3 pXB00 pXB01 pXB02 pXB03
  refine (CI.out _ _ X0_7.out.isFloats).mono ?_
  rintro e w8 ⟨bG, capG, yG, rfl, hf, hyG, bl⟩
  have HYG := Lib.hid hyG
  clear hyG
  have NX0 := Lib.hid (lt_apart X0_7.out.lt hf.lt)
  have NS := Lib.hid (lt_apart S_7.out.lt hf.lt)
  have LG := Lib.hid (hf.lenle HYG.out hz)
  have BG := Lib.hid (hf.base B_7.out.size)
  have G_8 := Lib.hid (hf.base B_7.out.size)
  have B_8 := Lib.hid (Below.next B_7.out bl)
  clear B_7
  have K0_8 := Lib.hid (K0_7.out.below bl)
  clear K0_7
  have S_8 := Lib.hid (S_7.out.kept bl)
  clear S_7
  have SB_8 := Lib.hid (SB_7.out.below bl)
  clear SB_7
  have X0_8 := Lib.hid (X0_7.out.kept bl)
  clear X0_7
  have XB0_8 := Lib.hid (XB0_7.out.below bl)
  clear XB0_7
  clear bl hf
  obtain ⟨pK00, pK01, pK02, pK03⟩ := tb K0_8.out
  obtain ⟨pSB0, pSB1, pSB2, pSB3⟩ := tb SB_8.out
  obtain ⟨pXB00, pXB01, pXB02, pXB03⟩ := tb XB0_8.out
  go_wp2_with fail
  clear pK00 pK01 pK02 pK03 pSB0 pSB1 pSB2 pSB3 pXB00 pXB01 pXB02 pXB03
  have bl := (Below.refl w8.heap.size w8).alloc (Nat.le_refl _) (.cells #[.int .i64 R, .int .i64 C, .slice bG yG.length capG] 36)
  have GB_9 := Lib.hid (Blk.new w8 36 #[.int .i64 R, .int .i64 C, .slice bG yG.length capG])
  have B_9 := Lib.hid (Below.next B_8.out bl)
  clear B_8
  have K0_9 := Lib.hid (K0_8.out.below bl)
  clear K0_8
  have S_9 := Lib.hid (S_8.out.kept bl)
  clear S_8
  have SB_9 := Lib.hid (SB_8.out.below bl)
  clear SB_8
  have X0_9 := Lib.hid (X0_8.out.kept bl)
  clear X0_8
  have XB0_9 := Lib.hid (XB0_8.out.below bl)
  clear XB0_8
  have G_9 := Lib.hid (G_8.out.kept bl)
  clear G_8
  clear bl
  generalize w8.alloc (.cells #[.int .i64 R, .int .i64 C, .slice bG yG.length capG] 36) = w9 at B_9 K0_9 S_9 SB_9 X0_9 XB0_9 G_9 GB_9 ⊢
  obtain ⟨pK00, pK01, pK02, pK03⟩ := tb K0_9.out
  obtain ⟨pSB0, pSB1, pSB2, pSB3⟩ := tb SB_9.out
  obtain ⟨pXB00, pXB01, pXB02, pXB03⟩ := tb XB0_9.out
  obtain ⟨pGB0, pGB1, pGB2, pGB3⟩ := tb GB_9.out
  try go_wp2_with fail
  clear pK00 pK01 pK02 pK03 pSB0 pSB1 pSB2 pSB3 pXB00 pXB01 pXB02 pXB03 pGB0 pGB1 pGB2 pGB3
  refine (c_eqTensor R C _ _ _ _ yG yS _ G_9.out.isFloats S_9.out.isFloats (HYG.out.trans HYS.out.symm)).mono ?_
  rintro e w10 ⟨rfl, bl⟩
  have B_10 := Lib.hid (Below.next B_9.out bl)
  clear B_9
  have K0_10 := Lib.hid (K0_9.out.below bl)
  clear K0_9
  have S_10 := Lib.hid (S_9.out.kept bl)
  clear S_9
  have SB_10 := Lib.hid (SB_9.out.below bl)
  clear SB_9
  have X0_10 := Lib.hid (X0_9.out.kept bl)
  clear X0_9
  have XB0_10 := Lib.hid (XB0_9.out.below bl)
  clear XB0_9
  have G_10 := Lib.hid (G_9.out.kept bl)
  clear G_9
  have GB_10 := Lib.hid (GB_9.out.below bl)
  clear GB_9
  clear bl
  obtain ⟨pK00, pK01, pK02, pK03⟩ := tb K0_10.out
  obtain ⟨pSB0, pSB1, pSB2, pSB3⟩ := tb SB_10.out
  obtain ⟨pXB00, pXB01, pXB02, pXB03⟩ := tb XB0_10.out
  obtain ⟨pGB0, pGB1, pGB2, pGB3⟩ := tb GB_10.out
  go_wp2_with fail
  clear pK00 pK01 pK02 pK03 pSB0 pSB1 pSB2 pSB3 pXB00 pXB01 pXB02 pXB03 pGB0 pGB1 pGB2 pGB3
  have bl : Below w10.heap.size w10 w10.drew := (Below.refl _ _).drew
  have B_11 := Lib.hid (Below.next B_10.out bl)
  clear B_10
  have K0_11 := Lib.hid (K0_10.out.below bl)
  clear K0_10
  have S_11 := Lib.hid (S_10.out.kept bl)
  clear S_10
  have SB_11 := Lib.hid (SB_10.out.below bl)
  clear SB_10
  have X0_11 := Lib.hid (X0_10.out.kept bl)
  clear X0_10
  have XB0_11 := Lib.hid (XB0_10.out.below bl)
  clear XB0_10
  have G_11 := Lib.hid (G_10.out.kept bl)
  clear G_10
  have GB_11 := Lib.hid (GB_10.out.below bl)
  clear GB_10
  clear bl
  obtain ⟨pK00, pK01, pK02, pK03⟩ := tb K0_11.out
  obtain ⟨pSB0, pSB1, pSB2, pSB3⟩ := tb SB_11.out
  obtain ⟨pXB00, pXB01, pXB02, pXB03⟩ := tb XB0_11.out
  obtain ⟨pGB0, pGB1, pGB2, pGB3⟩ := tb GB_11.out
  go_region_held3 (fun w' => w'.cell? ⟨w.heap.size, 0, none⟩ = some (.int .i64 r0) ∧ w'.cell? ⟨w.heap.size, 1, none⟩ = some (.int .i64 c0) ∧ w'.cell? ⟨w.heap.size, 2, none⟩ = some (.slice a0 z0.length cap0) ∧ w'.cell? ⟨w4.heap.size, 0, none⟩ = some (.int .i64 R) ∧ w'.cell? ⟨w4.heap.size, 1, none⟩ = some (.int .i64 C) ∧ w'.cell? ⟨w4.heap.size, 2, none⟩ = some (.slice bS yS.length capS) ∧ w'.cell? ⟨w6.heap.size, 0, none⟩ = some (.int .i64 r0) ∧ w'.cell? ⟨w6.heap.size, 1, none⟩ = some (.int .i64 c0) ∧ w'.cell? ⟨w6.heap.size, 2, none⟩ = some (.slice bX0 z0.length z0.length) ∧ w'.cell? ⟨w8.heap.size, 0, none⟩ = some (.int .i64 R) ∧ w'.cell? ⟨w8.heap.size, 1, none⟩ = some (.int .i64 C) ∧ w'.cell? ⟨w8.heap.size, 2, none⟩ = some (.slice bG yG.length capG)) (go_keep)
    (first
      | (go_at_call 24
         clear pK00 pK01 pK02 pK03 pSB0 pSB1 pSB2 pSB3 pXB00 pXB01 pXB02 pXB03 pGB0 pGB1 pGB2 pGB3
         refine (c_toTensor r0 c0 _ _ _ z0 _ (HI0.out.kept B_11.out) HZ0.out).mono ?_
         rintro e w12 ⟨bY0, rfl, hf, bl⟩
         have Y0_12 := Lib.hid (hf.base B_11.out.size)
         have B_12 := Lib.hid (Below.next B_11.out bl)
         clear B_11
         have K0_12 := Lib.hid (K0_11.out.below bl)
         clear K0_11
         have S_12 := Lib.hid (S_11.out.kept bl)
         clear S_11
         have SB_12 := Lib.hid (SB_11.out.below bl)
         clear SB_11
         have X0_12 := Lib.hid (X0_11.out.kept bl)
         clear X0_11
         have XB0_12 := Lib.hid (XB0_11.out.below bl)
         clear XB0_11
         have G_12 := Lib.hid (G_11.out.kept bl)
         clear G_11
         have GB_12 := Lib.hid (GB_11.out.below bl)
         clear GB_11
         clear bl
         clear hf
         obtain ⟨pK00, pK01, pK02, pK03⟩ := tb K0_12.out
         obtain ⟨pSB0, pSB1, pSB2, pSB3⟩ := tb SB_12.out
         obtain ⟨pXB00, pXB01, pXB02, pXB03⟩ := tb XB0_12.out
         obtain ⟨pGB0, pGB1, pGB2, pGB3⟩ := tb GB_12.out)
      | (go_at_call 26
         clear pK00 pK01 pK02 pK03 pSB0 pSB1 pSB2 pSB3 pXB00 pXB01 pXB02 pXB03 pGB0 pGB1 pGB2 pGB3
         refine (c_eqTensor r0 c0 _ _ _ _ z0 z0 _ X0_12.out.isFloats Y0_12.out.isFloats rfl).mono ?_
         rintro e w13 ⟨rfl, bl⟩
         have B_13 := Lib.hid (Below.next B_12.out bl)
         clear B_12
         have K0_13 := Lib.hid (K0_12.out.below bl)
         clear K0_12
         have S_13 := Lib.hid (S_12.out.kept bl)
         clear S_12
         have SB_13 := Lib.hid (SB_12.out.below bl)
         clear SB_12
         have X0_13 := Lib.hid (X0_12.out.kept bl)
         clear X0_12
         have XB0_13 := Lib.hid (XB0_12.out.below bl)
         clear XB0_12
         have G_13 := Lib.hid (G_12.out.kept bl)
         clear G_12
         have GB_13 := Lib.hid (GB_12.out.below bl)
         clear GB_12
         have Y0_13 := Lib.hid (Y0_12.out.kept bl)
         clear Y0_12
         clear bl
         obtain ⟨pK00, pK01, pK02, pK03⟩ := tb K0_13.out
         obtain ⟨pSB0, pSB1, pSB2, pSB3⟩ := tb SB_13.out
         obtain ⟨pXB00, pXB01, pXB02, pXB03⟩ := tb XB0_13.out
         obtain ⟨pGB0, pGB1, pGB2, pGB3⟩ := tb GB_13.out))
  clear pK00 pK01 pK02 pK03 pSB0 pSB1 pSB2 pSB3 pXB00 pXB01 pXB02 pXB03 pGB0 pGB1 pGB2 pGB3
  clear Y0_13
  obtain ⟨pK00, pK01, pK02, pK03⟩ := tb K0_13.out
  obtain ⟨pSB0, pSB1, pSB2, pSB3⟩ := tb SB_13.out
  obtain ⟨pXB00, pXB01, pXB02, pXB03⟩ := tb XB0_13.out
  obtain ⟨pGB0, pGB1, pGB2, pGB3⟩ := tb GB_13.out
  go_wp2_with fail
  clear pK00 pK01 pK02 pK03 pSB0 pSB1 pSB2 pSB3 pXB00 pXB01 pXB02 pXB03 pGB0 pGB1 pGB2 pGB3
  refine (c_markTensor' r0 c0 _ _ _ 1 m0 z0 _ X0_13.out HM0.out (by decide) HZ0.out).mono ?_
  rintro e w14 ⟨rfl, ho, hg⟩
  have B_14 := Lib.hid (Below.grownBy B_13.out hg B_13.out.size (fun g h => (X0_13.out.lt g h).1))
  have K0_14 := Lib.hid (K0_13.out.apart hg X0_13.out (by decide))
  have S_14 := Lib.hid (S_13.out.apart hg NSX0.out)
  have SB_14 := Lib.hid (SB_13.out.apart hg X0_13.out (by decide))
  have X0_14 := Lib.hid (ho)
  have XB0_14 := Lib.hid (XB0_13.out.apart hg X0_13.out (by decide))
  have G_14 := Lib.hid (G_13.out.apart hg (fun g h h' => NX0.out g h' h))
  have GB_14 := Lib.hid (GB_13.out.apart hg X0_13.out (by decide))
  clear B_13
  clear K0_13
  clear S_13
  clear SB_13
  clear X0_13
  clear XB0_13
  clear G_13
  clear GB_13
  clear ho hg
  clear X0_14
  obtain ⟨pK00, pK01, pK02, pK03⟩ := tb K0_14.out
  obtain ⟨pSB0, pSB1, pSB2, pSB3⟩ := tb SB_14.out
  obtain ⟨pXB00, pXB01, pXB02, pXB03⟩ := tb XB0_14.out
  obtain ⟨pGB0, pGB1, pGB2, pGB3⟩ := tb GB_14.out
  go_wp2_with fail
  clear pK00 pK01 pK02 pK03 pSB0 pSB1 pSB2 pSB3 pXB00 pXB01 pXB02 pXB03 pGB0 pGB1 pGB2 pGB3
  refine (c_eqTensor R C _ _ _ _ yG yS _ G_14.out.isFloats S_14.out.isFloats (HYG.out.trans HYS.out.symm)).mono ?_
  rintro e w15 ⟨rfl, bl⟩
  have B_15 := Lib.hid (Below.next B_14.out bl)
  clear B_14
  have K0_15 := Lib.hid (K0_14.out.below bl)
  clear K0_14
  have S_15 := Lib.hid (S_14.out.kept bl)
  clear S_14
  have SB_15 := Lib.hid (SB_14.out.below bl)
  clear SB_14
  have XB0_15 := Lib.hid (XB0_14.out.below bl)
  clear XB0_14
  have G_15 := Lib.hid (G_14.out.kept bl)
  clear G_14
  have GB_15 := Lib.hid (GB_14.out.below bl)
  clear GB_14
  clear bl
  clear XB0_15
  obtain ⟨pK00, pK01, pK02, pK03⟩ := tb K0_15.out
  obtain ⟨pSB0, pSB1, pSB2, pSB3⟩ := tb SB_15.out
  obtain ⟨pGB0, pGB1, pGB2, pGB3⟩ := tb GB_15.out
  go_wp2_with fail
  clear pK00 pK01 pK02 pK03 pSB0 pSB1 pSB2 pSB3 pGB0 pGB1 pGB2 pGB3
  obtain ⟨q, hq⟩ : ∃ q, 1 + yG.length = q := ⟨_, rfl⟩
  have HQ := Lib.hid hq
  have hq' : q ≤ 4194304 := by have := LG.out; omega
  have hq0 : (0 : Int) ≤ (q : Int) := by omega
  clear hq
  refine (c_markTensor' R C _ _ _ 1 q yG _ G_15.out HQ.out (by decide) LG.out).mono ?_
  rintro e w16 ⟨rfl, ho, hg⟩
  have B_16 := Lib.hid (Below.grownBy B_15.out hg B_15.out.size (fun g h => (G_15.out.lt g h).1))
  have K0_16 := Lib.hid (K0_15.out.apart hg G_15.out (by decide))
  have S_16 := Lib.hid (S_15.out.apart hg NS.out)
  have SB_16 := Lib.hid (SB_15.out.apart hg G_15.out (by decide))
  have G_16 := Lib.hid (ho)
  have GB_16 := Lib.hid (GB_15.out.apart hg G_15.out (by decide))
  clear B_15
  clear K0_15
  clear S_15
  clear SB_15
  clear G_15
  clear GB_15
  clear ho hg
  obtain ⟨pK00, pK01, pK02, pK03⟩ := tb K0_16.out
  obtain ⟨pSB0, pSB1, pSB2, pSB3⟩ := tb SB_16.out
  obtain ⟨pGB0, pGB1, pGB2, pGB3⟩ := tb GB_16.out
  go_wp2_with fail
  clear pK00 pK01 pK02 pK03 pSB0 pSB1 pSB2 pSB3 pGB0 pGB1 pGB2 pGB3
  refine (c_heldTensor' R C _ _ 1 q yG.length _ G_16.out.held HQ.out (by decide) LG.out).mono ?_
  rintro e w17 ⟨rfl, bl⟩
  have B_17 := Lib.hid (Below.next B_16.out bl)
  clear B_16
  have K0_17 := Lib.hid (K0_16.out.below bl)
  clear K0_16
  have S_17 := Lib.hid (S_16.out.kept bl)
  clear S_16
  have SB_17 := Lib.hid (SB_16.out.below bl)
  clear SB_16
  have G_17 := Lib.hid (G_16.out.kept bl)
  clear G_16
  have GB_17 := Lib.hid (GB_16.out.below bl)
  clear GB_16
  clear bl
  obtain ⟨pK00, pK01, pK02, pK03⟩ := tb K0_17.out
  obtain ⟨pSB0, pSB1, pSB2, pSB3⟩ := tb SB_17.out
  obtain ⟨pGB0, pGB1, pGB2, pGB3⟩ := tb GB_17.out
  go_wp2_with fail
  clear pK00 pK01 pK02 pK03 pSB0 pSB1 pSB2 pSB3 pGB0 pGB1 pGB2 pGB3
  refine (c_toTensor r0 c0 _ _ _ z0 _ (HI0.out.kept B_17.out) HZ0.out).mono ?_
  rintro e w18 ⟨bU0, rfl, hf, bl⟩
  have U0_18 := Lib.hid (hf.base B_17.out.size)
  have B_18 := Lib.hid (Below.next B_17.out bl)
  clear B_17
  have K0_18 := Lib.hid (K0_17.out.below bl)
  clear K0_17
  have S_18 := Lib.hid (S_17.out.kept bl)
  clear S_17
  have SB_18 := Lib.hid (SB_17.out.below bl)
  clear SB_17
  have G_18 := Lib.hid (G_17.out.kept bl)
  clear G_17
  have GB_18 := Lib.hid (GB_17.out.below bl)
  clear GB_17
  clear bl
  clear hf
  obtain ⟨pK00, pK01, pK02, pK03⟩ := tb K0_18.out
  obtain ⟨pSB0, pSB1, pSB2, pSB3⟩ := tb SB_18.out
  obtain ⟨pGB0, pGB1, pGB2, pGB3⟩ := tb GB_18.out
  go_wp2_with fail
  clear pK00 pK01 pK02 pK03 pSB0 pSB1 pSB2 pSB3 pGB0 pGB1 pGB2 pGB3
  refine (CI.out _ _ U0_18.out.isFloats).mono ?_
  rintro e w19 ⟨bH, capH, yH, rfl, hf, hyH, bl⟩
  have HYH := Lib.hid hyH
  clear hyH
  have H_19 := Lib.hid (hf.base B_18.out.size)
  have B_19 := Lib.hid (Below.next B_18.out bl)
  clear B_18
  have K0_19 := Lib.hid (K0_18.out.below bl)
  clear K0_18
  have S_19 := Lib.hid (S_18.out.kept bl)
  clear S_18
  have SB_19 := Lib.hid (SB_18.out.below bl)
  clear SB_18
  have G_19 := Lib.hid (G_18.out.kept bl)
  clear G_18
  have GB_19 := Lib.hid (GB_18.out.below bl)
  clear GB_18
  have U0_19 := Lib.hid (U0_18.out.kept bl)
  clear U0_18
  clear bl hf
  clear U0_19
  obtain ⟨pK00, pK01, pK02, pK03⟩ := tb K0_19.out
  obtain ⟨pSB0, pSB1, pSB2, pSB3⟩ := tb SB_19.out
  obtain ⟨pGB0, pGB1, pGB2, pGB3⟩ := tb GB_19.out
  go_wp2_with fail
  clear pK00 pK01 pK02 pK03 pSB0 pSB1 pSB2 pSB3 pGB0 pGB1 pGB2 pGB3
  have bl := (Below.refl w19.heap.size w19).alloc (Nat.le_refl _) (.cells #[.int .i64 R, .int .i64 C, .slice bH yH.length capH] 36)
  have HB_20 := Lib.hid (Blk.new w19 36 #[.int .i64 R, .int .i64 C, .slice bH yH.length capH])
  have B_20 := Lib.hid (Below.next B_19.out bl)
  clear B_19
  have K0_20 := Lib.hid (K0_19.out.below bl)
  clear K0_19
  have S_20 := Lib.hid (S_19.out.kept bl)
  clear S_19
  have SB_20 := Lib.hid (SB_19.out.below bl)
  clear SB_19
  have G_20 := Lib.hid (G_19.out.kept bl)
  clear G_19
  have GB_20 := Lib.hid (GB_19.out.below bl)
  clear GB_19
  have H_20 := Lib.hid (H_19.out.kept bl)
  clear H_19
  clear bl
  generalize w19.alloc (.cells #[.int .i64 R, .int .i64 C, .slice bH yH.length capH] 36) = w20 at B_20 K0_20 S_20 SB_20 G_20 GB_20 H_20 HB_20 ⊢
  obtain ⟨pK00, pK01, pK02, pK03⟩ := tb K0_20.out
  obtain ⟨pSB0, pSB1, pSB2, pSB3⟩ := tb SB_20.out
  obtain ⟨pGB0, pGB1, pGB2, pGB3⟩ := tb GB_20.out
  obtain ⟨pHB0, pHB1, pHB2, pHB3⟩ := tb HB_20.out
  try go_wp2_with fail
  clear pK00 pK01 pK02 pK03 pSB0 pSB1 pSB2 pSB3 pGB0 pGB1 pGB2 pGB3 pHB0 pHB1 pHB2 pHB3
  refine (c_eqTensor R C _ _ _ _ yH yS _ H_20.out.isFloats S_20.out.isFloats (HYH.out.trans HYS.out.symm)).mono ?_
  rintro e w21 ⟨rfl, bl⟩
  have B_21 := Lib.hid (Below.next B_20.out bl)
  clear B_20
  have K0_21 := Lib.hid (K0_20.out.below bl)
  clear K0_20
  have S_21 := Lib.hid (S_20.out.kept bl)
  clear S_20
  have SB_21 := Lib.hid (SB_20.out.below bl)
  clear SB_20
  have G_21 := Lib.hid (G_20.out.kept bl)
  clear G_20
  have GB_21 := Lib.hid (GB_20.out.below bl)
  clear GB_20
  have H_21 := Lib.hid (H_20.out.kept bl)
  clear H_20
  have HB_21 := Lib.hid (HB_20.out.below bl)
  clear HB_20
  clear bl
  obtain ⟨pK00, pK01, pK02, pK03⟩ := tb K0_21.out
  obtain ⟨pSB0, pSB1, pSB2, pSB3⟩ := tb SB_21.out
  obtain ⟨pGB0, pGB1, pGB2, pGB3⟩ := tb GB_21.out
  obtain ⟨pHB0, pHB1, pHB2, pHB3⟩ := tb HB_21.out
  go_wp2_with fail
  clear pK00 pK01 pK02 pK03 pSB0 pSB1 pSB2 pSB3 pGB0 pGB1 pGB2 pGB3 pHB0 pHB1 pHB2 pHB3
  refine (c_heldTensor' R C _ _ 1 q yG.length _ G_21.out.held HQ.out (by decide) LG.out).mono ?_
  rintro e w22 ⟨rfl, bl⟩
  have B_22 := Lib.hid (Below.next B_21.out bl)
  clear B_21
  have K0_22 := Lib.hid (K0_21.out.below bl)
  clear K0_21
  have S_22 := Lib.hid (S_21.out.kept bl)
  clear S_21
  have SB_22 := Lib.hid (SB_21.out.below bl)
  clear SB_21
  have G_22 := Lib.hid (G_21.out.kept bl)
  clear G_21
  have GB_22 := Lib.hid (GB_21.out.below bl)
  clear GB_21
  have H_22 := Lib.hid (H_21.out.kept bl)
  clear H_21
  have HB_22 := Lib.hid (HB_21.out.below bl)
  clear HB_21
  clear bl
  obtain ⟨pK00, pK01, pK02, pK03⟩ := tb K0_22.out
  obtain ⟨pSB0, pSB1, pSB2, pSB3⟩ := tb SB_22.out
  obtain ⟨pGB0, pGB1, pGB2, pGB3⟩ := tb GB_22.out
  obtain ⟨pHB0, pHB1, pHB2, pHB3⟩ := tb HB_22.out
  go_wp2_with fail
  clear pK00 pK01 pK02 pK03 pSB0 pSB1 pSB2 pSB3 pGB0 pGB1 pGB2 pGB3 pHB0 pHB1 pHB2 pHB3
  go_ret
  exact ⟨rfl, B_22.out⟩

theorem walk (r0 c0 : Int) (a0 : Option Addr) (len0 cap0 : Nat) (z0 : List Nat) (w : World) (w0 : IsFloats .f32 w a0 len0 cap0 z0) (wr0 : (Lit.int .i64 r0).wf = true) (wc0 : (Lit.int .i64 c0).wf = true) :
    Calls Try.prog 6 #[.agg #[.int .i64 r0, .int .i64 c0, .slice a0 len0 cap0]] w fun e w' => e = .returned (.bool true) ∧ Below w.heap.size w w' := by
  have hn0 : len0 ≤ 9223372036854775807 := by have h1 := w0.1; have h2 := w0.2.1; unfold maxLen at h2; omega
  obtain rfl : z0.length = len0 := w0.2.2.1
  by_cases hL0 : z0.length ≤ 1048576
  case neg =>
    have HN := Lib.hid (show 1048576 < z0.length by omega)
    clear hL0
    go_enter Try.func6, Try.ntmps6
    go_wp2_with fail
    have bl := (Below.refl w.heap.size w).alloc (Nat.le_refl _) (.cells #[.int .i64 r0, .int .i64 c0, .slice a0 z0.length cap0] 33)
    refine (c_szTensor_no _ _ _ _ _ 1048576 _ HN.out (Nat.le_refl _) hn0).mono ?_
    rintro e w1 ⟨rfl, hb⟩
    have HB := Lib.hid (Below.next bl hb)
    clear hb bl
    go_wp2
    go_ret
    exact ⟨rfl, HB.out⟩
  case pos =>
    exact core r0 c0 a0 cap0 z0 w w0 (vTransposeTensor r0 c0 z0).1 (vTransposeTensor r0 c0 z0).2.1 (vTransposeTensor r0 c0 z0).2.2.1 (vTransposeTensor r0 c0 z0).2.2.2 hL0 (vTransposeTensor_len r0 c0 z0) (fun a0 w h0 => t_sTransposeTensor r0 c0 z0 a0  w h0 ) (fun a0 w h0 => t_iTransposeTensor r0 c0 z0 a0  w h0 )

/-! the row's step -/
set_option maxRecDepth 100000 in
theorem lifted (os : Os) (started : os.Started) (H : Type) (enc : TypeId × Value → H) :
    ReturnsInHanded {} Try.checked os 6 .any (Rows.fnExactTransposeTensorSpec.pre6 enc Try.prog Try.f6 Rows.fnExactTransposeTensorRow.domain false) (Rows.fnExactTransposeTensorSpec.post enc Try.prog Try.f6 false true false false) := by
  refine returnsInHanded_of_change (C := Try.checked) own started (by kernel_rfl) Try.func6
    (ChangeSpec.witness6 (enc := enc) (C := Try.checked) false ⟨#[], #[.agg #[.int .i64 0, .int .i64 0, .slice none 0 0]], []⟩ 8 (by kernel_rfl) (by kernel_rfl) (by kernel_rfl) (by kernel_rfl)) ?_
  intro W base args ds gs before hval0 hW hcnd _
  have hval : ∀ (j : Nat) t v, Try.f6.params[j]? = some t → args[j]? = some v → Value.okWide Try.prog W .any base t v := hval0
  have hW' := hW
  obtain ⟨p, q, hA0, hV, rfl, hfz, hnd⟩ := hW
  have hA : DataW.TrodAll enc Try.prog W 0 (fun _ => true) true Try.f6.params.toList args.toList ds p := hA0
  rw [Try.params6] at hA hval
  obtain ⟨v0, vs0, d0, ds0, p0, q0, hargs, rfl, rfl, h0, rest0⟩ := trodAll_cons hA
  obtain ⟨rfl, rfl, rfl⟩ := trodAll_nil rest0
  obtain rfl : args = #[v0] := by cases args; simp_all
  obtain ⟨rfl, rfl⟩ := trodVars_none hV
  have k0 := h0
  have lt0 : ∀ x ∈ p0, x.block < W.heap.size := by obtain ⟨m, hm⟩ := k0; exact DataW.trod_lt m _ _ _ hm
  obtain ⟨r0, c0, a0, len0, cap0, z0, rfl, w0, wr0, wc0⟩ := open_tensor (hval 0 33 v0 rfl rfl) h0
  clear hA0 hval0
  refine (walk r0 c0 a0 len0 cap0 z0 W w0 wr0 wc0).mono fun e W' ⟨he, bel⟩ => ?_
  subst he
  exact ⟨_, rfl, _, _, _, [], _, [], hW', trodAll_mk1 (shut_bool Try.underlying4 _), (trodAll_cons_mk (Below.trod laidOut (by kernel_rfl) (of_decide_eq_true (by kernel_rfl)) k0 bel lt0) trodAll_mk0), rfl, bel.frame _, fun h => by cases h⟩

theorem over : Rows.fnExactTransposeTensorRow.holds Try.pinned (OpenSpec.ofChange Rows.fnExactTransposeTensorSpec) :=
  OpenClaim.holds_of_wide 6 Try.f6 rfl rfl rfl rfl rfl rfl rfl ⟨rfl, rfl, rfl, rfl, rfl⟩ rfl rfl rfl rfl rfl (by kernel_rfl) Try.func6 (by kernel_rfl)
    (of_decide_eq_true (by kernel_rfl)) (by unfold Func.isWrapper; first | (rw [if_pos (by decide +kernel)]; kernel_rfl) | (rw [if_neg (by decide +kernel)]; exact ⟨rfl, rfl⟩))
    (fun os started H enc _ => lifted os started H enc)

/-- the statement -/
theorem proved : Rows.FnExactTransposeTensorSaid := over
end Go.Proofs.Ytaonfaeinoackaa.fnExactTransposeTensor
