/-
  SameTensors answers as its model says, for all arguments, and changes none of them. Conditions: none.
-/
import Derived.Test.YtaonfaeinoackaaTSame
import Derived.ChangeOld
import Derived.Below
namespace Go.Proofs.Ytaonfaeinoackaa.fnExactSameTensors
open Go.ChangeShapes Go.WideShapes Go.ChangeAt Go.RowKit
open Go.ChangeMaps (open_string shut_string)
set_option linter.unusedVariables false

set_option maxHeartbeats 4000000 in
set_option maxRecDepth 100000 in
/-- for any contracts of the model and of the program that say the same -/
theorem core (r0 c0 : Int) (r1 c1 : Int) (a0 a1 : Option Addr) (cap0 cap1 : Nat) (z0 z1 : List Nat) (w : World) (w0' : IsFloats .f32 w a0 z0.length cap0 z0) (w1' : IsFloats .f32 w a1 z1.length cap1 z1) (b : Bool)
    (hL : z0.length ≤ 1048576) (hL1 : z0.length + z1.length ≤ 1048576) (CS' : ∀ (a0 a1 : Option Addr) (w : World), IsFloats .f32 w a0 z0.length z0.length z0 → IsFloats .f32 w a1 z1.length z1.length z1 → Calls Try.prog 23 #[.agg #[.int .i64 r0, .int .i64 c0, .slice a0 z0.length z0.length], .agg #[.int .i64 r1, .int .i64 c1, .slice a1 z1.length z1.length]] w (RetB b w))
    (CI' : ∀ (a0 a1 : Option Addr) (w : World), IsFloats .f32 w a0 z0.length z0.length z0 → IsFloats .f32 w a1 z1.length z1.length z1 → Calls Try.prog 25 #[.agg #[.int .i64 r0, .int .i64 c0, .slice a0 z0.length z0.length], .agg #[.int .i64 r1, .int .i64 c1, .slice a1 z1.length z1.length]] w (RetB b w)) :
    Calls Try.prog 5 #[.agg #[.int .i64 r0, .int .i64 c0, .slice a0 z0.length cap0], .agg #[.int .i64 r1, .int .i64 c1, .slice a1 z1.length cap1]] w fun e w' => e = .returned (.bool true) ∧ Below w.heap.size w w' := by
  have HI0 := Lib.hid w0'
  have HZ0 := Lib.hid (show z0.length ≤ 1048576 by omega)
  have HI1 := Lib.hid w1'
  have HZ1 := Lib.hid (show z1.length ≤ 1048576 by omega)
  have CS := Lib.hid CS'
  have CI := Lib.hid CI'
  have hs0 : z0.length ≤ 1048576 := by omega
  have hs1 : z1.length ≤ 1048576 := by omega
  clear w0' w1' CS' CI'
  obtain ⟨l0, hl0⟩ : ∃ l, 1048576 - z0.length = l := ⟨_, rfl⟩
  have hl0' : l0 ≤ 1048576 := by omega
  have HQ0 := Lib.hid (show z0.length ≤ 1048576 by omega)
  obtain ⟨l1, hl1⟩ : ∃ l, l0 - z1.length = l := ⟨_, rfl⟩
  have hl1' : l1 ≤ 1048576 := by omega
  have HQ1 := Lib.hid (show z1.length ≤ l0 by omega)
  have HE0 := Lib.hid hl0
  have hp0 : (0 : Int) ≤ (l0 : Int) := by omega
  have HE1 := Lib.hid hl1
  have hp1 : (0 : Int) ≤ (l1 : Int) := by omega
  clear hl1
  clear hl0
  go_enter Try.func5, Try.ntmps5
  go_wp2_with fail
  have B_0 := Lib.hid (Below.refl w.heap.size w)
  have bl := (Below.refl (w).heap.size (w)).alloc (Nat.le_refl _) (.cells #[.int .i64 r0, .int .i64 c0, .slice a0 z0.length cap0] 33)
  have K0_1 := Lib.hid (Blk.new (w) 33 #[.int .i64 r0, .int .i64 c0, .slice a0 z0.length cap0])
  have B_1 := Lib.hid (Below.next B_0.out bl)
  clear B_0
  clear bl
  have bl := (Below.refl ((w).alloc (.cells #[.int .i64 r0, .int .i64 c0, .slice a0 z0.length cap0] 33)).heap.size ((w).alloc (.cells #[.int .i64 r0, .int .i64 c0, .slice a0 z0.length cap0] 33))).alloc (Nat.le_refl _) (.cells #[.int .i64 r1, .int .i64 c1, .slice a1 z1.length cap1] 33)
  have K1_2 := Lib.hid (Blk.new ((w).alloc (.cells #[.int .i64 r0, .int .i64 c0, .slice a0 z0.length cap0] 33)) 33 #[.int .i64 r1, .int .i64 c1, .slice a1 z1.length cap1])
  have B_2 := Lib.hid (Below.next B_1.out bl)
  clear B_1
  have K0_2 := Lib.hid (K0_1.out.below bl)
  clear K0_1
  clear bl
  generalize ((w).alloc (.cells #[.int .i64 r0, .int .i64 c0, .slice a0 z0.length cap0] 33)).alloc (.cells #[.int .i64 r1, .int .i64 c1, .slice a1 z1.length cap1] 33) = w2 at B_2 K0_2 K1_2 ⊢
  simp only [World.size_alloc] at K1_2
  refine (c_szTensor' r0 c0 _ _ _ _ _ _ HQ0.out (Nat.le_refl _) HE0.out).mono ?_
  rintro e w3 ⟨rfl, bl⟩
  have B_3 := Lib.hid (Below.next B_2.out bl)
  clear B_2
  have K0_3 := Lib.hid (K0_2.out.below bl)
  clear K0_2
  have K1_3 := Lib.hid (K1_2.out.below bl)
  clear K1_2
  clear bl
  obtain ⟨pK00, pK01, pK02, pK03⟩ := tb K0_3.out
  obtain ⟨pK10, pK11, pK12, pK13⟩ := tb K1_3.out
  go_wp2_with fail
  clear pK00 pK01 pK02 pK03 pK10 pK11 pK12 pK13
  refine (c_szTensor' r1 c1 _ _ _ _ _ _ HQ1.out hl0' HE1.out).mono ?_
  rintro e w4 ⟨rfl, bl⟩
  have B_4 := Lib.hid (Below.next B_3.out bl)
  clear B_3
  have K0_4 := Lib.hid (K0_3.out.below bl)
  clear K0_3
  have K1_4 := Lib.hid (K1_3.out.below bl)
  clear K1_3
  clear bl
  obtain ⟨pK00, pK01, pK02, pK03⟩ := tb K0_4.out
  obtain ⟨pK10, pK11, pK12, pK13⟩ := tb K1_4.out
  go_wp2_with fail
  clear pK00 pK01 pK02 pK03 pK10 pK11 pK12 pK13
  have bl : Below w4.heap.size w4 w4.drew := (Below.refl _ _).drew
  have B_5 := Lib.hid (Below.next B_4.out bl)
  clear B_4
  have K0_5 := Lib.hid (K0_4.out.below bl)
  clear K0_4
  have K1_5 := Lib.hid (K1_4.out.below bl)
  clear K1_4
  clear bl
  obtain ⟨pK00, pK01, pK02, pK03⟩ := tb K0_5.out
  obtain ⟨pK10, pK11, pK12, pK13⟩ := tb K1_5.out
  go_region_held3 (fun w' => w'.cell? ⟨w.heap.size, 0, none⟩ = some (.int .i64 r0) ∧ w'.cell? ⟨w.heap.size, 1, none⟩ = some (.int .i64 c0) ∧ w'.cell? ⟨w.heap.size, 2, none⟩ = some (.slice a0 z0.length cap0) ∧ w'.cell? ⟨w.heap.size + 1, 0, none⟩ = some (.int .i64 r1) ∧ w'.cell? ⟨w.heap.size + 1, 1, none⟩ = some (.int .i64 c1) ∧ w'.cell? ⟨w.heap.size + 1, 2, none⟩ = some (.slice a1 z1.length cap1)) (go_keep)
    (first
      | (go_at_call 24
         clear pK00 pK01 pK02 pK03 pK10 pK11 pK12 pK13
         refine (c_toTensor r0 c0 _ _ _ z0 _ (HI0.out.kept B_5.out) HZ0.out).mono ?_
         rintro e w6 ⟨bT0, rfl, hf, bl⟩
         have T0_6 := Lib.hid (hf.base B_5.out.size)
         have B_6 := Lib.hid (Below.next B_5.out bl)
         clear B_5
         have K0_6 := Lib.hid (K0_5.out.below bl)
         clear K0_5
         have K1_6 := Lib.hid (K1_5.out.below bl)
         clear K1_5
         clear bl
         clear hf
         obtain ⟨pK00, pK01, pK02, pK03⟩ := tb K0_6.out
         obtain ⟨pK10, pK11, pK12, pK13⟩ := tb K1_6.out)
      | (go_at_call 24
         clear pK00 pK01 pK02 pK03 pK10 pK11 pK12 pK13
         refine (c_toTensor r1 c1 _ _ _ z1 _ (HI1.out.kept B_6.out) HZ1.out).mono ?_
         rintro e w7 ⟨bT1, rfl, hf, bl⟩
         have T1_7 := Lib.hid (hf.base B_6.out.size)
         have B_7 := Lib.hid (Below.next B_6.out bl)
         clear B_6
         have K0_7 := Lib.hid (K0_6.out.below bl)
         clear K0_6
         have K1_7 := Lib.hid (K1_6.out.below bl)
         clear K1_6
         have T0_7 := Lib.hid (T0_6.out.kept bl)
         clear T0_6
         clear bl
         clear hf
         obtain ⟨pK00, pK01, pK02, pK03⟩ := tb K0_7.out
         obtain ⟨pK10, pK11, pK12, pK13⟩ := tb K1_7.out)
      | (go_at_call 23
         clear pK00 pK01 pK02 pK03 pK10 pK11 pK12 pK13
         refine (CS.out _ _ _ T0_7.out.isFloats T1_7.out.isFloats).mono ?_
         rintro e w8 ⟨rfl, bl⟩
         have B_8 := Lib.hid (Below.next B_7.out bl)
         clear B_7
         have K0_8 := Lib.hid (K0_7.out.below bl)
         clear K0_7
         have K1_8 := Lib.hid (K1_7.out.below bl)
         clear K1_7
         have T0_8 := Lib.hid (T0_7.out.kept bl)
         clear T0_7
         have T1_8 := Lib.hid (T1_7.out.kept bl)
         clear T1_7
         clear bl
         obtain ⟨pK00, pK01, pK02, pK03⟩ := tb K0_8.out
         obtain ⟨pK10, pK11, pK12, pK13⟩ := tb K1_8.out))
  clear pK00 pK01 pK02 pK03 pK10 pK11 pK12 pK13
  clear T0_8
  clear T1_8
  obtain ⟨pK00, pK01, pK02, pK03⟩ := tb K0_8.out
  obtain ⟨pK10, pK11, pK12, pK13⟩ := tb K1_8.out
  go_wp2_with fail
  clear pK00 pK01 pK02 pK03 pK10 pK11 pK12 pK13
  refine (c_toTensor r0 c0 _ _ _ z0 _ (HI0.out.kept B_8.out) HZ0.out).mono ?_
  rintro e w9 ⟨bX0, rfl, hf, bl⟩
  have X0_9 := Lib.hid (hf.base B_8.out.size)
  have B_9 := Lib.hid (Below.next B_8.out bl)
  clear B_8
  have K0_9 := Lib.hid (K0_8.out.below bl)
  clear K0_8
  have K1_9 := Lib.hid (K1_8.out.below bl)
  clear K1_8
  clear bl
  clear hf
  obtain ⟨pK00, pK01, pK02, pK03⟩ := tb K0_9.out
  obtain ⟨pK10, pK11, pK12, pK13⟩ := tb K1_9.out
  go_wp2_with fail
  clear pK00 pK01 pK02 pK03 pK10 pK11 pK12 pK13
  have bl := (Below.refl w9.heap.size w9).alloc (Nat.le_refl _) (.cells #[.int .i64 r0, .int .i64 c0, .slice bX0 z0.length z0.length] 36)
  have XB0_10 := Lib.hid (Blk.new w9 36 #[.int .i64 r0, .int .i64 c0, .slice bX0 z0.length z0.length])
  have B_10 := Lib.hid (Below.next B_9.out bl)
  clear B_9
  have K0_10 := Lib.hid (K0_9.out.below bl)
  clear K0_9
  have K1_10 := Lib.hid (K1_9.out.below bl)
  clear K1_9
  have X0_10 := Lib.hid (X0_9.out.kept bl)
  clear X0_9
  clear bl
  generalize w9.alloc (.cells #[.int .i64 r0, .int .i64 c0, .slice bX0 z0.length z0.length] 36) = w10 at B_10 K0_10 K1_10 X0_10 XB0_10 ⊢
  obtain ⟨pK00, pK01, pK02, pK03⟩ := tb K0_10.out
  obtain ⟨pK10, pK11, pK12, pK13⟩ := tb K1_10.out
  obtain ⟨pXB00, pXB01, pXB02, pXB03⟩ := tb XB0_10.out
  try go_wp2_with fail
  clear pK00 pK01 pK02 pK03 pK10 pK11 pK12 pK13 pXB00 pXB01 pXB02 pXB03
  refine (c_toTensor r1 c1 _ _ _ z1 _ (HI1.out.kept B_10.out) HZ1.out).mono ?_
  rintro e w11 ⟨bX1, rfl, hf, bl⟩
  have X1_11 := Lib.hid (hf.base B_10.out.size)
  have B_11 := Lib.hid (Below.next B_10.out bl)
  clear B_10
  have K0_11 := Lib.hid (K0_10.out.below bl)
  clear K0_10
  have K1_11 := Lib.hid (K1_10.out.below bl)
  clear K1_10
  have X0_11 := Lib.hid (X0_10.out.kept bl)
  clear X0_10
  have XB0_11 := Lib.hid (XB0_10.out.below bl)
  clear XB0_10
  clear bl
  clear hf
  obtain ⟨pK00, pK01, pK02, pK03⟩ := tb K0_11.out
  obtain ⟨pK10, pK11, pK12, pK13⟩ := tb K1_11.out
  obtain ⟨pXB00, pXB01, pXB02, pXB03⟩ := tb XB0_11.out
  go_wp2_with fail
  clear pK00 pK01 pK02 pK03 pK10 pK11 pK12 pK13 pXB00 pXB01 pXB02 pXB03
  have bl := (Below.refl w11.heap.size w11).alloc (Nat.le_refl _) (.cells #[.int .i64 r1, .int .i64 c1, .slice bX1 z1.length z1.length] 36)
  have XB1_12 := Lib.hid (Blk.new w11 36 #[.int .i64 r1, .int .i64 c1, .slice bX1 z1.length z1.length])
  have B_12 := Lib.hid (Below.next B_11.out bl)
  clear B_11
  have K0_12 := Lib.hid (K0_11.out.below bl)
  clear K0_11
  have K1_12 := Lib.hid (K1_11.out.below bl)
  clear K1_11
  have X0_12 := Lib.hid (X0_11.out.kept bl)
  clear X0_11
  have XB0_12 := Lib.hid (XB0_11.out.below bl)
  clear XB0_11
  have X1_12 := Lib.hid (X1_11.out.kept bl)
  clear X1_11
  clear bl
  generalize w11.alloc (.cells #[.int .i64 r1, .int .i64 c1, .slice bX1 z1.length z1.length] 36) = w12 at B_12 K0_12 K1_12 X0_12 XB0_12 X1_12 XB1_12 ⊢
  obtain ⟨pK00, pK01, pK02, pK03⟩ := tb K0_12.out
  obtain ⟨pK10, pK11, pK12, pK13⟩ := tb K1_12.out
  obtain ⟨pXB00, pXB01, pXB02, pXB03⟩ := tb XB0_12.out
  obtain ⟨pXB10, pXB11, pXB12, pXB13⟩ := tb XB1_12.out
  try go_wp2_with fail
  clear pK00 pK01 pK02 pK03 pK10 pK11 pK12 pK13 pXB00 pXB01 pXB02 pXB03 pXB10 pXB11 pXB12 pXB13
  refine (CI.out _ _ _ X0_12.out.isFloats X1_12.out.isFloats).mono ?_
  rintro e w13 ⟨rfl, bl⟩
  have B_13 := Lib.hid (Below.next B_12.out bl)
  clear B_12
  have K0_13 := Lib.hid (K0_12.out.below bl)
  clear K0_12
  have K1_13 := Lib.hid (K1_12.out.below bl)
  clear K1_12
  have X0_13 := Lib.hid (X0_12.out.kept bl)
  clear X0_12
  have XB0_13 := Lib.hid (XB0_12.out.below bl)
  clear XB0_12
  have X1_13 := Lib.hid (X1_12.out.kept bl)
  clear X1_12
  have XB1_13 := Lib.hid (XB1_12.out.below bl)
  clear XB1_12
  clear bl
  obtain ⟨pK00, pK01, pK02, pK03⟩ := tb K0_13.out
  obtain ⟨pK10, pK11, pK12, pK13⟩ := tb K1_13.out
  obtain ⟨pXB00, pXB01, pXB02, pXB03⟩ := tb XB0_13.out
  obtain ⟨pXB10, pXB11, pXB12, pXB13⟩ := tb XB1_13.out
  go_wp2_with fail
  clear pK00 pK01 pK02 pK03 pK10 pK11 pK12 pK13 pXB00 pXB01 pXB02 pXB03 pXB10 pXB11 pXB12 pXB13
  have bl : Below w13.heap.size w13 w13.drew := (Below.refl _ _).drew
  have B_14 := Lib.hid (Below.next B_13.out bl)
  clear B_13
  have K0_14 := Lib.hid (K0_13.out.below bl)
  clear K0_13
  have K1_14 := Lib.hid (K1_13.out.below bl)
  clear K1_13
  have X0_14 := Lib.hid (X0_13.out.kept bl)
  clear X0_13
  have XB0_14 := Lib.hid (XB0_13.out.below bl)
  clear XB0_13
  have X1_14 := Lib.hid (X1_13.out.kept bl)
  clear X1_13
  have XB1_14 := Lib.hid (XB1_13.out.below bl)
  clear XB1_13
  clear bl
  obtain ⟨pK00, pK01, pK02, pK03⟩ := tb K0_14.out
  obtain ⟨pK10, pK11, pK12, pK13⟩ := tb K1_14.out
  obtain ⟨pXB00, pXB01, pXB02, pXB03⟩ := tb XB0_14.out
  obtain ⟨pXB10, pXB11, pXB12, pXB13⟩ := tb XB1_14.out
  go_region_held3 (fun w' => w'.cell? ⟨w.heap.size, 0, none⟩ = some (.int .i64 r0) ∧ w'.cell? ⟨w.heap.size, 1, none⟩ = some (.int .i64 c0) ∧ w'.cell? ⟨w.heap.size, 2, none⟩ = some (.slice a0 z0.length cap0) ∧ w'.cell? ⟨w.heap.size + 1, 0, none⟩ = some (.int .i64 r1) ∧ w'.cell? ⟨w.heap.size + 1, 1, none⟩ = some (.int .i64 c1) ∧ w'.cell? ⟨w.heap.size + 1, 2, none⟩ = some (.slice a1 z1.length cap1) ∧ w'.cell? ⟨w9.heap.size, 0, none⟩ = some (.int .i64 r0) ∧ w'.cell? ⟨w9.heap.size, 1, none⟩ = some (.int .i64 c0) ∧ w'.cell? ⟨w9.heap.size, 2, none⟩ = some (.slice bX0 z0.length z0.length) ∧ w'.cell? ⟨w11.heap.size, 0, none⟩ = some (.int .i64 r1) ∧ w'.cell? ⟨w11.heap.size, 1, none⟩ = some (.int .i64 c1) ∧ w'.cell? ⟨w11.heap.size, 2, none⟩ = some (.slice bX1 z1.length z1.length)) (go_keep)
    (first
      | (go_at_call 24
         clear pK00 pK01 pK02 pK03 pK10 pK11 pK12 pK13 pXB00 pXB01 pXB02 pXB03 pXB10 pXB11 pXB12 pXB13
         refine (c_toTensor r0 c0 _ _ _ z0 _ (HI0.out.kept B_14.out) HZ0.out).mono ?_
         rintro e w15 ⟨bY0, rfl, hf, bl⟩
         have Y0_15 := Lib.hid (hf.base B_14.out.size)
         have B_15 := Lib.hid (Below.next B_14.out bl)
         clear B_14
         have K0_15 := Lib.hid (K0_14.out.below bl)
         clear K0_14
         have K1_15 := Lib.hid (K1_14.out.below bl)
         clear K1_14
         have X0_15 := Lib.hid (X0_14.out.kept bl)
         clear X0_14
         have XB0_15 := Lib.hid (XB0_14.out.below bl)
         clear XB0_14
         have X1_15 := Lib.hid (X1_14.out.kept bl)
         clear X1_14
         have XB1_15 := Lib.hid (XB1_14.out.below bl)
         clear XB1_14
         clear bl
         clear hf
         obtain ⟨pK00, pK01, pK02, pK03⟩ := tb K0_15.out
         obtain ⟨pK10, pK11, pK12, pK13⟩ := tb K1_15.out
         obtain ⟨pXB00, pXB01, pXB02, pXB03⟩ := tb XB0_15.out
         obtain ⟨pXB10, pXB11, pXB12, pXB13⟩ := tb XB1_15.out)
      | (go_at_call 26
         clear pK00 pK01 pK02 pK03 pK10 pK11 pK12 pK13 pXB00 pXB01 pXB02 pXB03 pXB10 pXB11 pXB12 pXB13
         refine (c_eqTensor r0 c0 _ _ _ _ z0 z0 _ X0_15.out.isFloats Y0_15.out.isFloats rfl).mono ?_
         rintro e w16 ⟨rfl, bl⟩
         have B_16 := Lib.hid (Below.next B_15.out bl)
         clear B_15
         have K0_16 := Lib.hid (K0_15.out.below bl)
         clear K0_15
         have K1_16 := Lib.hid (K1_15.out.below bl)
         clear K1_15
         have X0_16 := Lib.hid (X0_15.out.kept bl)
         clear X0_15
         have XB0_16 := Lib.hid (XB0_15.out.below bl)
         clear XB0_15
         have X1_16 := Lib.hid (X1_15.out.kept bl)
         clear X1_15
         have XB1_16 := Lib.hid (XB1_15.out.below bl)
         clear XB1_15
         have Y0_16 := Lib.hid (Y0_15.out.kept bl)
         clear Y0_15
         clear bl
         obtain ⟨pK00, pK01, pK02, pK03⟩ := tb K0_16.out
         obtain ⟨pK10, pK11, pK12, pK13⟩ := tb K1_16.out
         obtain ⟨pXB00, pXB01, pXB02, pXB03⟩ := tb XB0_16.out
         obtain ⟨pXB10, pXB11, pXB12, pXB13⟩ := tb XB1_16.out))
  clear pK00 pK01 pK02 pK03 pK10 pK11 pK12 pK13 pXB00 pXB01 pXB02 pXB03 pXB10 pXB11 pXB12 pXB13
  clear Y0_16
  obtain ⟨pK00, pK01, pK02, pK03⟩ := tb K0_16.out
  obtain ⟨pK10, pK11, pK12, pK13⟩ := tb K1_16.out
  obtain ⟨pXB00, pXB01, pXB02, pXB03⟩ := tb XB0_16.out
  obtain ⟨pXB10, pXB11, pXB12, pXB13⟩ := tb XB1_16.out
  go_wp2_with fail
  clear pK00 pK01 pK02 pK03 pK10 pK11 pK12 pK13 pXB00 pXB01 pXB02 pXB03 pXB10 pXB11 pXB12 pXB13
  have bl : Below w16.heap.size w16 w16.drew := (Below.refl _ _).drew
  have B_17 := Lib.hid (Below.next B_16.out bl)
  clear B_16
  have K0_17 := Lib.hid (K0_16.out.below bl)
  clear K0_16
  have K1_17 := Lib.hid (K1_16.out.below bl)
  clear K1_16
  have X0_17 := Lib.hid (X0_16.out.kept bl)
  clear X0_16
  have XB0_17 := Lib.hid (XB0_16.out.below bl)
  clear XB0_16
  have X1_17 := Lib.hid (X1_16.out.kept bl)
  clear X1_16
  have XB1_17 := Lib.hid (XB1_16.out.below bl)
  clear XB1_16
  clear bl
  obtain ⟨pK00, pK01, pK02, pK03⟩ := tb K0_17.out
  obtain ⟨pK10, pK11, pK12, pK13⟩ := tb K1_17.out
  obtain ⟨pXB00, pXB01, pXB02, pXB03⟩ := tb XB0_17.out
  obtain ⟨pXB10, pXB11, pXB12, pXB13⟩ := tb XB1_17.out
  go_region_held3 (fun w' => w'.cell? ⟨w.heap.size, 0, none⟩ = some (.int .i64 r0) ∧ w'.cell? ⟨w.heap.size, 1, none⟩ = some (.int .i64 c0) ∧ w'.cell? ⟨w.heap.size, 2, none⟩ = some (.slice a0 z0.length cap0) ∧ w'.cell? ⟨w.heap.size + 1, 0, none⟩ = some (.int .i64 r1) ∧ w'.cell? ⟨w.heap.size + 1, 1, none⟩ = some (.int .i64 c1) ∧ w'.cell? ⟨w.heap.size + 1, 2, none⟩ = some (.slice a1 z1.length cap1) ∧ w'.cell? ⟨w9.heap.size, 0, none⟩ = some (.int .i64 r0) ∧ w'.cell? ⟨w9.heap.size, 1, none⟩ = some (.int .i64 c0) ∧ w'.cell? ⟨w9.heap.size, 2, none⟩ = some (.slice bX0 z0.length z0.length) ∧ w'.cell? ⟨w11.heap.size, 0, none⟩ = some (.int .i64 r1) ∧ w'.cell? ⟨w11.heap.size, 1, none⟩ = some (.int .i64 c1) ∧ w'.cell? ⟨w11.heap.size, 2, none⟩ = some (.slice bX1 z1.length z1.length)) (go_keep)
    (first
      | (go_at_call 24
         clear pK00 pK01 pK02 pK03 pK10 pK11 pK12 pK13 pXB00 pXB01 pXB02 pXB03 pXB10 pXB11 pXB12 pXB13
         refine (c_toTensor r1 c1 _ _ _ z1 _ (HI1.out.kept B_17.out) HZ1.out).mono ?_
         rintro e w18 ⟨bY1, rfl, hf, bl⟩
         have Y1_18 := Lib.hid (hf.base B_17.out.size)
         have B_18 := Lib.hid (Below.next B_17.out bl)
         clear B_17
         have K0_18 := Lib.hid (K0_17.out.below bl)
         clear K0_17
         have K1_18 := Lib.hid (K1_17.out.below bl)
         clear K1_17
         have X0_18 := Lib.hid (X0_17.out.kept bl)
         clear X0_17
         have XB0_18 := Lib.hid (XB0_17.out.below bl)
         clear XB0_17
         have X1_18 := Lib.hid (X1_17.out.kept bl)
         clear X1_17
         have XB1_18 := Lib.hid (XB1_17.out.below bl)
         clear XB1_17
         clear bl
         clear hf
         obtain ⟨pK00, pK01, pK02, pK03⟩ := tb K0_18.out
         obtain ⟨pK10, pK11, pK12, pK13⟩ := tb K1_18.out
         obtain ⟨pXB00, pXB01, pXB02, pXB03⟩ := tb XB0_18.out
         obtain ⟨pXB10, pXB11, pXB12, pXB13⟩ := tb XB1_18.out)
      | (go_at_call 26
         clear pK00 pK01 pK02 pK03 pK10 pK11 pK12 pK13 pXB00 pXB01 pXB02 pXB03 pXB10 pXB11 pXB12 pXB13
         refine (c_eqTensor r1 c1 _ _ _ _ z1 z1 _ X1_18.out.isFloats Y1_18.out.isFloats rfl).mono ?_
         rintro e w19 ⟨rfl, bl⟩
         have B_19 := Lib.hid (Below.next B_18.out bl)
         clear B_18
         have K0_19 := Lib.hid (K0_18.out.below bl)
         clear K0_18
         have K1_19 := Lib.hid (K1_18.out.below bl)
         clear K1_18
         have X0_19 := Lib.hid (X0_18.out.kept bl)
         clear X0_18
         have XB0_19 := Lib.hid (XB0_18.out.below bl)
         clear XB0_18
         have X1_19 := Lib.hid (X1_18.out.kept bl)
         clear X1_18
         have XB1_19 := Lib.hid (XB1_18.out.below bl)
         clear XB1_18
         have Y1_19 := Lib.hid (Y1_18.out.kept bl)
         clear Y1_18
         clear bl
         obtain ⟨pK00, pK01, pK02, pK03⟩ := tb K0_19.out
         obtain ⟨pK10, pK11, pK12, pK13⟩ := tb K1_19.out
         obtain ⟨pXB00, pXB01, pXB02, pXB03⟩ := tb XB0_19.out
         obtain ⟨pXB10, pXB11, pXB12, pXB13⟩ := tb XB1_19.out))
  clear pK00 pK01 pK02 pK03 pK10 pK11 pK12 pK13 pXB00 pXB01 pXB02 pXB03 pXB10 pXB11 pXB12 pXB13
  clear Y1_19
  obtain ⟨pK00, pK01, pK02, pK03⟩ := tb K0_19.out
  obtain ⟨pK10, pK11, pK12, pK13⟩ := tb K1_19.out
  obtain ⟨pXB00, pXB01, pXB02, pXB03⟩ := tb XB0_19.out
  obtain ⟨pXB10, pXB11, pXB12, pXB13⟩ := tb XB1_19.out
  go_wp2_with fail
  clear pK00 pK01 pK02 pK03 pK10 pK11 pK12 pK13 pXB00 pXB01 pXB02 pXB03 pXB10 pXB11 pXB12 pXB13
  go_ret
  exact ⟨rfl, B_19.out⟩

theorem walk (r0 c0 : Int) (a0 : Option Addr) (len0 cap0 : Nat) (z0 : List Nat) (r1 c1 : Int) (a1 : Option Addr) (len1 cap1 : Nat) (z1 : List Nat) (w : World) (w0 : IsFloats .f32 w a0 len0 cap0 z0) (wr0 : (Lit.int .i64 r0).wf = true) (wc0 : (Lit.int .i64 c0).wf = true) (w1 : IsFloats .f32 w a1 len1 cap1 z1) (wr1 : (Lit.int .i64 r1).wf = true) (wc1 : (Lit.int .i64 c1).wf = true) :
    Calls Try.prog 5 #[.agg #[.int .i64 r0, .int .i64 c0, .slice a0 len0 cap0], .agg #[.int .i64 r1, .int .i64 c1, .slice a1 len1 cap1]] w fun e w' => e = .returned (.bool true) ∧ Below w.heap.size w w' := by
  have hn0 : len0 ≤ 9223372036854775807 := by have h1 := w0.1; have h2 := w0.2.1; unfold maxLen at h2; omega
  obtain rfl : z0.length = len0 := w0.2.2.1
  have hn1 : len1 ≤ 9223372036854775807 := by have h1 := w1.1; have h2 := w1.2.1; unfold maxLen at h2; omega
  obtain rfl : z1.length = len1 := w1.2.2.1
  by_cases hL0 : z0.length ≤ 1048576
  case neg =>
    have HN := Lib.hid (show 1048576 < z0.length by omega)
    clear hL0
    go_enter Try.func5, Try.ntmps5
    go_wp2_with fail
    have bl := ((Below.refl w.heap.size w).alloc (Nat.le_refl _) (.cells #[.int .i64 r0, .int .i64 c0, .slice a0 z0.length cap0] 33)).alloc (by simp) (.cells #[.int .i64 r1, .int .i64 c1, .slice a1 z1.length cap1] 33)
    refine (c_szTensor_no _ _ _ _ _ 1048576 _ HN.out (Nat.le_refl _) hn0).mono ?_
    rintro e w1 ⟨rfl, hb⟩
    have HB := Lib.hid (Below.next bl hb)
    clear hb bl
    go_wp2
    go_ret
    exact ⟨rfl, HB.out⟩
  case pos =>
    by_cases hL1 : z0.length + z1.length ≤ 1048576
    case neg =>
      obtain ⟨l, hl⟩ : ∃ l, 1048576 - z0.length = l := ⟨_, rfl⟩
      have HN := Lib.hid (show l < z1.length by omega)
      have hl' : l ≤ 1048576 := by omega
      have hl0 : (0 : Int) ≤ (l : Int) := by omega
      have HL := Lib.hid hl
      have HP := Lib.hid hL0
      clear hl hL0 hL1
      go_enter Try.func5, Try.ntmps5
      go_wp2_with fail
      have K := Lib.hid ((Blk.new (w.alloc (.cells #[.int .i64 r0, .int .i64 c0, .slice a0 z0.length cap0] 33)) 33 #[.int .i64 r1, .int .i64 c1, .slice a1 z1.length cap1]))
      have bl := ((Below.refl w.heap.size w).alloc (Nat.le_refl _) (.cells #[.int .i64 r0, .int .i64 c0, .slice a0 z0.length cap0] 33)).alloc (by simp) (.cells #[.int .i64 r1, .int .i64 c1, .slice a1 z1.length cap1] 33)
      simp only [World.size_alloc] at K
      generalize (w.alloc (.cells #[.int .i64 r0, .int .i64 c0, .slice a0 z0.length cap0] 33)).alloc (.cells #[.int .i64 r1, .int .i64 c1, .slice a1 z1.length cap1] 33) = w0 at K bl ⊢
      refine (c_szTensor' _ _ _ _ _ 1048576 l _ HP.out (Nat.le_refl _) HL.out).mono ?_
      rintro e w1 ⟨rfl, hb⟩
      have HB := Lib.hid (Below.next bl hb)
      have K1 := Lib.hid (K.out.below hb)
      clear hb bl K
      obtain ⟨p0, p1, p2, p3⟩ := tb K1.out
      go_wp2_with fail
      clear p0 p1 p2 p3
      refine (c_szTensor_no _ _ _ _ _ l _ HN.out hl' hn1).mono ?_
      rintro e w2 ⟨rfl, hb⟩
      have HB2 := Lib.hid (Below.next HB.out hb)
      clear hb
      go_wp2
      go_ret
      exact ⟨rfl, HB2.out⟩
    case pos =>
      exact core r0 c0 r1 c1 a0 a1 cap0 cap1 z0 z1 w w0 w1 (vSameTensors r0 c0 z0 r1 c1 z1) hL0 hL1  (fun a0 a1 w h0 h1 => t_sSameTensors r0 c0 z0 r1 c1 z1 a0 a1  w h0 h1 ) (fun a0 a1 w h0 h1 => t_iSameTensors r0 c0 z0 r1 c1 z1 a0 a1  w h0 h1 )

/-! the row's step -/
set_option maxRecDepth 100000 in
theorem lifted (os : Os) (started : os.Started) (H : Type) (enc : TypeId × Value → H) :
    ReturnsInHanded {} Try.checked os 5 .any (Rows.fnExactSameTensorsSpec.pre6 enc Try.prog Try.f5 Rows.fnExactSameTensorsRow.domain false) (Rows.fnExactSameTensorsSpec.post enc Try.prog Try.f5 false true false false) := by
  refine returnsInHanded_of_change (C := Try.checked) own started (by kernel_rfl) Try.func5
    (ChangeSpec.witness6 (enc := enc) (C := Try.checked) false ⟨#[], #[.agg #[.int .i64 0, .int .i64 0, .slice none 0 0], .agg #[.int .i64 0, .int .i64 0, .slice none 0 0]], []⟩ 8 (by kernel_rfl) (by kernel_rfl) (by kernel_rfl) (by kernel_rfl)) ?_
  intro W base args ds gs before hval0 hW hcnd _
  have hval : ∀ (j : Nat) t v, Try.f5.params[j]? = some t → args[j]? = some v → Value.okWide Try.prog W .any base t v := hval0
  have hW' := hW
  obtain ⟨p, q, hA0, hV, rfl, hfz, hnd⟩ := hW
  have hA : DataW.TrodAll enc Try.prog W 0 (fun _ => true) true Try.f5.params.toList args.toList ds p := hA0
  rw [Try.params5] at hA hval
  obtain ⟨v0, vs0, d0, ds0, p0, q0, hargs, rfl, rfl, h0, rest0⟩ := trodAll_cons hA
  obtain ⟨v1, vs1, d1, ds1, p1, q1, rfl, rfl, rfl, h1, rest1⟩ := trodAll_cons rest0
  obtain ⟨rfl, rfl, rfl⟩ := trodAll_nil rest1
  obtain rfl : args = #[v0, v1] := by cases args; simp_all
  obtain ⟨rfl, rfl⟩ := trodVars_none hV
  have k0 := h0
  have lt0 : ∀ x ∈ p0, x.block < W.heap.size := by obtain ⟨m, hm⟩ := k0; exact DataW.trod_lt m _ _ _ hm
  obtain ⟨r0, c0, a0, len0, cap0, z0, rfl, w0, wr0, wc0⟩ := open_tensor (hval 0 33 v0 rfl rfl) h0
  have k1 := h1
  have lt1 : ∀ x ∈ p1, x.block < W.heap.size := by obtain ⟨m, hm⟩ := k1; exact DataW.trod_lt m _ _ _ hm
  obtain ⟨r1, c1, a1, len1, cap1, z1, rfl, w1, wr1, wc1⟩ := open_tensor (hval 1 33 v1 rfl rfl) h1
  clear hA0 hval0
  refine (walk r0 c0 a0 len0 cap0 z0 r1 c1 a1 len1 cap1 z1 W w0 wr0 wc0 w1 wr1 wc1).mono fun e W' ⟨he, bel⟩ => ?_
  subst he
  exact ⟨_, rfl, _, _, _, [], _, [], hW', trodAll_mk1 (shut_bool Try.underlying4 _), (trodAll_cons_mk (Below.trod laidOut (by kernel_rfl) (of_decide_eq_true (by kernel_rfl)) k0 bel lt0) (trodAll_cons_mk (Below.trod laidOut (by kernel_rfl) (of_decide_eq_true (by kernel_rfl)) k1 bel lt1) trodAll_mk0)), rfl, bel.frame _, fun h => by cases h⟩

theorem over : Rows.fnExactSameTensorsRow.holds Try.pinned (OpenSpec.ofChange Rows.fnExactSameTensorsSpec) :=
  OpenClaim.holds_of_wide 5 Try.f5 rfl rfl rfl rfl rfl rfl rfl ⟨rfl, rfl, rfl, rfl, rfl⟩ rfl rfl rfl rfl rfl (by kernel_rfl) Try.func5 (by kernel_rfl)
    (of_decide_eq_true (by kernel_rfl)) (by unfold Func.isWrapper; first | (rw [if_pos (by decide +kernel)]; kernel_rfl) | (rw [if_neg (by decide +kernel)]; exact ⟨rfl, rfl⟩))
    (fun os started H enc _ => lifted os started H enc)

/-- the statement -/
theorem proved : Rows.FnExactSameTensorsSaid := over
end Go.Proofs.Ytaonfaeinoackaa.fnExactSameTensors
