/-
  The exact law of MatMulBlocks: it answers as its model, writes into no argument, and its answer owns its memory. Conditions: none.
-/
import Derived.Test.YtkfpaehalfjhhaaTBlocks
import Derived.ChangeOld
import Derived.Below
namespace Go.Proofs.Ytkfpaehalfjhhaa.fnExactMatMulBlocks
open Go.ChangeShapes Go.WideShapes Go.ChangeAt Go.RowKit
open Go.ChangeMaps (open_string shut_string)
set_option linter.unusedVariables false

set_option maxHeartbeats 4000000 in
set_option maxRecDepth 100000 in
/-- for any contracts of the model and of the program that say the same -/
theorem core (r0 c0 : Int) (r1 c1 : Int) (a2 : Int) (a0 a1 : Option Addr) (cap0 cap1 : Nat) (z0 z1 : List Nat) (w : World) (w0' : IsFloats .f32 w a0 z0.length cap0 z0) (w1' : IsFloats .f32 w a1 z1.length cap1 z1) (R C : Int) (b : Bool) (zs : List Nat)
    (hL : z0.length ≤ 1048576) (hL1 : z0.length + z1.length ≤ 1048576) (hz : zs.length ≤ 1048576) (CS' : ∀ (a0 a1 : Option Addr) (w : World), IsFloats .f32 w a0 z0.length z0.length z0 → IsFloats .f32 w a1 z1.length z1.length z1 → Calls Try.prog 16 #[.agg #[.int .i64 r0, .int .i64 c0, .slice a0 z0.length z0.length], .agg #[.int .i64 r1, .int .i64 c1, .slice a1 z1.length z1.length], .int .i64 a2] w (RetT R C b zs w))
    (CI' : ∀ (a0 a1 : Option Addr) (w : World), IsFloats .f32 w a0 z0.length z0.length z0 → IsFloats .f32 w a1 z1.length z1.length z1 → Calls Try.prog 17 #[.agg #[.int .i64 r0, .int .i64 c0, .slice a0 z0.length z0.length], .agg #[.int .i64 r1, .int .i64 c1, .slice a1 z1.length z1.length], .int .i64 a2] w (RetT R C b zs w)) :
    Calls Try.prog 4 #[.agg #[.int .i64 r0, .int .i64 c0, .slice a0 z0.length cap0], .agg #[.int .i64 r1, .int .i64 c1, .slice a1 z1.length cap1], .int .i64 a2] w fun e w' => e = .returned (.bool true) ∧ Below w.heap.size w w' := by
  have HI0 := Lib.hid w0'
  have HZ0 := Lib.hid (show z0.length ≤ 1048576 by omega)
  have HI1 := Lib.hid w1'
  have HZ1 := Lib.hid (show z1.length ≤ 1048576 by omega)
  have CS := Lib.hid CS'
  have CI := Lib.hid CI'
  have hs0 : z0.length ≤ 1048576 := by omega
  have hs1 : z1.length ≤ 1048576 := by omega
  clear w0' w1' CS' CI'
  obtain ⟨l0, hl0⟩ : ∃ l, 1048576 - z0.length = l := ⟨_, rfl⟩
  have hl0' : l0 ≤ 1048576 := by omega
  have HQ0 := Lib.hid (show z0.length ≤ 1048576 by omega)
  obtain ⟨l1, hl1⟩ : ∃ l, l0 - z1.length = l := ⟨_, rfl⟩
  have hl1' : l1 ≤ 1048576 := by omega
  have HQ1 := Lib.hid (show z1.length ≤ l0 by omega)
  have HE0 := Lib.hid hl0
  have hp0 : (0 : Int) ≤ (l0 : Int) := by omega
  have HE1 := Lib.hid hl1
  have hp1 : (0 : Int) ≤ (l1 : Int) := by omega
  clear hl1
  clear hl0
  obtain ⟨m0, hm0⟩ : ∃ m, 1 + z0.length = m := ⟨_, rfl⟩
  obtain ⟨m1, hm1⟩ : ∃ m, m0 + z1.length = m := ⟨_, rfl⟩
  have hm0' : m0 ≤ 4194304 := by omega
  have hn0' : (0 : Int) ≤ (m0 : Int) := by omega
  have hm1' : m1 ≤ 4194304 := by omega
  have hn1' : (0 : Int) ≤ (m1 : Int) := by omega
  have HM0 := Lib.hid hm0
  have HM1 := Lib.hid hm1
  clear hm1 hm0
  go_enter Try.func4, Try.ntmps4
  go_wp2_with fail
  have B_0 := Lib.hid (Below.refl w.heap.size w)
  have bl := (Below.refl (w).heap.size (w)).alloc (Nat.le_refl _) (.cells #[.int .i64 r0, .int .i64 c0, .slice a0 z0.length cap0] 24)
  have K0_1 := Lib.hid (Blk.new (w) 24 #[.int .i64 r0, .int .i64 c0, .slice a0 z0.length cap0])
  have B_1 := Lib.hid (Below.next B_0.out bl)
  clear B_0
  clear bl
  have bl := (Below.refl ((w).alloc (.cells #[.int .i64 r0, .int .i64 c0, .slice a0 z0.length cap0] 24)).heap.size ((w).alloc (.cells #[.int .i64 r0, .int .i64 c0, .slice a0 z0.length cap0] 24))).alloc (Nat.le_refl _) (.cells #[.int .i64 r1, .int .i64 c1, .slice a1 z1.length cap1] 24)
  have K1_2 := Lib.hid (Blk.new ((w).alloc (.cells #[.int .i64 r0, .int .i64 c0, .slice a0 z0.length cap0] 24)) 24 #[.int .i64 r1, .int .i64 c1, .slice a1 z1.length cap1])
  have B_2 := Lib.hid (Below.next B_1.out bl)
  clear B_1
  have K0_2 := Lib.hid (K0_1.out.below bl)
  clear K0_1
  clear bl
  generalize ((w).alloc (.cells #[.int .i64 r0, .int .i64 c0, .slice a0 z0.length cap0] 24)).alloc (.cells #[.int .i64 r1, .int .i64 c1, .slice a1 z1.length cap1] 24) = w2 at B_2 K0_2 K1_2 ⊢
  simp only [World.size_alloc] at K1_2
  refine (c_szTensor' r0 c0 _ _ _ _ _ _ HQ0.out (Nat.le_refl _) HE0.out).mono ?_
  rintro e w3 ⟨rfl, bl⟩
  have B_3 := Lib.hid (Below.next B_2.out bl)
  clear B_2
  have K0_3 := Lib.hid (K0_2.out.below bl)
  clear K0_2
  have K1_3 := Lib.hid (K1_2.out.below bl)
  clear K1_2
  clear bl
  obtain ⟨pK00, pK01, pK02, pK03⟩ := tb K0_3.out
  obtain ⟨pK10, pK11, pK12, pK13⟩ := tb K1_3.out
  go_wp2_with fail
  clear pK00 pK01 pK02 pK03 pK10 pK11 pK12 pK13
  refine (c_szTensor' r1 c1 _ _ _ _ _ _ HQ1.out hl0' HE1.out).mono ?_
  rintro e w4 ⟨rfl, bl⟩
  have B_4 := Lib.hid (Below.next B_3.out bl)
  clear B_3
  have K0_4 := Lib.hid (K0_3.out.below bl)
  clear K0_3
  have K1_4 := Lib.hid (K1_3.out.below bl)
  clear K1_3
  clear bl
  obtain ⟨pK00, pK01, pK02, pK03⟩ := tb K0_4.out
  obtain ⟨pK10, pK11, pK12, pK13⟩ := tb K1_4.out
  go_upto_region 8 with fail
  clear pK00 pK01 pK02 pK03 pK10 pK11 pK12 pK13
  go_cut [8, 9] (fun s t wx => CutT w R C b zs (fun wx => Blk wx (w.heap.size) 24 #[.int .i64 r0, .int .i64 c0, .slice a0 z0.length cap0] ∧ Blk wx (w.heap.size + 1) 24 #[.int .i64 r1, .int .i64 c1, .slice a1 z1.length cap1]) s t wx)
  case first =>
    obtain ⟨pK00, pK01, pK02, pK03⟩ := tb K0_4.out
    obtain ⟨pK10, pK11, pK12, pK13⟩ := tb K1_4.out
    go_region_held3 (fun w' => w'.cell? ⟨w.heap.size, 0, none⟩ = some (.int .i64 r0) ∧ w'.cell? ⟨w.heap.size, 1, none⟩ = some (.int .i64 c0) ∧ w'.cell? ⟨w.heap.size, 2, none⟩ = some (.slice a0 z0.length cap0) ∧ w'.cell? ⟨w.heap.size + 1, 0, none⟩ = some (.int .i64 r1) ∧ w'.cell? ⟨w.heap.size + 1, 1, none⟩ = some (.int .i64 c1) ∧ w'.cell? ⟨w.heap.size + 1, 2, none⟩ = some (.slice a1 z1.length cap1)) (go_keep)
      (first
        | (go_at_call 11
           first
             | (clear pK00 pK01 pK02 pK03 pK10 pK11 pK12 pK13
                have bl : Below w4.heap.size w4 w4.drew := (Below.refl _ _).drew
                have B_601 := Lib.hid (Below.next B_4.out bl)
                clear B_4
                have K0_601 := Lib.hid (K0_4.out.below bl)
                clear K0_4
                have K1_601 := Lib.hid (K1_4.out.below bl)
                clear K1_4
                clear bl
                refine (c_toTensor r0 c0 _ _ _ z0 _ (HI0.out.kept B_601.out) HZ0.out).mono ?_
                rintro e w5 ⟨bT0, rfl, hf, bl⟩
                have T0_5 := Lib.hid (hf.base B_601.out.size)
                have B_5 := Lib.hid (Below.next B_601.out bl)
                clear B_601
                have K0_5 := Lib.hid (K0_601.out.below bl)
                clear K0_601
                have K1_5 := Lib.hid (K1_601.out.below bl)
                clear K1_601
                clear bl
                clear hf
                obtain ⟨pK00, pK01, pK02, pK03⟩ := tb K0_5.out
                obtain ⟨pK10, pK11, pK12, pK13⟩ := tb K1_5.out)
             | (clear pK00 pK01 pK02 pK03 pK10 pK11 pK12 pK13
                have NSB_K0 : w.heap.size ≠ w4.heap.size := Nat.ne_of_lt K0_4.out.lt
                have MSB_K0 : w4.heap.size ≠ w.heap.size := Nat.ne_of_gt K0_4.out.lt
                have NSB_K1 : w.heap.size + 1 ≠ w4.heap.size := Nat.ne_of_lt K1_4.out.lt
                have MSB_K1 : w4.heap.size ≠ w.heap.size + 1 := Nat.ne_of_gt K1_4.out.lt
                have LSB := B_4.out.size
                have bl := (Below.refl w4.heap.size w4).alloc (Nat.le_refl _) (.cells #[.int .i64 0, .int .i64 0, .slice none 0 0] 26)
                have SB_501 := Lib.hid (Blk.new w4 26 #[.int .i64 0, .int .i64 0, .slice none 0 0])
                have B_501 := Lib.hid (Below.next B_4.out bl)
                clear B_4
                have K0_501 := Lib.hid (K0_4.out.below bl)
                clear K0_4
                have K1_501 := Lib.hid (K1_4.out.below bl)
                clear K1_4
                clear bl
                generalize w4.alloc (.cells #[.int .i64 0, .int .i64 0, .slice none 0 0] 26) = w501 at B_501 K0_501 K1_501 SB_501 ⊢
                have bl : Below w501.heap.size w501 w501.drew := (Below.refl _ _).drew
                have B_601 := Lib.hid (Below.next B_501.out bl)
                clear B_501
                have K0_601 := Lib.hid (K0_501.out.below bl)
                clear K0_501
                have K1_601 := Lib.hid (K1_501.out.below bl)
                clear K1_501
                have SB_601 := Lib.hid (SB_501.out.below bl)
                clear SB_501
                clear bl
                refine (c_toTensor r0 c0 _ _ _ z0 _ (HI0.out.kept B_601.out) HZ0.out).mono ?_
                rintro e w5 ⟨bT0, rfl, hf, bl⟩
                have T0_5 := Lib.hid (hf.base B_601.out.size)
                have B_5 := Lib.hid (Below.next B_601.out bl)
                clear B_601
                have K0_5 := Lib.hid (K0_601.out.below bl)
                clear K0_601
                have K1_5 := Lib.hid (K1_601.out.below bl)
                clear K1_601
                have SB_5 := Lib.hid (SB_601.out.below bl)
                clear SB_601
                clear bl
                clear hf
                obtain ⟨pK00, pK01, pK02, pK03⟩ := tb K0_5.out
                obtain ⟨pK10, pK11, pK12, pK13⟩ := tb K1_5.out
                obtain ⟨pSB0, pSB1, pSB2, pSB3⟩ := tb SB_5.out))
        | (go_at_call 11
           first
             | (clear pK00 pK01 pK02 pK03 pK10 pK11 pK12 pK13 pSB0 pSB1 pSB2 pSB3
                refine (c_toTensor r1 c1 _ _ _ z1 _ (HI1.out.kept B_5.out) HZ1.out).mono ?_
                rintro e w6 ⟨bT1, rfl, hf, bl⟩
                have T1_6 := Lib.hid (hf.base B_5.out.size)
                have B_6 := Lib.hid (Below.next B_5.out bl)
                clear B_5
                have K0_6 := Lib.hid (K0_5.out.below bl)
                clear K0_5
                have K1_6 := Lib.hid (K1_5.out.below bl)
                clear K1_5
                have T0_6 := Lib.hid (T0_5.out.kept bl)
                clear T0_5
                have SB_6 := Lib.hid (SB_5.out.below bl)
                clear SB_5
                clear bl
                clear hf
                obtain ⟨pK00, pK01, pK02, pK03⟩ := tb K0_6.out
                obtain ⟨pK10, pK11, pK12, pK13⟩ := tb K1_6.out
                obtain ⟨pSB0, pSB1, pSB2, pSB3⟩ := tb SB_6.out)
             | (clear pK00 pK01 pK02 pK03 pK10 pK11 pK12 pK13
                refine (c_toTensor r1 c1 _ _ _ z1 _ (HI1.out.kept B_5.out) HZ1.out).mono ?_
                rintro e w6 ⟨bT1, rfl, hf, bl⟩
                have T1_6 := Lib.hid (hf.base B_5.out.size)
                have B_6 := Lib.hid (Below.next B_5.out bl)
                clear B_5
                have K0_6 := Lib.hid (K0_5.out.below bl)
                clear K0_5
                have K1_6 := Lib.hid (K1_5.out.below bl)
                clear K1_5
                have T0_6 := Lib.hid (T0_5.out.kept bl)
                clear T0_5
                clear bl
                clear hf
                obtain ⟨pK00, pK01, pK02, pK03⟩ := tb K0_6.out
                obtain ⟨pK10, pK11, pK12, pK13⟩ := tb K1_6.out)
             | (clear pK00 pK01 pK02 pK03 pK10 pK11 pK12 pK13
                have NSB_K0 : w.heap.size ≠ w5.heap.size := Nat.ne_of_lt K0_5.out.lt
                have MSB_K0 : w5.heap.size ≠ w.heap.size := Nat.ne_of_gt K0_5.out.lt
                have NSB_K1 : w.heap.size + 1 ≠ w5.heap.size := Nat.ne_of_lt K1_5.out.lt
                have MSB_K1 : w5.heap.size ≠ w.heap.size + 1 := Nat.ne_of_gt K1_5.out.lt
                have LSB := B_5.out.size
                have bl := (Below.refl w5.heap.size w5).alloc (Nat.le_refl _) (.cells #[.int .i64 0, .int .i64 0, .slice none 0 0] 26)
                have SB_511 := Lib.hid (Blk.new w5 26 #[.int .i64 0, .int .i64 0, .slice none 0 0])
                have B_511 := Lib.hid (Below.next B_5.out bl)
                clear B_5
                have K0_511 := Lib.hid (K0_5.out.below bl)
                clear K0_5
                have K1_511 := Lib.hid (K1_5.out.below bl)
                clear K1_5
                have T0_511 := Lib.hid (T0_5.out.kept bl)
                clear T0_5
                clear bl
                generalize w5.alloc (.cells #[.int .i64 0, .int .i64 0, .slice none 0 0] 26) = w511 at B_511 K0_511 K1_511 T0_511 SB_511 ⊢
                refine (c_toTensor r1 c1 _ _ _ z1 _ (HI1.out.kept B_511.out) HZ1.out).mono ?_
                rintro e w6 ⟨bT1, rfl, hf, bl⟩
                have T1_6 := Lib.hid (hf.base B_511.out.size)
                have B_6 := Lib.hid (Below.next B_511.out bl)
                clear B_511
                have K0_6 := Lib.hid (K0_511.out.below bl)
                clear K0_511
                have K1_6 := Lib.hid (K1_511.out.below bl)
                clear K1_511
                have T0_6 := Lib.hid (T0_511.out.kept bl)
                clear T0_511
                have SB_6 := Lib.hid (SB_511.out.below bl)
                clear SB_511
                clear bl
                clear hf
                obtain ⟨pK00, pK01, pK02, pK03⟩ := tb K0_6.out
                obtain ⟨pK10, pK11, pK12, pK13⟩ := tb K1_6.out
                obtain ⟨pSB0, pSB1, pSB2, pSB3⟩ := tb SB_6.out))
        | (go_at_call 16
           first
             | (clear pK00 pK01 pK02 pK03 pK10 pK11 pK12 pK13 pSB0 pSB1 pSB2 pSB3
                refine (CS.out _ _ _ T0_6.out.isFloats T1_6.out.isFloats).mono ?_
                rintro e w7 ⟨bS, capS, yS, rfl, hf, hyS, bl⟩
                have HYS := Lib.hid hyS
                clear hyS
                have S_7 := Lib.hid (hf.base B_6.out.size)
                have B_7 := Lib.hid (Below.next B_6.out bl)
                clear B_6
                have K0_7 := Lib.hid (K0_6.out.below bl)
                clear K0_6
                have K1_7 := Lib.hid (K1_6.out.below bl)
                clear K1_6
                have T0_7 := Lib.hid (T0_6.out.kept bl)
                clear T0_6
                have T1_7 := Lib.hid (T1_6.out.kept bl)
                clear T1_6
                have SB_7 := Lib.hid (SB_6.out.below bl)
                clear SB_6
                clear bl hf
                obtain ⟨pK00, pK01, pK02, pK03⟩ := tb K0_7.out
                obtain ⟨pK10, pK11, pK12, pK13⟩ := tb K1_7.out
                obtain ⟨pSB0, pSB1, pSB2, pSB3⟩ := tb SB_7.out
                obtain ⟨fz0, fz1, fz2⟩ := tbf SB_7.out
                have st3 := store3 SB_7.out (x' := .int .i64 R) (y' := .int .i64 C) (z' := .slice bS yS.length capS))
             | (clear pK00 pK01 pK02 pK03 pK10 pK11 pK12 pK13
                refine (CS.out _ _ _ T0_6.out.isFloats T1_6.out.isFloats).mono ?_
                rintro e w7 ⟨bS, capS, yS, rfl, hf, hyS, bl⟩
                have HYS := Lib.hid hyS
                clear hyS
                have S_7 := Lib.hid (hf.base B_6.out.size)
                have B_7 := Lib.hid (Below.next B_6.out bl)
                clear B_6
                have K0_7 := Lib.hid (K0_6.out.below bl)
                clear K0_6
                have K1_7 := Lib.hid (K1_6.out.below bl)
                clear K1_6
                have T0_7 := Lib.hid (T0_6.out.kept bl)
                clear T0_6
                have T1_7 := Lib.hid (T1_6.out.kept bl)
                clear T1_6
                clear bl hf
                obtain ⟨pK00, pK01, pK02, pK03⟩ := tb K0_7.out
                obtain ⟨pK10, pK11, pK12, pK13⟩ := tb K1_7.out
                have al := fun o => (Below.refl w7.heap.size w7).alloc (Nat.le_refl _) o)
             | (clear pK00 pK01 pK02 pK03 pK10 pK11 pK12 pK13
                have NSB_K0 : w.heap.size ≠ w6.heap.size := Nat.ne_of_lt K0_6.out.lt
                have MSB_K0 : w6.heap.size ≠ w.heap.size := Nat.ne_of_gt K0_6.out.lt
                have NSB_K1 : w.heap.size + 1 ≠ w6.heap.size := Nat.ne_of_lt K1_6.out.lt
                have MSB_K1 : w6.heap.size ≠ w.heap.size + 1 := Nat.ne_of_gt K1_6.out.lt
                have LSB := B_6.out.size
                have bl := (Below.refl w6.heap.size w6).alloc (Nat.le_refl _) (.cells #[.int .i64 0, .int .i64 0, .slice none 0 0] 26)
                have SB_521 := Lib.hid (Blk.new w6 26 #[.int .i64 0, .int .i64 0, .slice none 0 0])
                have B_521 := Lib.hid (Below.next B_6.out bl)
                clear B_6
                have K0_521 := Lib.hid (K0_6.out.below bl)
                clear K0_6
                have K1_521 := Lib.hid (K1_6.out.below bl)
                clear K1_6
                have T0_521 := Lib.hid (T0_6.out.kept bl)
                clear T0_6
                have T1_521 := Lib.hid (T1_6.out.kept bl)
                clear T1_6
                clear bl
                generalize w6.alloc (.cells #[.int .i64 0, .int .i64 0, .slice none 0 0] 26) = w521 at B_521 K0_521 K1_521 T0_521 T1_521 SB_521 ⊢
                refine (CS.out _ _ _ T0_521.out.isFloats T1_521.out.isFloats).mono ?_
                rintro e w7 ⟨bS, capS, yS, rfl, hf, hyS, bl⟩
                have HYS := Lib.hid hyS
                clear hyS
                have S_7 := Lib.hid (hf.base B_521.out.size)
                have B_7 := Lib.hid (Below.next B_521.out bl)
                clear B_521
                have K0_7 := Lib.hid (K0_521.out.below bl)
                clear K0_521
                have K1_7 := Lib.hid (K1_521.out.below bl)
                clear K1_521
                have T0_7 := Lib.hid (T0_521.out.kept bl)
                clear T0_521
                have T1_7 := Lib.hid (T1_521.out.kept bl)
                clear T1_521
                have SB_7 := Lib.hid (SB_521.out.below bl)
                clear SB_521
                clear bl hf
                obtain ⟨pK00, pK01, pK02, pK03⟩ := tb K0_7.out
                obtain ⟨pK10, pK11, pK12, pK13⟩ := tb K1_7.out
                obtain ⟨pSB0, pSB1, pSB2, pSB3⟩ := tb SB_7.out
                obtain ⟨fz0, fz1, fz2⟩ := tbf SB_7.out
                have st3 := store3 SB_7.out (x' := .int .i64 R) (y' := .int .i64 C) (z' := .slice bS yS.length capS))))
    all_goals
      go_wp2_with fail
      go_meet
      first | exact ⟨_, bS, capS, yS, rfl, rfl, st3.1, S_7.out.off st3.2 SB_7.out (by decide), HYS.out, Below.at_ B_7.out st3.2 LSB, K0_7.out.off st3.2 NSB_K0, K1_7.out.off st3.2 NSB_K1⟩ | exact ⟨_, bS, capS, yS, rfl, rfl, Blk.new _ _ _, S_7.out.kept (al _), HYS.out, Below.next B_7.out (al _), K0_7.out.below (al _), K1_7.out.below (al _)⟩
  case rest =>
  obtain ⟨w24, rfl⟩ : ∃ x : World, x = wc := ⟨_, rfl⟩
  obtain ⟨gS, bS, capS, yS, rfl, rfl, hk, ho, hy, hb, h_K0, h_K1⟩ := hcut
  have K0_24 := Lib.hid h_K0
  have K1_24 := Lib.hid h_K1
  have B_24 := Lib.hid hb
  have SB_24 := Lib.hid hk
  have S_24 := Lib.hid ho
  have HYS := Lib.hid hy
  clear hk ho hy hb h_K0 h_K1 B_4 K0_4 K1_4
  obtain ⟨pK00, pK01, pK02, pK03⟩ := tb K0_24.out
  obtain ⟨pK10, pK11, pK12, pK13⟩ := tb K1_24.out
  obtain ⟨pSB0, pSB1, pSB2, pSB3⟩ := tb SB_24.out
  try go_wp2_with fail
  clear pK00 pK01 pK02 pK03 pK10 pK11 pK12 pK13 pSB0 pSB1 pSB2 pSB3
  refine (c_toTensor r0 c0 _ _ _ z0 _ (HI0.out.kept B_24.out) HZ0.out).mono ?_
  rintro e w25 ⟨bX0, rfl, hf, bl⟩
  have NSX0 := Lib.hid (lt_apart S_24.out.lt hf.lt)
  have X0_25 := Lib.hid (hf.base B_24.out.size)
  have B_25 := Lib.hid (Below.next B_24.out bl)
  clear B_24
  have K0_25 := Lib.hid (K0_24.out.below bl)
  clear K0_24
  have K1_25 := Lib.hid (K1_24.out.below bl)
  clear K1_24
  have SB_25 := Lib.hid (SB_24.out.below bl)
  clear SB_24
  have S_25 := Lib.hid (S_24.out.kept bl)
  clear S_24
  clear bl
  clear hf
  obtain ⟨pK00, pK01, pK02, pK03⟩ := tb K0_25.out
  obtain ⟨pK10, pK11, pK12, pK13⟩ := tb K1_25.out
  obtain ⟨pSB0, pSB1, pSB2, pSB3⟩ := tb SB_25.out
  go_wp2_with fail
  clear pK00 pK01 pK02 pK03 pK10 pK11 pK12 pK13 pSB0 pSB1 pSB2 pSB3
  have bl := (Below.refl w25.heap.size w25).alloc (Nat.le_refl _) (.cells #[.int .i64 r0, .int .i64 c0, .slice bX0 z0.length z0.length] 26)
  have XB0_26 := Lib.hid (Blk.new w25 26 #[.int .i64 r0, .int .i64 c0, .slice bX0 z0.length z0.length])
  have B_26 := Lib.hid (Below.next B_25.out bl)
  clear B_25
  have K0_26 := Lib.hid (K0_25.out.below bl)
  clear K0_25
  have K1_26 := Lib.hid (K1_25.out.below bl)
  clear K1_25
  have SB_26 := Lib.hid (SB_25.out.below bl)
  clear SB_25
  have S_26 := Lib.hid (S_25.out.kept bl)
  clear S_25
  have X0_26 := Lib.hid (X0_25.out.kept bl)
  clear X0_25
  clear bl
  generalize w25.alloc (.cells #[.int .i64 r0, .int .i64 c0, .slice bX0 z0.length z0.length] 26) = w26 at B_26 K0_26 K1_26 SB_26 S_26 X0_26 XB0_26 ⊢
  obtain ⟨pK00, pK01, pK02, pK03⟩ := tb K0_26.out
  obtain ⟨pK10, pK11, pK12, pK13⟩ := tb K1_26.out
  obtain ⟨pSB0, pSB1, pSB2, pSB3⟩ := tb SB_26.out
  obtain ⟨pXB00, pXB01, pXB02, pXB03⟩ := tb XB0_26.out
  try go_wp2_with fail
  clear pK00 pK01 pK02 pK03 pK10 pK11 pK12 pK13 pSB0 pSB1 pSB2 pSB3 pXB00 pXB01 pXB02 pXB03
  refine (c_toTensor r1 c1 _ _ _ z1 _ (HI1.out.kept B_26.out) HZ1.out).mono ?_
  rintro e w27 ⟨bX1, rfl, hf, bl⟩
  have NSX1 := Lib.hid (lt_apart S_26.out.lt hf.lt)
  have NXX0_1 := Lib.hid (lt_apart X0_26.out.lt hf.lt)
  have X1_27 := Lib.hid (hf.base B_26.out.size)
  have B_27 := Lib.hid (Below.next B_26.out bl)
  clear B_26
  have K0_27 := Lib.hid (K0_26.out.below bl)
  clear K0_26
  have K1_27 := Lib.hid (K1_26.out.below bl)
  clear K1_26
  have SB_27 := Lib.hid (SB_26.out.below bl)
  clear SB_26
  have S_27 := Lib.hid (S_26.out.kept bl)
  clear S_26
  have X0_27 := Lib.hid (X0_26.out.kept bl)
  clear X0_26
  have XB0_27 := Lib.hid (XB0_26.out.below bl)
  clear XB0_26
  clear bl
  clear hf
  obtain ⟨pK00, pK01, pK02, pK03⟩ := tb K0_27.out
  obtain ⟨pK10, pK11, pK12, pK13⟩ := tb K1_27.out
  obtain ⟨pSB0, pSB1, pSB2, pSB3⟩ := tb SB_27.out
  obtain ⟨pXB00, pXB01, pXB02, pXB03⟩ := tb XB0_27.out
  go_wp2_with fail
  clear pK00 pK01 pK02 pK03 pK10 pK11 pK12 pK13 pSB0 pSB1 pSB2 pSB3 pXB00 pXB01 pXB02 pXB03
  have bl := (Below.refl w27.heap.size w27).alloc (Nat.le_refl _) (.cells #[.int .i64 r1, .int .i64 c1, .slice bX1 z1.length z1.length] 26)
  have XB1_28 := Lib.hid (Blk.new w27 26 #[.int .i64 r1, .int .i64 c1, .slice bX1 z1.length z1.length])
  have B_28 := Lib.hid (Below.next B_27.out bl)
  clear B_27
  have K0_28 := Lib.hid (K0_27.out.below bl)
  clear K0_27
  have K1_28 := Lib.hid (K1_27.out.below bl)
  clear K1_27
  have SB_28 := Lib.hid (SB_27.out.below bl)
  clear SB_27
  have S_28 := Lib.hid (S_27.out.kept bl)
  clear S_27
  have X0_28 := Lib.hid (X0_27.out.kept bl)
  clear X0_27
  have XB0_28 := Lib.hid (XB0_27.out.below bl)
  clear XB0_27
  have X1_28 := Lib.hid (X1_27.out.kept bl)
  clear X1_27
  clear bl
  generalize w27.alloc (.cells #[.int .i64 r1, .int .i64 c1, .slice bX1 z1.length z1.length] 26) = w28 at B_28 K0_28 K1_28 SB_28 S_28 X0_28 XB0_28 X1_28 XB1_28 ⊢
  obtain ⟨pK00, pK01, pK02, pK03⟩ := tb K0_28.out
  obtain ⟨pK10, pK11, pK12, pK13⟩ := tb K1_28.out
  obtain ⟨pSB0, pSB1, pSB2, pSB3⟩ := tb SB_28.out
  obtain ⟨pXB00, pXB01, pXB02, pXB03⟩ := tb XB0_28.out
  obtain ⟨pXB10, pXB11, pXB12, pXB13⟩ := tb XB1_28.out
  try go_wp2_with fail
  clear pK00 pK01 pK02 pK03 pK10 pK11 pK12 pK13 pSB0 pSB1 pSB2 pSB3 pXB00 pXB01 pXB02 pXB03 pXB10 pXB11 pXB12 pXB13
  refine (CI.out _ _ _ X0_28.out.isFloats X1_28.out.isFloats).mono ?_
  rintro e w29 ⟨bG, capG, yG, rfl, hf, hyG, bl⟩
  have HYG := Lib.hid hyG
  clear hyG
  have NX0 := Lib.hid (lt_apart X0_28.out.lt hf.lt)
  have NX1 := Lib.hid (lt_apart X1_28.out.lt hf.lt)
  have NS := Lib.hid (lt_apart S_28.out.lt hf.lt)
  have LG := Lib.hid (hf.lenle HYG.out hz)
  have BG := Lib.hid (hf.base B_28.out.size)
  have G_29 := Lib.hid (hf.base B_28.out.size)
  have B_29 := Lib.hid (Below.next B_28.out bl)
  clear B_28
  have K0_29 := Lib.hid (K0_28.out.below bl)
  clear K0_28
  have K1_29 := Lib.hid (K1_28.out.below bl)
  clear K1_28
  have SB_29 := Lib.hid (SB_28.out.below bl)
  clear SB_28
  have S_29 := Lib.hid (S_28.out.kept bl)
  clear S_28
  have X0_29 := Lib.hid (X0_28.out.kept bl)
  clear X0_28
  have XB0_29 := Lib.hid (XB0_28.out.below bl)
  clear XB0_28
  have X1_29 := Lib.hid (X1_28.out.kept bl)
  clear X1_28
  have XB1_29 := Lib.hid (XB1_28.out.below bl)
  clear XB1_28
  clear bl hf
  obtain ⟨pK00, pK01, pK02, pK03⟩ := tb K0_29.out
  obtain ⟨pK10, pK11, pK12, pK13⟩ := tb K1_29.out
  obtain ⟨pSB0, pSB1, pSB2, pSB3⟩ := tb SB_29.out
  obtain ⟨pXB00, pXB01, pXB02, pXB03⟩ := tb XB0_29.out
  obtain ⟨pXB10, pXB11, pXB12, pXB13⟩ := tb XB1_29.out
  go_wp2_with fail
  clear pK00 pK01 pK02 pK03 pK10 pK11 pK12 pK13 pSB0 pSB1 pSB2 pSB3 pXB00 pXB01 pXB02 pXB03 pXB10 pXB11 pXB12 pXB13
  have bl := (Below.refl w29.heap.size w29).alloc (Nat.le_refl _) (.cells #[.int .i64 R, .int .i64 C, .slice bG yG.length capG] 26)
  have GB_30 := Lib.hid (Blk.new w29 26 #[.int .i64 R, .int .i64 C, .slice bG yG.length capG])
  have B_30 := Lib.hid (Below.next B_29.out bl)
  clear B_29
  have K0_30 := Lib.hid (K0_29.out.below bl)
  clear K0_29
  have K1_30 := Lib.hid (K1_29.out.below bl)
  clear K1_29
  have SB_30 := Lib.hid (SB_29.out.below bl)
  clear SB_29
  have S_30 := Lib.hid (S_29.out.kept bl)
  clear S_29
  have X0_30 := Lib.hid (X0_29.out.kept bl)
  clear X0_29
  have XB0_30 := Lib.hid (XB0_29.out.below bl)
  clear XB0_29
  have X1_30 := Lib.hid (X1_29.out.kept bl)
  clear X1_29
  have XB1_30 := Lib.hid (XB1_29.out.below bl)
  clear XB1_29
  have G_30 := Lib.hid (G_29.out.kept bl)
  clear G_29
  clear bl
  generalize w29.alloc (.cells #[.int .i64 R, .int .i64 C, .slice bG yG.length capG] 26) = w30 at B_30 K0_30 K1_30 SB_30 S_30 X0_30 XB0_30 X1_30 XB1_30 G_30 GB_30 ⊢
  obtain ⟨pK00, pK01, pK02, pK03⟩ := tb K0_30.out
  obtain ⟨pK10, pK11, pK12, pK13⟩ := tb K1_30.out
  obtain ⟨pSB0, pSB1, pSB2, pSB3⟩ := tb SB_30.out
  obtain ⟨pXB00, pXB01, pXB02, pXB03⟩ := tb XB0_30.out
  obtain ⟨pXB10, pXB11, pXB12, pXB13⟩ := tb XB1_30.out
  obtain ⟨pGB0, pGB1, pGB2, pGB3⟩ := tb GB_30.out
  try go_wp2_with fail
  clear pK00 pK01 pK02 pK03 pK10 pK11 pK12 pK13 pSB0 pSB1 pSB2 pSB3 pXB00 pXB01 pXB02 pXB03 pXB10 pXB11 pXB12 pXB13 pGB0 pGB1 pGB2 pGB3
  refine (c_eqTensor R C _ _ _ _ yG yS _ G_30.out.isFloats S_30.out.isFloats (HYG.out.trans HYS.out.symm)).mono ?_
  rintro e w31 ⟨rfl, bl⟩
  have B_31 := Lib.hid (Below.next B_30.out bl)
  clear B_30
  have K0_31 := Lib.hid (K0_30.out.below bl)
  clear K0_30
  have K1_31 := Lib.hid (K1_30.out.below bl)
  clear K1_30
  have SB_31 := Lib.hid (SB_30.out.below bl)
  clear SB_30
  have S_31 := Lib.hid (S_30.out.kept bl)
  clear S_30
  have X0_31 := Lib.hid (X0_30.out.kept bl)
  clear X0_30
  have XB0_31 := Lib.hid (XB0_30.out.below bl)
  clear XB0_30
  have X1_31 := Lib.hid (X1_30.out.kept bl)
  clear X1_30
  have XB1_31 := Lib.hid (XB1_30.out.below bl)
  clear XB1_30
  have G_31 := Lib.hid (G_30.out.kept bl)
  clear G_30
  have GB_31 := Lib.hid (GB_30.out.below bl)
  clear GB_30
  clear bl
  obtain ⟨pK00, pK01, pK02, pK03⟩ := tb K0_31.out
  obtain ⟨pK10, pK11, pK12, pK13⟩ := tb K1_31.out
  obtain ⟨pSB0, pSB1, pSB2, pSB3⟩ := tb SB_31.out
  obtain ⟨pXB00, pXB01, pXB02, pXB03⟩ := tb XB0_31.out
  obtain ⟨pXB10, pXB11, pXB12, pXB13⟩ := tb XB1_31.out
  obtain ⟨pGB0, pGB1, pGB2, pGB3⟩ := tb GB_31.out
  go_wp2_with fail
  clear pK00 pK01 pK02 pK03 pK10 pK11 pK12 pK13 pSB0 pSB1 pSB2 pSB3 pXB00 pXB01 pXB02 pXB03 pXB10 pXB11 pXB12 pXB13 pGB0 pGB1 pGB2 pGB3
  have bl : Below w31.heap.size w31 w31.drew := (Below.refl _ _).drew
  have B_32 := Lib.hid (Below.next B_31.out bl)
  clear B_31
  have K0_32 := Lib.hid (K0_31.out.below bl)
  clear K0_31
  have K1_32 := Lib.hid (K1_31.out.below bl)
  clear K1_31
  have SB_32 := Lib.hid (SB_31.out.below bl)
  clear SB_31
  have S_32 := Lib.hid (S_31.out.kept bl)
  clear S_31
  have X0_32 := Lib.hid (X0_31.out.kept bl)
  clear X0_31
  have XB0_32 := Lib.hid (XB0_31.out.below bl)
  clear XB0_31
  have X1_32 := Lib.hid (X1_31.out.kept bl)
  clear X1_31
  have XB1_32 := Lib.hid (XB1_31.out.below bl)
  clear XB1_31
  have G_32 := Lib.hid (G_31.out.kept bl)
  clear G_31
  have GB_32 := Lib.hid (GB_31.out.below bl)
  clear GB_31
  clear bl
  obtain ⟨pK00, pK01, pK02, pK03⟩ := tb K0_32.out
  obtain ⟨pK10, pK11, pK12, pK13⟩ := tb K1_32.out
  obtain ⟨pSB0, pSB1, pSB2, pSB3⟩ := tb SB_32.out
  obtain ⟨pXB00, pXB01, pXB02, pXB03⟩ := tb XB0_32.out
  obtain ⟨pXB10, pXB11, pXB12, pXB13⟩ := tb XB1_32.out
  obtain ⟨pGB0, pGB1, pGB2, pGB3⟩ := tb GB_32.out
  go_region_held3 (fun w' => w'.cell? ⟨w.heap.size, 0, none⟩ = some (.int .i64 r0) ∧ w'.cell? ⟨w.heap.size, 1, none⟩ = some (.int .i64 c0) ∧ w'.cell? ⟨w.heap.size, 2, none⟩ = some (.slice a0 z0.length cap0) ∧ w'.cell? ⟨w.heap.size + 1, 0, none⟩ = some (.int .i64 r1) ∧ w'.cell? ⟨w.heap.size + 1, 1, none⟩ = some (.int .i64 c1) ∧ w'.cell? ⟨w.heap.size + 1, 2, none⟩ = some (.slice a1 z1.length cap1) ∧ w'.cell? ⟨gS, 0, none⟩ = some (.int .i64 R) ∧ w'.cell? ⟨gS, 1, none⟩ = some (.int .i64 C) ∧ w'.cell? ⟨gS, 2, none⟩ = some (.slice bS yS.length capS) ∧ w'.cell? ⟨w25.heap.size, 0, none⟩ = some (.int .i64 r0) ∧ w'.cell? ⟨w25.heap.size, 1, none⟩ = some (.int .i64 c0) ∧ w'.cell? ⟨w25.heap.size, 2, none⟩ = some (.slice bX0 z0.length z0.length) ∧ w'.cell? ⟨w27.heap.size, 0, none⟩ = some (.int .i64 r1) ∧ w'.cell? ⟨w27.heap.size, 1, none⟩ = some (.int .i64 c1) ∧ w'.cell? ⟨w27.heap.size, 2, none⟩ = some (.slice bX1 z1.length z1.length) ∧ w'.cell? ⟨w29.heap.size, 0, none⟩ = some (.int .i64 R) ∧ w'.cell? ⟨w29.heap.size, 1, none⟩ = some (.int .i64 C) ∧ w'.cell? ⟨w29.heap.size, 2, none⟩ = some (.slice bG yG.length capG)) (go_keep)
    (first
      | (go_at_call 11
         clear pK00 pK01 pK02 pK03 pK10 pK11 pK12 pK13 pSB0 pSB1 pSB2 pSB3 pXB00 pXB01 pXB02 pXB03 pXB10 pXB11 pXB12 pXB13 pGB0 pGB1 pGB2 pGB3
         refine (c_toTensor r0 c0 _ _ _ z0 _ (HI0.out.kept B_32.out) HZ0.out).mono ?_
         rintro e w33 ⟨bY0, rfl, hf, bl⟩
         have Y0_33 := Lib.hid (hf.base B_32.out.size)
         have B_33 := Lib.hid (Below.next B_32.out bl)
         clear B_32
         have K0_33 := Lib.hid (K0_32.out.below bl)
         clear K0_32
         have K1_33 := Lib.hid (K1_32.out.below bl)
         clear K1_32
         have SB_33 := Lib.hid (SB_32.out.below bl)
         clear SB_32
         have S_33 := Lib.hid (S_32.out.kept bl)
         clear S_32
         have X0_33 := Lib.hid (X0_32.out.kept bl)
         clear X0_32
         have XB0_33 := Lib.hid (XB0_32.out.below bl)
         clear XB0_32
         have X1_33 := Lib.hid (X1_32.out.kept bl)
         clear X1_32
         have XB1_33 := Lib.hid (XB1_32.out.below bl)
         clear XB1_32
         have G_33 := Lib.hid (G_32.out.kept bl)
         clear G_32
         have GB_33 := Lib.hid (GB_32.out.below bl)
         clear GB_32
         clear bl
         clear hf
         obtain ⟨pK00, pK01, pK02, pK03⟩ := tb K0_33.out
         obtain ⟨pK10, pK11, pK12, pK13⟩ := tb K1_33.out
         obtain ⟨pSB0, pSB1, pSB2, pSB3⟩ := tb SB_33.out
         obtain ⟨pXB00, pXB01, pXB02, pXB03⟩ := tb XB0_33.out
         obtain ⟨pXB10, pXB11, pXB12, pXB13⟩ := tb XB1_33.out
         obtain ⟨pGB0, pGB1, pGB2, pGB3⟩ := tb GB_33.out)
      | (go_at_call 13
         clear pK00 pK01 pK02 pK03 pK10 pK11 pK12 pK13 pSB0 pSB1 pSB2 pSB3 pXB00 pXB01 pXB02 pXB03 pXB10 pXB11 pXB12 pXB13 pGB0 pGB1 pGB2 pGB3
         refine (c_eqTensor r0 c0 _ _ _ _ z0 z0 _ X0_33.out.isFloats Y0_33.out.isFloats rfl).mono ?_
         rintro e w34 ⟨rfl, bl⟩
         have B_34 := Lib.hid (Below.next B_33.out bl)
         clear B_33
         have K0_34 := Lib.hid (K0_33.out.below bl)
         clear K0_33
         have K1_34 := Lib.hid (K1_33.out.below bl)
         clear K1_33
         have SB_34 := Lib.hid (SB_33.out.below bl)
         clear SB_33
         have S_34 := Lib.hid (S_33.out.kept bl)
         clear S_33
         have X0_34 := Lib.hid (X0_33.out.kept bl)
         clear X0_33
         have XB0_34 := Lib.hid (XB0_33.out.below bl)
         clear XB0_33
         have X1_34 := Lib.hid (X1_33.out.kept bl)
         clear X1_33
         have XB1_34 := Lib.hid (XB1_33.out.below bl)
         clear XB1_33
         have G_34 := Lib.hid (G_33.out.kept bl)
         clear G_33
         have GB_34 := Lib.hid (GB_33.out.below bl)
         clear GB_33
         have Y0_34 := Lib.hid (Y0_33.out.kept bl)
         clear Y0_33
         clear bl
         obtain ⟨pK00, pK01, pK02, pK03⟩ := tb K0_34.out
         obtain ⟨pK10, pK11, pK12, pK13⟩ := tb K1_34.out
         obtain ⟨pSB0, pSB1, pSB2, pSB3⟩ := tb SB_34.out
         obtain ⟨pXB00, pXB01, pXB02, pXB03⟩ := tb XB0_34.out
         obtain ⟨pXB10, pXB11, pXB12, pXB13⟩ := tb XB1_34.out
         obtain ⟨pGB0, pGB1, pGB2, pGB3⟩ := tb GB_34.out))
  clear pK00 pK01 pK02 pK03 pK10 pK11 pK12 pK13 pSB0 pSB1 pSB2 pSB3 pXB00 pXB01 pXB02 pXB03 pXB10 pXB11 pXB12 pXB13 pGB0 pGB1 pGB2 pGB3
  clear Y0_34
  obtain ⟨pK00, pK01, pK02, pK03⟩ := tb K0_34.out
  obtain ⟨pK10, pK11, pK12, pK13⟩ := tb K1_34.out
  obtain ⟨pSB0, pSB1, pSB2, pSB3⟩ := tb SB_34.out
  obtain ⟨pXB00, pXB01, pXB02, pXB03⟩ := tb XB0_34.out
  obtain ⟨pXB10, pXB11, pXB12, pXB13⟩ := tb XB1_34.out
  obtain ⟨pGB0, pGB1, pGB2, pGB3⟩ := tb GB_34.out
  go_wp2_with fail
  clear pK00 pK01 pK02 pK03 pK10 pK11 pK12 pK13 pSB0 pSB1 pSB2 pSB3 pXB00 pXB01 pXB02 pXB03 pXB10 pXB11 pXB12 pXB13 pGB0 pGB1 pGB2 pGB3
  have bl : Below w34.heap.size w34 w34.drew := (Below.refl _ _).drew
  have B_35 := Lib.hid (Below.next B_34.out bl)
  clear B_34
  have K0_35 := Lib.hid (K0_34.out.below bl)
  clear K0_34
  have K1_35 := Lib.hid (K1_34.out.below bl)
  clear K1_34
  have SB_35 := Lib.hid (SB_34.out.below bl)
  clear SB_34
  have S_35 := Lib.hid (S_34.out.kept bl)
  clear S_34
  have X0_35 := Lib.hid (X0_34.out.kept bl)
  clear X0_34
  have XB0_35 := Lib.hid (XB0_34.out.below bl)
  clear XB0_34
  have X1_35 := Lib.hid (X1_34.out.kept bl)
  clear X1_34
  have XB1_35 := Lib.hid (XB1_34.out.below bl)
  clear XB1_34
  have G_35 := Lib.hid (G_34.out.kept bl)
  clear G_34
  have GB_35 := Lib.hid (GB_34.out.below bl)
  clear GB_34
  clear bl
  obtain ⟨pK00, pK01, pK02, pK03⟩ := tb K0_35.out
  obtain ⟨pK10, pK11, pK12, pK13⟩ := tb K1_35.out
  obtain ⟨pSB0, pSB1, pSB2, pSB3⟩ := tb SB_35.out
  obtain ⟨pXB00, pXB01, pXB02, pXB03⟩ := tb XB0_35.out
  obtain ⟨pXB10, pXB11, pXB12, pXB13⟩ := tb XB1_35.out
  obtain ⟨pGB0, pGB1, pGB2, pGB3⟩ := tb GB_35.out
  go_region_held3 (fun w' => w'.cell? ⟨w.heap.size, 0, none⟩ = some (.int .i64 r0) ∧ w'.cell? ⟨w.heap.size, 1, none⟩ = some (.int .i64 c0) ∧ w'.cell? ⟨w.heap.size, 2, none⟩ = some (.slice a0 z0.length cap0) ∧ w'.cell? ⟨w.heap.size + 1, 0, none⟩ = some (.int .i64 r1) ∧ w'.cell? ⟨w.heap.size + 1, 1, none⟩ = some (.int .i64 c1) ∧ w'.cell? ⟨w.heap.size + 1, 2, none⟩ = some (.slice a1 z1.length cap1) ∧ w'.cell? ⟨gS, 0, none⟩ = some (.int .i64 R) ∧ w'.cell? ⟨gS, 1, none⟩ = some (.int .i64 C) ∧ w'.cell? ⟨gS, 2, none⟩ = some (.slice bS yS.length capS) ∧ w'.cell? ⟨w25.heap.size, 0, none⟩ = some (.int .i64 r0) ∧ w'.cell? ⟨w25.heap.size, 1, none⟩ = some (.int .i64 c0) ∧ w'.cell? ⟨w25.heap.size, 2, none⟩ = some (.slice bX0 z0.length z0.length) ∧ w'.cell? ⟨w27.heap.size, 0, none⟩ = some (.int .i64 r1) ∧ w'.cell? ⟨w27.heap.size, 1, none⟩ = some (.int .i64 c1) ∧ w'.cell? ⟨w27.heap.size, 2, none⟩ = some (.slice bX1 z1.length z1.length) ∧ w'.cell? ⟨w29.heap.size, 0, none⟩ = some (.int .i64 R) ∧ w'.cell? ⟨w29.heap.size, 1, none⟩ = some (.int .i64 C) ∧ w'.cell? ⟨w29.heap.size, 2, none⟩ = some (.slice bG yG.length capG)) (go_keep)
    (first
      | (go_at_call 11
         clear pK00 pK01 pK02 pK03 pK10 pK11 pK12 pK13 pSB0 pSB1 pSB2 pSB3 pXB00 pXB01 pXB02 pXB03 pXB10 pXB11 pXB12 pXB13 pGB0 pGB1 pGB2 pGB3
         refine (c_toTensor r1 c1 _ _ _ z1 _ (HI1.out.kept B_35.out) HZ1.out).mono ?_
         rintro e w36 ⟨bY1, rfl, hf, bl⟩
         have Y1_36 := Lib.hid (hf.base B_35.out.size)
         have B_36 := Lib.hid (Below.next B_35.out bl)
         clear B_35
         have K0_36 := Lib.hid (K0_35.out.below bl)
         clear K0_35
         have K1_36 := Lib.hid (K1_35.out.below bl)
         clear K1_35
         have SB_36 := Lib.hid (SB_35.out.below bl)
         clear SB_35
         have S_36 := Lib.hid (S_35.out.kept bl)
         clear S_35
         have X0_36 := Lib.hid (X0_35.out.kept bl)
         clear X0_35
         have XB0_36 := Lib.hid (XB0_35.out.below bl)
         clear XB0_35
         have X1_36 := Lib.hid (X1_35.out.kept bl)
         clear X1_35
         have XB1_36 := Lib.hid (XB1_35.out.below bl)
         clear XB1_35
         have G_36 := Lib.hid (G_35.out.kept bl)
         clear G_35
         have GB_36 := Lib.hid (GB_35.out.below bl)
         clear GB_35
         clear bl
         clear hf
         obtain ⟨pK00, pK01, pK02, pK03⟩ := tb K0_36.out
         obtain ⟨pK10, pK11, pK12, pK13⟩ := tb K1_36.out
         obtain ⟨pSB0, pSB1, pSB2, pSB3⟩ := tb SB_36.out
         obtain ⟨pXB00, pXB01, pXB02, pXB03⟩ := tb XB0_36.out
         obtain ⟨pXB10, pXB11, pXB12, pXB13⟩ := tb XB1_36.out
         obtain ⟨pGB0, pGB1, pGB2, pGB3⟩ := tb GB_36.out)
      | (go_at_call 13
         clear pK00 pK01 pK02 pK03 pK10 pK11 pK12 pK13 pSB0 pSB1 pSB2 pSB3 pXB00 pXB01 pXB02 pXB03 pXB10 pXB11 pXB12 pXB13 pGB0 pGB1 pGB2 pGB3
         refine (c_eqTensor r1 c1 _ _ _ _ z1 z1 _ X1_36.out.isFloats Y1_36.out.isFloats rfl).mono ?_
         rintro e w37 ⟨rfl, bl⟩
         have B_37 := Lib.hid (Below.next B_36.out bl)
         clear B_36
         have K0_37 := Lib.hid (K0_36.out.below bl)
         clear K0_36
         have K1_37 := Lib.hid (K1_36.out.below bl)
         clear K1_36
         have SB_37 := Lib.hid (SB_36.out.below bl)
         clear SB_36
         have S_37 := Lib.hid (S_36.out.kept bl)
         clear S_36
         have X0_37 := Lib.hid (X0_36.out.kept bl)
         clear X0_36
         have XB0_37 := Lib.hid (XB0_36.out.below bl)
         clear XB0_36
         have X1_37 := Lib.hid (X1_36.out.kept bl)
         clear X1_36
         have XB1_37 := Lib.hid (XB1_36.out.below bl)
         clear XB1_36
         have G_37 := Lib.hid (G_36.out.kept bl)
         clear G_36
         have GB_37 := Lib.hid (GB_36.out.below bl)
         clear GB_36
         have Y1_37 := Lib.hid (Y1_36.out.kept bl)
         clear Y1_36
         clear bl
         obtain ⟨pK00, pK01, pK02, pK03⟩ := tb K0_37.out
         obtain ⟨pK10, pK11, pK12, pK13⟩ := tb K1_37.out
         obtain ⟨pSB0, pSB1, pSB2, pSB3⟩ := tb SB_37.out
         obtain ⟨pXB00, pXB01, pXB02, pXB03⟩ := tb XB0_37.out
         obtain ⟨pXB10, pXB11, pXB12, pXB13⟩ := tb XB1_37.out
         obtain ⟨pGB0, pGB1, pGB2, pGB3⟩ := tb GB_37.out))
  clear pK00 pK01 pK02 pK03 pK10 pK11 pK12 pK13 pSB0 pSB1 pSB2 pSB3 pXB00 pXB01 pXB02 pXB03 pXB10 pXB11 pXB12 pXB13 pGB0 pGB1 pGB2 pGB3
  clear Y1_37
  obtain ⟨pK00, pK01, pK02, pK03⟩ := tb K0_37.out
  obtain ⟨pK10, pK11, pK12, pK13⟩ := tb K1_37.out
  obtain ⟨pSB0, pSB1, pSB2, pSB3⟩ := tb SB_37.out
  obtain ⟨pXB00, pXB01, pXB02, pXB03⟩ := tb XB0_37.out
  obtain ⟨pXB10, pXB11, pXB12, pXB13⟩ := tb XB1_37.out
  obtain ⟨pGB0, pGB1, pGB2, pGB3⟩ := tb GB_37.out
  go_wp2_with fail
  clear pK00 pK01 pK02 pK03 pK10 pK11 pK12 pK13 pSB0 pSB1 pSB2 pSB3 pXB00 pXB01 pXB02 pXB03 pXB10 pXB11 pXB12 pXB13 pGB0 pGB1 pGB2 pGB3
  refine (c_markTensor' r0 c0 _ _ _ 1 m0 z0 _ X0_37.out HM0.out (by decide) HZ0.out).mono ?_
  rintro e w38 ⟨rfl, ho, hg⟩
  have B_38 := Lib.hid (Below.grownBy B_37.out hg B_37.out.size (fun g h => (X0_37.out.lt g h).1))
  have K0_38 := Lib.hid (K0_37.out.apart hg X0_37.out (by decide))
  have K1_38 := Lib.hid (K1_37.out.apart hg X0_37.out (by decide))
  have SB_38 := Lib.hid (SB_37.out.apart hg X0_37.out (by decide))
  have S_38 := Lib.hid (S_37.out.apart hg NSX0.out)
  have X0_38 := Lib.hid (ho)
  have XB0_38 := Lib.hid (XB0_37.out.apart hg X0_37.out (by decide))
  have X1_38 := Lib.hid (X1_37.out.apart hg (fun g h h' => NXX0_1.out g h' h))
  have XB1_38 := Lib.hid (XB1_37.out.apart hg X0_37.out (by decide))
  have G_38 := Lib.hid (G_37.out.apart hg (fun g h h' => NX0.out g h' h))
  have GB_38 := Lib.hid (GB_37.out.apart hg X0_37.out (by decide))
  clear B_37
  clear K0_37
  clear K1_37
  clear SB_37
  clear S_37
  clear X0_37
  clear XB0_37
  clear X1_37
  clear XB1_37
  clear G_37
  clear GB_37
  clear ho hg
  obtain ⟨pK00, pK01, pK02, pK03⟩ := tb K0_38.out
  obtain ⟨pK10, pK11, pK12, pK13⟩ := tb K1_38.out
  obtain ⟨pSB0, pSB1, pSB2, pSB3⟩ := tb SB_38.out
  obtain ⟨pXB00, pXB01, pXB02, pXB03⟩ := tb XB0_38.out
  obtain ⟨pXB10, pXB11, pXB12, pXB13⟩ := tb XB1_38.out
  obtain ⟨pGB0, pGB1, pGB2, pGB3⟩ := tb GB_38.out
  go_wp2_with fail
  clear pK00 pK01 pK02 pK03 pK10 pK11 pK12 pK13 pSB0 pSB1 pSB2 pSB3 pXB00 pXB01 pXB02 pXB03 pXB10 pXB11 pXB12 pXB13 pGB0 pGB1 pGB2 pGB3
  refine (c_markTensor' r1 c1 _ _ _ m0 m1 z1 _ X1_38.out HM1.out hm0' HZ1.out).mono ?_
  rintro e w39 ⟨rfl, ho, hg⟩
  have B_39 := Lib.hid (Below.grownBy B_38.out hg B_38.out.size (fun g h => (X1_38.out.lt g h).1))
  have K0_39 := Lib.hid (K0_38.out.apart hg X1_38.out (by decide))
  have K1_39 := Lib.hid (K1_38.out.apart hg X1_38.out (by decide))
  have SB_39 := Lib.hid (SB_38.out.apart hg X1_38.out (by decide))
  have S_39 := Lib.hid (S_38.out.apart hg NSX1.out)
  have X0_39 := Lib.hid (X0_38.out.apart hg NXX0_1.out)
  have XB0_39 := Lib.hid (XB0_38.out.apart hg X1_38.out (by decide))
  have X1_39 := Lib.hid (ho)
  have XB1_39 := Lib.hid (XB1_38.out.apart hg X1_38.out (by decide))
  have G_39 := Lib.hid (G_38.out.apart hg (fun g h h' => NX1.out g h' h))
  have GB_39 := Lib.hid (GB_38.out.apart hg X1_38.out (by decide))
  clear B_38
  clear K0_38
  clear K1_38
  clear SB_38
  clear S_38
  clear X0_38
  clear XB0_38
  clear X1_38
  clear XB1_38
  clear G_38
  clear GB_38
  clear ho hg
  clear X0_39
  clear X1_39
  obtain ⟨pK00, pK01, pK02, pK03⟩ := tb K0_39.out
  obtain ⟨pK10, pK11, pK12, pK13⟩ := tb K1_39.out
  obtain ⟨pSB0, pSB1, pSB2, pSB3⟩ := tb SB_39.out
  obtain ⟨pXB00, pXB01, pXB02, pXB03⟩ := tb XB0_39.out
  obtain ⟨pXB10, pXB11, pXB12, pXB13⟩ := tb XB1_39.out
  obtain ⟨pGB0, pGB1, pGB2, pGB3⟩ := tb GB_39.out
  go_wp2_with fail
  clear pK00 pK01 pK02 pK03 pK10 pK11 pK12 pK13 pSB0 pSB1 pSB2 pSB3 pXB00 pXB01 pXB02 pXB03 pXB10 pXB11 pXB12 pXB13 pGB0 pGB1 pGB2 pGB3
  refine (c_eqTensor R C _ _ _ _ yG yS _ G_39.out.isFloats S_39.out.isFloats (HYG.out.trans HYS.out.symm)).mono ?_
  rintro e w40 ⟨rfl, bl⟩
  have B_40 := Lib.hid (Below.next B_39.out bl)
  clear B_39
  have K0_40 := Lib.hid (K0_39.out.below bl)
  clear K0_39
  have K1_40 := Lib.hid (K1_39.out.below bl)
  clear K1_39
  have SB_40 := Lib.hid (SB_39.out.below bl)
  clear SB_39
  have S_40 := Lib.hid (S_39.out.kept bl)
  clear S_39
  have XB0_40 := Lib.hid (XB0_39.out.below bl)
  clear XB0_39
  have XB1_40 := Lib.hid (XB1_39.out.below bl)
  clear XB1_39
  have G_40 := Lib.hid (G_39.out.kept bl)
  clear G_39
  have GB_40 := Lib.hid (GB_39.out.below bl)
  clear GB_39
  clear bl
  clear XB0_40
  clear XB1_40
  obtain ⟨pK00, pK01, pK02, pK03⟩ := tb K0_40.out
  obtain ⟨pK10, pK11, pK12, pK13⟩ := tb K1_40.out
  obtain ⟨pSB0, pSB1, pSB2, pSB3⟩ := tb SB_40.out
  obtain ⟨pGB0, pGB1, pGB2, pGB3⟩ := tb GB_40.out
  go_wp2_with fail
  clear pK00 pK01 pK02 pK03 pK10 pK11 pK12 pK13 pSB0 pSB1 pSB2 pSB3 pGB0 pGB1 pGB2 pGB3
  obtain ⟨q, hq⟩ : ∃ q, 1 + yG.length = q := ⟨_, rfl⟩
  have HQ := Lib.hid hq
  have hq' : q ≤ 4194304 := by have := LG.out; omega
  have hq0 : (0 : Int) ≤ (q : Int) := by omega
  clear hq
  refine (c_markTensor' R C _ _ _ 1 q yG _ G_40.out HQ.out (by decide) LG.out).mono ?_
  rintro e w41 ⟨rfl, ho, hg⟩
  have B_41 := Lib.hid (Below.grownBy B_40.out hg B_40.out.size (fun g h => (G_40.out.lt g h).1))
  have K0_41 := Lib.hid (K0_40.out.apart hg G_40.out (by decide))
  have K1_41 := Lib.hid (K1_40.out.apart hg G_40.out (by decide))
  have SB_41 := Lib.hid (SB_40.out.apart hg G_40.out (by decide))
  have S_41 := Lib.hid (S_40.out.apart hg NS.out)
  have G_41 := Lib.hid (ho)
  have GB_41 := Lib.hid (GB_40.out.apart hg G_40.out (by decide))
  clear B_40
  clear K0_40
  clear K1_40
  clear SB_40
  clear S_40
  clear G_40
  clear GB_40
  clear ho hg
  obtain ⟨pK00, pK01, pK02, pK03⟩ := tb K0_41.out
  obtain ⟨pK10, pK11, pK12, pK13⟩ := tb K1_41.out
  obtain ⟨pSB0, pSB1, pSB2, pSB3⟩ := tb SB_41.out
  obtain ⟨pGB0, pGB1, pGB2, pGB3⟩ := tb GB_41.out
  go_wp2_with fail
  clear pK00 pK01 pK02 pK03 pK10 pK11 pK12 pK13 pSB0 pSB1 pSB2 pSB3 pGB0 pGB1 pGB2 pGB3
  refine (c_heldTensor' R C _ _ 1 q yG.length _ G_41.out.held HQ.out (by decide) LG.out).mono ?_
  rintro e w42 ⟨rfl, bl⟩
  have B_42 := Lib.hid (Below.next B_41.out bl)
  clear B_41
  have K0_42 := Lib.hid (K0_41.out.below bl)
  clear K0_41
  have K1_42 := Lib.hid (K1_41.out.below bl)
  clear K1_41
  have SB_42 := Lib.hid (SB_41.out.below bl)
  clear SB_41
  have S_42 := Lib.hid (S_41.out.kept bl)
  clear S_41
  have G_42 := Lib.hid (G_41.out.kept bl)
  clear G_41
  have GB_42 := Lib.hid (GB_41.out.below bl)
  clear GB_41
  clear bl
  obtain ⟨pK00, pK01, pK02, pK03⟩ := tb K0_42.out
  obtain ⟨pK10, pK11, pK12, pK13⟩ := tb K1_42.out
  obtain ⟨pSB0, pSB1, pSB2, pSB3⟩ := tb SB_42.out
  obtain ⟨pGB0, pGB1, pGB2, pGB3⟩ := tb GB_42.out
  go_upto_region 31 with fail
  clear pK00 pK01 pK02 pK03 pK10 pK11 pK12 pK13 pSB0 pSB1 pSB2 pSB3 pGB0 pGB1 pGB2 pGB3
  go_cut [17, 18] (fun s t wx => CutT w R C b zs (fun wx => Blk wx (w.heap.size) 24 #[.int .i64 r0, .int .i64 c0, .slice a0 z0.length cap0] ∧ Blk wx (w.heap.size + 1) 24 #[.int .i64 r1, .int .i64 c1, .slice a1 z1.length cap1] ∧ Blk wx (gS) 26 #[.int .i64 R, .int .i64 C, .slice bS yS.length capS] ∧ OwnF wx w.heap.size bS capS yS ∧ OwnF wx w.heap.size bG capG (marks 1 yG.length) ∧ Blk wx (w29.heap.size) 26 #[.int .i64 R, .int .i64 C, .slice bG yG.length capG]) s t wx)
  case first =>
    obtain ⟨pK00, pK01, pK02, pK03⟩ := tb K0_42.out
    obtain ⟨pK10, pK11, pK12, pK13⟩ := tb K1_42.out
    obtain ⟨pSB0, pSB1, pSB2, pSB3⟩ := tb SB_42.out
    obtain ⟨pGB0, pGB1, pGB2, pGB3⟩ := tb GB_42.out
    go_region_held3 (fun w' => w'.cell? ⟨w.heap.size, 0, none⟩ = some (.int .i64 r0) ∧ w'.cell? ⟨w.heap.size, 1, none⟩ = some (.int .i64 c0) ∧ w'.cell? ⟨w.heap.size, 2, none⟩ = some (.slice a0 z0.length cap0) ∧ w'.cell? ⟨w.heap.size + 1, 0, none⟩ = some (.int .i64 r1) ∧ w'.cell? ⟨w.heap.size + 1, 1, none⟩ = some (.int .i64 c1) ∧ w'.cell? ⟨w.heap.size + 1, 2, none⟩ = some (.slice a1 z1.length cap1) ∧ w'.cell? ⟨gS, 0, none⟩ = some (.int .i64 R) ∧ w'.cell? ⟨gS, 1, none⟩ = some (.int .i64 C) ∧ w'.cell? ⟨gS, 2, none⟩ = some (.slice bS yS.length capS) ∧ w'.cell? ⟨w29.heap.size, 0, none⟩ = some (.int .i64 R) ∧ w'.cell? ⟨w29.heap.size, 1, none⟩ = some (.int .i64 C) ∧ w'.cell? ⟨w29.heap.size, 2, none⟩ = some (.slice bG yG.length capG)) (go_keep)
      (first
        | (go_at_call 11
           first
             | (clear pK00 pK01 pK02 pK03 pK10 pK11 pK12 pK13 pSB0 pSB1 pSB2 pSB3 pGB0 pGB1 pGB2 pGB3
                have bl : Below w42.heap.size w42 w42.drew := (Below.refl _ _).drew
                have B_601 := Lib.hid (Below.next B_42.out bl)
                clear B_42
                have K0_601 := Lib.hid (K0_42.out.below bl)
                clear K0_42
                have K1_601 := Lib.hid (K1_42.out.below bl)
                clear K1_42
                have SB_601 := Lib.hid (SB_42.out.below bl)
                clear SB_42
                have S_601 := Lib.hid (S_42.out.kept bl)
                clear S_42
                have G_601 := Lib.hid (G_42.out.kept bl)
                clear G_42
                have GB_601 := Lib.hid (GB_42.out.below bl)
                clear GB_42
                clear bl
                refine (c_toTensor r0 c0 _ _ _ z0 _ (HI0.out.kept B_601.out) HZ0.out).mono ?_
                rintro e w43 ⟨bU0, rfl, hf, bl⟩
                have U0_43 := Lib.hid (hf.base B_601.out.size)
                have B_43 := Lib.hid (Below.next B_601.out bl)
                clear B_601
                have K0_43 := Lib.hid (K0_601.out.below bl)
                clear K0_601
                have K1_43 := Lib.hid (K1_601.out.below bl)
                clear K1_601
                have SB_43 := Lib.hid (SB_601.out.below bl)
                clear SB_601
                have S_43 := Lib.hid (S_601.out.kept bl)
                clear S_601
                have G_43 := Lib.hid (G_601.out.kept bl)
                clear G_601
                have GB_43 := Lib.hid (GB_601.out.below bl)
                clear GB_601
                clear bl
                clear hf
                obtain ⟨pK00, pK01, pK02, pK03⟩ := tb K0_43.out
                obtain ⟨pK10, pK11, pK12, pK13⟩ := tb K1_43.out
                obtain ⟨pSB0, pSB1, pSB2, pSB3⟩ := tb SB_43.out
                obtain ⟨pGB0, pGB1, pGB2, pGB3⟩ := tb GB_43.out)
             | (clear pK00 pK01 pK02 pK03 pK10 pK11 pK12 pK13 pSB0 pSB1 pSB2 pSB3 pGB0 pGB1 pGB2 pGB3
                have NHB_K0 : w.heap.size ≠ w42.heap.size := Nat.ne_of_lt K0_42.out.lt
                have MHB_K0 : w42.heap.size ≠ w.heap.size := Nat.ne_of_gt K0_42.out.lt
                have NHB_K1 : w.heap.size + 1 ≠ w42.heap.size := Nat.ne_of_lt K1_42.out.lt
                have MHB_K1 : w42.heap.size ≠ w.heap.size + 1 := Nat.ne_of_gt K1_42.out.lt
                have NHB_SB : gS ≠ w42.heap.size := Nat.ne_of_lt SB_42.out.lt
                have MHB_SB : w42.heap.size ≠ gS := Nat.ne_of_gt SB_42.out.lt
                have NHB_GB : w29.heap.size ≠ w42.heap.size := Nat.ne_of_lt GB_42.out.lt
                have MHB_GB : w42.heap.size ≠ w29.heap.size := Nat.ne_of_gt GB_42.out.lt
                have LHB := B_42.out.size
                have bl := (Below.refl w42.heap.size w42).alloc (Nat.le_refl _) (.cells #[.int .i64 0, .int .i64 0, .slice none 0 0] 26)
                have HB_501 := Lib.hid (Blk.new w42 26 #[.int .i64 0, .int .i64 0, .slice none 0 0])
                have B_501 := Lib.hid (Below.next B_42.out bl)
                clear B_42
                have K0_501 := Lib.hid (K0_42.out.below bl)
                clear K0_42
                have K1_501 := Lib.hid (K1_42.out.below bl)
                clear K1_42
                have SB_501 := Lib.hid (SB_42.out.below bl)
                clear SB_42
                have S_501 := Lib.hid (S_42.out.kept bl)
                clear S_42
                have G_501 := Lib.hid (G_42.out.kept bl)
                clear G_42
                have GB_501 := Lib.hid (GB_42.out.below bl)
                clear GB_42
                clear bl
                generalize w42.alloc (.cells #[.int .i64 0, .int .i64 0, .slice none 0 0] 26) = w501 at B_501 K0_501 K1_501 SB_501 S_501 G_501 GB_501 HB_501 ⊢
                have bl : Below w501.heap.size w501 w501.drew := (Below.refl _ _).drew
                have B_601 := Lib.hid (Below.next B_501.out bl)
                clear B_501
                have K0_601 := Lib.hid (K0_501.out.below bl)
                clear K0_501
                have K1_601 := Lib.hid (K1_501.out.below bl)
                clear K1_501
                have SB_601 := Lib.hid (SB_501.out.below bl)
                clear SB_501
                have S_601 := Lib.hid (S_501.out.kept bl)
                clear S_501
                have G_601 := Lib.hid (G_501.out.kept bl)
                clear G_501
                have GB_601 := Lib.hid (GB_501.out.below bl)
                clear GB_501
                have HB_601 := Lib.hid (HB_501.out.below bl)
                clear HB_501
                clear bl
                refine (c_toTensor r0 c0 _ _ _ z0 _ (HI0.out.kept B_601.out) HZ0.out).mono ?_
                rintro e w43 ⟨bU0, rfl, hf, bl⟩
                have U0_43 := Lib.hid (hf.base B_601.out.size)
                have B_43 := Lib.hid (Below.next B_601.out bl)
                clear B_601
                have K0_43 := Lib.hid (K0_601.out.below bl)
                clear K0_601
                have K1_43 := Lib.hid (K1_601.out.below bl)
                clear K1_601
                have SB_43 := Lib.hid (SB_601.out.below bl)
                clear SB_601
                have S_43 := Lib.hid (S_601.out.kept bl)
                clear S_601
                have G_43 := Lib.hid (G_601.out.kept bl)
                clear G_601
                have GB_43 := Lib.hid (GB_601.out.below bl)
                clear GB_601
                have HB_43 := Lib.hid (HB_601.out.below bl)
                clear HB_601
                clear bl
                clear hf
                obtain ⟨pK00, pK01, pK02, pK03⟩ := tb K0_43.out
                obtain ⟨pK10, pK11, pK12, pK13⟩ := tb K1_43.out
                obtain ⟨pSB0, pSB1, pSB2, pSB3⟩ := tb SB_43.out
                obtain ⟨pGB0, pGB1, pGB2, pGB3⟩ := tb GB_43.out
                obtain ⟨pHB0, pHB1, pHB2, pHB3⟩ := tb HB_43.out))
        | (go_at_call 11
           first
             | (clear pK00 pK01 pK02 pK03 pK10 pK11 pK12 pK13 pSB0 pSB1 pSB2 pSB3 pGB0 pGB1 pGB2 pGB3 pHB0 pHB1 pHB2 pHB3
                refine (c_toTensor r1 c1 _ _ _ z1 _ (HI1.out.kept B_43.out) HZ1.out).mono ?_
                rintro e w44 ⟨bU1, rfl, hf, bl⟩
                have U1_44 := Lib.hid (hf.base B_43.out.size)
                have B_44 := Lib.hid (Below.next B_43.out bl)
                clear B_43
                have K0_44 := Lib.hid (K0_43.out.below bl)
                clear K0_43
                have K1_44 := Lib.hid (K1_43.out.below bl)
                clear K1_43
                have SB_44 := Lib.hid (SB_43.out.below bl)
                clear SB_43
                have S_44 := Lib.hid (S_43.out.kept bl)
                clear S_43
                have G_44 := Lib.hid (G_43.out.kept bl)
                clear G_43
                have GB_44 := Lib.hid (GB_43.out.below bl)
                clear GB_43
                have U0_44 := Lib.hid (U0_43.out.kept bl)
                clear U0_43
                have HB_44 := Lib.hid (HB_43.out.below bl)
                clear HB_43
                clear bl
                clear hf
                obtain ⟨pK00, pK01, pK02, pK03⟩ := tb K0_44.out
                obtain ⟨pK10, pK11, pK12, pK13⟩ := tb K1_44.out
                obtain ⟨pSB0, pSB1, pSB2, pSB3⟩ := tb SB_44.out
                obtain ⟨pGB0, pGB1, pGB2, pGB3⟩ := tb GB_44.out
                obtain ⟨pHB0, pHB1, pHB2, pHB3⟩ := tb HB_44.out)
             | (clear pK00 pK01 pK02 pK03 pK10 pK11 pK12 pK13 pSB0 pSB1 pSB2 pSB3 pGB0 pGB1 pGB2 pGB3
                refine (c_toTensor r1 c1 _ _ _ z1 _ (HI1.out.kept B_43.out) HZ1.out).mono ?_
                rintro e w44 ⟨bU1, rfl, hf, bl⟩
                have U1_44 := Lib.hid (hf.base B_43.out.size)
                have B_44 := Lib.hid (Below.next B_43.out bl)
                clear B_43
                have K0_44 := Lib.hid (K0_43.out.below bl)
                clear K0_43
                have K1_44 := Lib.hid (K1_43.out.below bl)
                clear K1_43
                have SB_44 := Lib.hid (SB_43.out.below bl)
                clear SB_43
                have S_44 := Lib.hid (S_43.out.kept bl)
                clear S_43
                have G_44 := Lib.hid (G_43.out.kept bl)
                clear G_43
                have GB_44 := Lib.hid (GB_43.out.below bl)
                clear GB_43
                have U0_44 := Lib.hid (U0_43.out.kept bl)
                clear U0_43
                clear bl
                clear hf
                obtain ⟨pK00, pK01, pK02, pK03⟩ := tb K0_44.out
                obtain ⟨pK10, pK11, pK12, pK13⟩ := tb K1_44.out
                obtain ⟨pSB0, pSB1, pSB2, pSB3⟩ := tb SB_44.out
                obtain ⟨pGB0, pGB1, pGB2, pGB3⟩ := tb GB_44.out)
             | (clear pK00 pK01 pK02 pK03 pK10 pK11 pK12 pK13 pSB0 pSB1 pSB2 pSB3 pGB0 pGB1 pGB2 pGB3
                have NHB_K0 : w.heap.size ≠ w43.heap.size := Nat.ne_of_lt K0_43.out.lt
                have MHB_K0 : w43.heap.size ≠ w.heap.size := Nat.ne_of_gt K0_43.out.lt
                have NHB_K1 : w.heap.size + 1 ≠ w43.heap.size := Nat.ne_of_lt K1_43.out.lt
                have MHB_K1 : w43.heap.size ≠ w.heap.size + 1 := Nat.ne_of_gt K1_43.out.lt
                have NHB_SB : gS ≠ w43.heap.size := Nat.ne_of_lt SB_43.out.lt
                have MHB_SB : w43.heap.size ≠ gS := Nat.ne_of_gt SB_43.out.lt
                have NHB_GB : w29.heap.size ≠ w43.heap.size := Nat.ne_of_lt GB_43.out.lt
                have MHB_GB : w43.heap.size ≠ w29.heap.size := Nat.ne_of_gt GB_43.out.lt
                have LHB := B_43.out.size
                have bl := (Below.refl w43.heap.size w43).alloc (Nat.le_refl _) (.cells #[.int .i64 0, .int .i64 0, .slice none 0 0] 26)
                have HB_511 := Lib.hid (Blk.new w43 26 #[.int .i64 0, .int .i64 0, .slice none 0 0])
                have B_511 := Lib.hid (Below.next B_43.out bl)
                clear B_43
                have K0_511 := Lib.hid (K0_43.out.below bl)
                clear K0_43
                have K1_511 := Lib.hid (K1_43.out.below bl)
                clear K1_43
                have SB_511 := Lib.hid (SB_43.out.below bl)
                clear SB_43
                have S_511 := Lib.hid (S_43.out.kept bl)
                clear S_43
                have G_511 := Lib.hid (G_43.out.kept bl)
                clear G_43
                have GB_511 := Lib.hid (GB_43.out.below bl)
                clear GB_43
                have U0_511 := Lib.hid (U0_43.out.kept bl)
                clear U0_43
                clear bl
                generalize w43.alloc (.cells #[.int .i64 0, .int .i64 0, .slice none 0 0] 26) = w511 at B_511 K0_511 K1_511 SB_511 S_511 G_511 GB_511 U0_511 HB_511 ⊢
                refine (c_toTensor r1 c1 _ _ _ z1 _ (HI1.out.kept B_511.out) HZ1.out).mono ?_
                rintro e w44 ⟨bU1, rfl, hf, bl⟩
                have U1_44 := Lib.hid (hf.base B_511.out.size)
                have B_44 := Lib.hid (Below.next B_511.out bl)
                clear B_511
                have K0_44 := Lib.hid (K0_511.out.below bl)
                clear K0_511
                have K1_44 := Lib.hid (K1_511.out.below bl)
                clear K1_511
                have SB_44 := Lib.hid (SB_511.out.below bl)
                clear SB_511
                have S_44 := Lib.hid (S_511.out.kept bl)
                clear S_511
                have G_44 := Lib.hid (G_511.out.kept bl)
                clear G_511
                have GB_44 := Lib.hid (GB_511.out.below bl)
                clear GB_511
                have U0_44 := Lib.hid (U0_511.out.kept bl)
                clear U0_511
                have HB_44 := Lib.hid (HB_511.out.below bl)
                clear HB_511
                clear bl
                clear hf
                obtain ⟨pK00, pK01, pK02, pK03⟩ := tb K0_44.out
                obtain ⟨pK10, pK11, pK12, pK13⟩ := tb K1_44.out
                obtain ⟨pSB0, pSB1, pSB2, pSB3⟩ := tb SB_44.out
                obtain ⟨pGB0, pGB1, pGB2, pGB3⟩ := tb GB_44.out
                obtain ⟨pHB0, pHB1, pHB2, pHB3⟩ := tb HB_44.out))
        | (go_at_call 17
           first
             | (clear pK00 pK01 pK02 pK03 pK10 pK11 pK12 pK13 pSB0 pSB1 pSB2 pSB3 pGB0 pGB1 pGB2 pGB3 pHB0 pHB1 pHB2 pHB3
                refine (CI.out _ _ _ U0_44.out.isFloats U1_44.out.isFloats).mono ?_
                rintro e w45 ⟨bH, capH, yH, rfl, hf, hyH, bl⟩
                have HYH := Lib.hid hyH
                clear hyH
                have H_45 := Lib.hid (hf.base B_44.out.size)
                have B_45 := Lib.hid (Below.next B_44.out bl)
                clear B_44
                have K0_45 := Lib.hid (K0_44.out.below bl)
                clear K0_44
                have K1_45 := Lib.hid (K1_44.out.below bl)
                clear K1_44
                have SB_45 := Lib.hid (SB_44.out.below bl)
                clear SB_44
                have S_45 := Lib.hid (S_44.out.kept bl)
                clear S_44
                have G_45 := Lib.hid (G_44.out.kept bl)
                clear G_44
                have GB_45 := Lib.hid (GB_44.out.below bl)
                clear GB_44
                have U0_45 := Lib.hid (U0_44.out.kept bl)
                clear U0_44
                have U1_45 := Lib.hid (U1_44.out.kept bl)
                clear U1_44
                have HB_45 := Lib.hid (HB_44.out.below bl)
                clear HB_44
                clear bl hf
                obtain ⟨pK00, pK01, pK02, pK03⟩ := tb K0_45.out
                obtain ⟨pK10, pK11, pK12, pK13⟩ := tb K1_45.out
                obtain ⟨pSB0, pSB1, pSB2, pSB3⟩ := tb SB_45.out
                obtain ⟨pGB0, pGB1, pGB2, pGB3⟩ := tb GB_45.out
                obtain ⟨pHB0, pHB1, pHB2, pHB3⟩ := tb HB_45.out
                obtain ⟨fz0, fz1, fz2⟩ := tbf HB_45.out
                have st3 := store3 HB_45.out (x' := .int .i64 R) (y' := .int .i64 C) (z' := .slice bH yH.length capH))
             | (clear pK00 pK01 pK02 pK03 pK10 pK11 pK12 pK13 pSB0 pSB1 pSB2 pSB3 pGB0 pGB1 pGB2 pGB3
                refine (CI.out _ _ _ U0_44.out.isFloats U1_44.out.isFloats).mono ?_
                rintro e w45 ⟨bH, capH, yH, rfl, hf, hyH, bl⟩
                have HYH := Lib.hid hyH
                clear hyH
                have H_45 := Lib.hid (hf.base B_44.out.size)
                have B_45 := Lib.hid (Below.next B_44.out bl)
                clear B_44
                have K0_45 := Lib.hid (K0_44.out.below bl)
                clear K0_44
                have K1_45 := Lib.hid (K1_44.out.below bl)
                clear K1_44
                have SB_45 := Lib.hid (SB_44.out.below bl)
                clear SB_44
                have S_45 := Lib.hid (S_44.out.kept bl)
                clear S_44
                have G_45 := Lib.hid (G_44.out.kept bl)
                clear G_44
                have GB_45 := Lib.hid (GB_44.out.below bl)
                clear GB_44
                have U0_45 := Lib.hid (U0_44.out.kept bl)
                clear U0_44
                have U1_45 := Lib.hid (U1_44.out.kept bl)
                clear U1_44
                clear bl hf
                obtain ⟨pK00, pK01, pK02, pK03⟩ := tb K0_45.out
                obtain ⟨pK10, pK11, pK12, pK13⟩ := tb K1_45.out
                obtain ⟨pSB0, pSB1, pSB2, pSB3⟩ := tb SB_45.out
                obtain ⟨pGB0, pGB1, pGB2, pGB3⟩ := tb GB_45.out
                have al := fun o => (Below.refl w45.heap.size w45).alloc (Nat.le_refl _) o)
             | (clear pK00 pK01 pK02 pK03 pK10 pK11 pK12 pK13 pSB0 pSB1 pSB2 pSB3 pGB0 pGB1 pGB2 pGB3
                have NHB_K0 : w.heap.size ≠ w44.heap.size := Nat.ne_of_lt K0_44.out.lt
                have MHB_K0 : w44.heap.size ≠ w.heap.size := Nat.ne_of_gt K0_44.out.lt
                have NHB_K1 : w.heap.size + 1 ≠ w44.heap.size := Nat.ne_of_lt K1_44.out.lt
                have MHB_K1 : w44.heap.size ≠ w.heap.size + 1 := Nat.ne_of_gt K1_44.out.lt
                have NHB_SB : gS ≠ w44.heap.size := Nat.ne_of_lt SB_44.out.lt
                have MHB_SB : w44.heap.size ≠ gS := Nat.ne_of_gt SB_44.out.lt
                have NHB_GB : w29.heap.size ≠ w44.heap.size := Nat.ne_of_lt GB_44.out.lt
                have MHB_GB : w44.heap.size ≠ w29.heap.size := Nat.ne_of_gt GB_44.out.lt
                have LHB := B_44.out.size
                have bl := (Below.refl w44.heap.size w44).alloc (Nat.le_refl _) (.cells #[.int .i64 0, .int .i64 0, .slice none 0 0] 26)
                have HB_521 := Lib.hid (Blk.new w44 26 #[.int .i64 0, .int .i64 0, .slice none 0 0])
                have B_521 := Lib.hid (Below.next B_44.out bl)
                clear B_44
                have K0_521 := Lib.hid (K0_44.out.below bl)
                clear K0_44
                have K1_521 := Lib.hid (K1_44.out.below bl)
                clear K1_44
                have SB_521 := Lib.hid (SB_44.out.below bl)
                clear SB_44
                have S_521 := Lib.hid (S_44.out.kept bl)
                clear S_44
                have G_521 := Lib.hid (G_44.out.kept bl)
                clear G_44
                have GB_521 := Lib.hid (GB_44.out.below bl)
                clear GB_44
                have U0_521 := Lib.hid (U0_44.out.kept bl)
                clear U0_44
                have U1_521 := Lib.hid (U1_44.out.kept bl)
                clear U1_44
                clear bl
                generalize w44.alloc (.cells #[.int .i64 0, .int .i64 0, .slice none 0 0] 26) = w521 at B_521 K0_521 K1_521 SB_521 S_521 G_521 GB_521 U0_521 U1_521 HB_521 ⊢
                refine (CI.out _ _ _ U0_521.out.isFloats U1_521.out.isFloats).mono ?_
                rintro e w45 ⟨bH, capH, yH, rfl, hf, hyH, bl⟩
                have HYH := Lib.hid hyH
                clear hyH
                have H_45 := Lib.hid (hf.base B_521.out.size)
                have B_45 := Lib.hid (Below.next B_521.out bl)
                clear B_521
                have K0_45 := Lib.hid (K0_521.out.below bl)
                clear K0_521
                have K1_45 := Lib.hid (K1_521.out.below bl)
                clear K1_521
                have SB_45 := Lib.hid (SB_521.out.below bl)
                clear SB_521
                have S_45 := Lib.hid (S_521.out.kept bl)
                clear S_521
                have G_45 := Lib.hid (G_521.out.kept bl)
                clear G_521
                have GB_45 := Lib.hid (GB_521.out.below bl)
                clear GB_521
                have U0_45 := Lib.hid (U0_521.out.kept bl)
                clear U0_521
                have U1_45 := Lib.hid (U1_521.out.kept bl)
                clear U1_521
                have HB_45 := Lib.hid (HB_521.out.below bl)
                clear HB_521
                clear bl hf
                obtain ⟨pK00, pK01, pK02, pK03⟩ := tb K0_45.out
                obtain ⟨pK10, pK11, pK12, pK13⟩ := tb K1_45.out
                obtain ⟨pSB0, pSB1, pSB2, pSB3⟩ := tb SB_45.out
                obtain ⟨pGB0, pGB1, pGB2, pGB3⟩ := tb GB_45.out
                obtain ⟨pHB0, pHB1, pHB2, pHB3⟩ := tb HB_45.out
                obtain ⟨fz0, fz1, fz2⟩ := tbf HB_45.out
                have st3 := store3 HB_45.out (x' := .int .i64 R) (y' := .int .i64 C) (z' := .slice bH yH.length capH))))
    all_goals
      go_wp2_with fail
      go_meet
      first | exact ⟨_, bH, capH, yH, rfl, rfl, st3.1, H_45.out.off st3.2 HB_45.out (by decide), HYH.out, Below.at_ B_45.out st3.2 LHB, K0_45.out.off st3.2 NHB_K0, K1_45.out.off st3.2 NHB_K1, SB_45.out.off st3.2 NHB_SB, S_45.out.off st3.2 HB_45.out (by decide), G_45.out.off st3.2 HB_45.out (by decide), GB_45.out.off st3.2 NHB_GB⟩ | exact ⟨_, bH, capH, yH, rfl, rfl, Blk.new _ _ _, H_45.out.kept (al _), HYH.out, Below.next B_45.out (al _), K0_45.out.below (al _), K1_45.out.below (al _), SB_45.out.below (al _), S_45.out.kept (al _), G_45.out.kept (al _), GB_45.out.below (al _)⟩
  case rest =>
  obtain ⟨w62, rfl⟩ : ∃ x : World, x = wc := ⟨_, rfl⟩
  obtain ⟨gH, bH, capH, yH, rfl, rfl, hk, ho, hy, hb, h_K0, h_K1, h_SB, h_S, h_G, h_GB⟩ := hcut
  have K0_62 := Lib.hid h_K0
  have K1_62 := Lib.hid h_K1
  have SB_62 := Lib.hid h_SB
  have S_62 := Lib.hid h_S
  have G_62 := Lib.hid h_G
  have GB_62 := Lib.hid h_GB
  have B_62 := Lib.hid hb
  have HB_62 := Lib.hid hk
  have H_62 := Lib.hid ho
  have HYH := Lib.hid hy
  clear hk ho hy hb h_K0 h_K1 h_SB h_S h_G h_GB B_42 K0_42 K1_42 SB_42 S_42 G_42 GB_42
  obtain ⟨pK00, pK01, pK02, pK03⟩ := tb K0_62.out
  obtain ⟨pK10, pK11, pK12, pK13⟩ := tb K1_62.out
  obtain ⟨pSB0, pSB1, pSB2, pSB3⟩ := tb SB_62.out
  obtain ⟨pGB0, pGB1, pGB2, pGB3⟩ := tb GB_62.out
  obtain ⟨pHB0, pHB1, pHB2, pHB3⟩ := tb HB_62.out
  try go_wp2_with fail
  clear pK00 pK01 pK02 pK03 pK10 pK11 pK12 pK13 pSB0 pSB1 pSB2 pSB3 pGB0 pGB1 pGB2 pGB3 pHB0 pHB1 pHB2 pHB3
  refine (c_eqTensor R C _ _ _ _ yH yS _ H_62.out.isFloats S_62.out.isFloats (HYH.out.trans HYS.out.symm)).mono ?_
  rintro e w63 ⟨rfl, bl⟩
  have B_63 := Lib.hid (Below.next B_62.out bl)
  clear B_62
  have K0_63 := Lib.hid (K0_62.out.below bl)
  clear K0_62
  have K1_63 := Lib.hid (K1_62.out.below bl)
  clear K1_62
  have SB_63 := Lib.hid (SB_62.out.below bl)
  clear SB_62
  have S_63 := Lib.hid (S_62.out.kept bl)
  clear S_62
  have G_63 := Lib.hid (G_62.out.kept bl)
  clear G_62
  have GB_63 := Lib.hid (GB_62.out.below bl)
  clear GB_62
  have HB_63 := Lib.hid (HB_62.out.below bl)
  clear HB_62
  have H_63 := Lib.hid (H_62.out.kept bl)
  clear H_62
  clear bl
  obtain ⟨pK00, pK01, pK02, pK03⟩ := tb K0_63.out
  obtain ⟨pK10, pK11, pK12, pK13⟩ := tb K1_63.out
  obtain ⟨pSB0, pSB1, pSB2, pSB3⟩ := tb SB_63.out
  obtain ⟨pGB0, pGB1, pGB2, pGB3⟩ := tb GB_63.out
  obtain ⟨pHB0, pHB1, pHB2, pHB3⟩ := tb HB_63.out
  go_wp2_with fail
  clear pK00 pK01 pK02 pK03 pK10 pK11 pK12 pK13 pSB0 pSB1 pSB2 pSB3 pGB0 pGB1 pGB2 pGB3 pHB0 pHB1 pHB2 pHB3
  refine (c_heldTensor' R C _ _ 1 q yG.length _ G_63.out.held HQ.out (by decide) LG.out).mono ?_
  rintro e w64 ⟨rfl, bl⟩
  have B_64 := Lib.hid (Below.next B_63.out bl)
  clear B_63
  have K0_64 := Lib.hid (K0_63.out.below bl)
  clear K0_63
  have K1_64 := Lib.hid (K1_63.out.below bl)
  clear K1_63
  have SB_64 := Lib.hid (SB_63.out.below bl)
  clear SB_63
  have S_64 := Lib.hid (S_63.out.kept bl)
  clear S_63
  have G_64 := Lib.hid (G_63.out.kept bl)
  clear G_63
  have GB_64 := Lib.hid (GB_63.out.below bl)
  clear GB_63
  have HB_64 := Lib.hid (HB_63.out.below bl)
  clear HB_63
  have H_64 := Lib.hid (H_63.out.kept bl)
  clear H_63
  clear bl
  obtain ⟨pK00, pK01, pK02, pK03⟩ := tb K0_64.out
  obtain ⟨pK10, pK11, pK12, pK13⟩ := tb K1_64.out
  obtain ⟨pSB0, pSB1, pSB2, pSB3⟩ := tb SB_64.out
  obtain ⟨pGB0, pGB1, pGB2, pGB3⟩ := tb GB_64.out
  obtain ⟨pHB0, pHB1, pHB2, pHB3⟩ := tb HB_64.out
  go_wp2_with fail
  clear pK00 pK01 pK02 pK03 pK10 pK11 pK12 pK13 pSB0 pSB1 pSB2 pSB3 pGB0 pGB1 pGB2 pGB3 pHB0 pHB1 pHB2 pHB3
  go_ret
  exact ⟨rfl, B_64.out⟩

theorem walk (r0 c0 : Int) (a0 : Option Addr) (len0 cap0 : Nat) (z0 : List Nat) (r1 c1 : Int) (a1 : Option Addr) (len1 cap1 : Nat) (z1 : List Nat) (a2 : Int) (w : World) (w0 : IsFloats .f32 w a0 len0 cap0 z0) (wr0 : (Lit.int .i64 r0).wf = true) (wc0 : (Lit.int .i64 c0).wf = true) (w1 : IsFloats .f32 w a1 len1 cap1 z1) (wr1 : (Lit.int .i64 r1).wf = true) (wc1 : (Lit.int .i64 c1).wf = true) (w2 : (Lit.int .i64 a2).wf = true) :
    Calls Try.prog 4 #[.agg #[.int .i64 r0, .int .i64 c0, .slice a0 len0 cap0], .agg #[.int .i64 r1, .int .i64 c1, .slice a1 len1 cap1], .int .i64 a2] w fun e w' => e = .returned (.bool true) ∧ Below w.heap.size w w' := by
  have hn0 : len0 ≤ 9223372036854775807 := by have h1 := w0.1; have h2 := w0.2.1; unfold maxLen at h2; omega
  obtain rfl : z0.length = len0 := w0.2.2.1
  have hn1 : len1 ≤ 9223372036854775807 := by have h1 := w1.1; have h2 := w1.2.1; unfold maxLen at h2; omega
  obtain rfl : z1.length = len1 := w1.2.2.1
  by_cases hL0 : z0.length ≤ 1048576
  case neg =>
    have HN := Lib.hid (show 1048576 < z0.length by omega)
    clear hL0
    go_enter Try.func4, Try.ntmps4
    go_wp2_with fail
    have bl := ((Below.refl w.heap.size w).alloc (Nat.le_refl _) (.cells #[.int .i64 r0, .int .i64 c0, .slice a0 z0.length cap0] 24)).alloc (by simp) (.cells #[.int .i64 r1, .int .i64 c1, .slice a1 z1.length cap1] 24)
    refine (c_szTensor_no _ _ _ _ _ 1048576 _ HN.out (Nat.le_refl _) hn0).mono ?_
    rintro e w1 ⟨rfl, hb⟩
    have HB := Lib.hid (Below.next bl hb)
    clear hb bl
    go_wp2
    go_ret
    exact ⟨rfl, HB.out⟩
  case pos =>
    by_cases hL1 : z0.length + z1.length ≤ 1048576
    case neg =>
      obtain ⟨l, hl⟩ : ∃ l, 1048576 - z0.length = l := ⟨_, rfl⟩
      have HN := Lib.hid (show l < z1.length by omega)
      have hl' : l ≤ 1048576 := by omega
      have hl0 : (0 : Int) ≤ (l : Int) := by omega
      have HL := Lib.hid hl
      have HP := Lib.hid hL0
      clear hl hL0 hL1
      go_enter Try.func4, Try.ntmps4
      go_wp2_with fail
      have K := Lib.hid ((Blk.new (w.alloc (.cells #[.int .i64 r0, .int .i64 c0, .slice a0 z0.length cap0] 24)) 24 #[.int .i64 r1, .int .i64 c1, .slice a1 z1.length cap1]))
      have bl := ((Below.refl w.heap.size w).alloc (Nat.le_refl _) (.cells #[.int .i64 r0, .int .i64 c0, .slice a0 z0.length cap0] 24)).alloc (by simp) (.cells #[.int .i64 r1, .int .i64 c1, .slice a1 z1.length cap1] 24)
      simp only [World.size_alloc] at K
      generalize (w.alloc (.cells #[.int .i64 r0, .int .i64 c0, .slice a0 z0.length cap0] 24)).alloc (.cells #[.int .i64 r1, .int .i64 c1, .slice a1 z1.length cap1] 24) = w0 at K bl ⊢
      refine (c_szTensor' _ _ _ _ _ 1048576 l _ HP.out (Nat.le_refl _) HL.out).mono ?_
      rintro e w1 ⟨rfl, hb⟩
      have HB := Lib.hid (Below.next bl hb)
      have K1 := Lib.hid (K.out.below hb)
      clear hb bl K
      obtain ⟨p0, p1, p2, p3⟩ := tb K1.out
      go_wp2_with fail
      clear p0 p1 p2 p3
      refine (c_szTensor_no _ _ _ _ _ l _ HN.out hl' hn1).mono ?_
      rintro e w2 ⟨rfl, hb⟩
      have HB2 := Lib.hid (Below.next HB.out hb)
      clear hb
      go_wp2
      go_ret
      exact ⟨rfl, HB2.out⟩
    case pos =>
      exact core r0 c0 r1 c1 a2 a0 a1 cap0 cap1 z0 z1 w w0 w1 (vMatMulBlocks r0 c0 z0 r1 c1 z1 a2).1 (vMatMulBlocks r0 c0 z0 r1 c1 z1 a2).2.1 (vMatMulBlocks r0 c0 z0 r1 c1 z1 a2).2.2.1 (vMatMulBlocks r0 c0 z0 r1 c1 z1 a2).2.2.2 hL0 hL1 (vMatMulBlocks_len r0 c0 z0 r1 c1 z1 a2) (fun a0 a1 w h0 h1 => t_sMatMulBlocks r0 c0 z0 r1 c1 z1 a2 a0 a1  w h0 h1 ) (fun a0 a1 w h0 h1 => t_iMatMulBlocks r0 c0 z0 r1 c1 z1 a2 a0 a1  w h0 h1 )

/-! the row's step -/
set_option maxRecDepth 100000 in
theorem lifted (os : Os) (started : os.Started) (H : Type) (enc : TypeId × Value → H) :
    ReturnsInHanded {} Try.checked os 4 .any (Rows.fnExactMatMulBlocksSpec.pre6 enc Try.prog Try.f4 Rows.fnExactMatMulBlocksRow.domain false) (Rows.fnExactMatMulBlocksSpec.post enc Try.prog Try.f4 false true false false) := by
  refine returnsInHanded_of_change (C := Try.checked) own started (by kernel_rfl) Try.func4
    (ChangeSpec.witness6 (enc := enc) (C := Try.checked) false ⟨#[], #[.agg #[.int .i64 0, .int .i64 0, .slice none 0 0], .agg #[.int .i64 0, .int .i64 0, .slice none 0 0], .int .i64 0], []⟩ 8 (by kernel_rfl) (by kernel_rfl) (by kernel_rfl) (by kernel_rfl)) ?_
  intro W base args ds gs before hval0 hW hcnd _
  have hval : ∀ (j : Nat) t v, Try.f4.params[j]? = some t → args[j]? = some v → Value.okWide Try.prog W .any base t v := hval0
  have hW' := hW
  obtain ⟨p, q, hA0, hV, rfl, hfz, hnd⟩ := hW
  have hA : DataW.TrodAll enc Try.prog W 0 (fun _ => true) true Try.f4.params.toList args.toList ds p := hA0
  rw [Try.params4] at hA hval
  obtain ⟨v0, vs0, d0, ds0, p0, q0, hargs, rfl, rfl, h0, rest0⟩ := trodAll_cons hA
  obtain ⟨v1, vs1, d1, ds1, p1, q1, rfl, rfl, rfl, h1, rest1⟩ := trodAll_cons rest0
  obtain ⟨v2, vs2, d2, ds2, p2, q2, rfl, rfl, rfl, h2, rest2⟩ := trodAll_cons rest1
  obtain ⟨rfl, rfl, rfl⟩ := trodAll_nil rest2
  obtain rfl : args = #[v0, v1, v2] := by cases args; simp_all
  obtain ⟨rfl, rfl⟩ := trodVars_none hV
  have k0 := h0
  have lt0 : ∀ x ∈ p0, x.block < W.heap.size := by obtain ⟨m, hm⟩ := k0; exact DataW.trod_lt m _ _ _ hm
  obtain ⟨r0, c0, a0, len0, cap0, z0, rfl, w0, wr0, wc0⟩ := open_tensor (hval 0 24 v0 rfl rfl) h0
  have k1 := h1
  have lt1 : ∀ x ∈ p1, x.block < W.heap.size := by obtain ⟨m, hm⟩ := k1; exact DataW.trod_lt m _ _ _ hm
  obtain ⟨r1, c1, a1, len1, cap1, z1, rfl, w1, wr1, wc1⟩ := open_tensor (hval 1 24 v1 rfl rfl) h1
  obtain ⟨a2, rfl, rfl, rfl, w2⟩ := open_int Try.underlying2 (hval 2 2 v2 rfl rfl) h2
  clear hA0 hval0
  refine (walk r0 c0 a0 len0 cap0 z0 r1 c1 a1 len1 cap1 z1 a2 W w0 wr0 wc0 w1 wr1 wc1 w2).mono fun e W' ⟨he, bel⟩ => ?_
  subst he
  exact ⟨_, rfl, _, _, _, [], _, [], hW', trodAll_mk1 (shut_bool Try.underlying4 _), (trodAll_cons_mk (Below.trod laidOut (by kernel_rfl) (of_decide_eq_true (by kernel_rfl)) k0 bel lt0) (trodAll_cons_mk (Below.trod laidOut (by kernel_rfl) (of_decide_eq_true (by kernel_rfl)) k1 bel lt1) (trodAll_cons_mk (shut_int Try.underlying2 w2) trodAll_mk0))), rfl, bel.frame _, fun h => by cases h⟩

theorem over : Rows.fnExactMatMulBlocksRow.holds Try.pinned (OpenSpec.ofChange Rows.fnExactMatMulBlocksSpec) :=
  OpenClaim.holds_of_wide 4 Try.f4 rfl rfl rfl rfl rfl rfl rfl ⟨rfl, rfl, rfl, rfl, rfl⟩ rfl rfl rfl rfl rfl (by kernel_rfl) Try.func4 (by kernel_rfl)
    (of_decide_eq_true (by kernel_rfl)) (by unfold Func.isWrapper; first | (rw [if_pos (by decide +kernel)]; kernel_rfl) | (rw [if_neg (by decide +kernel)]; exact ⟨rfl, rfl⟩))
    (fun os started H enc _ => lifted os started H enc)

/-- the statement -/
theorem proved : Rows.FnExactMatMulBlocksSaid := over
end Go.Proofs.Ytkfpaehalfjhhaa.fnExactMatMulBlocks
