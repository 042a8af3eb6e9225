/-
  ChangedNumbers answers as its model says, for all pairs of states of trainings, changes none of them, and what it returns is its own. Conditions: none.
-/
import Derived.Test.YtpobdigmjfapbaaChu
import Derived.ChangeOld
import Derived.Below
namespace Go.Proofs.Ytpobdigmjfapbaa.fnExactChangedNumbers
open Go.ChangeShapes Go.WideShapes Go.ChangeAt Go.RowKit
open Go.ChangeMaps (open_string shut_string)
set_option linter.unusedVariables false

set_option maxHeartbeats 4000000 in
set_option maxRecDepth 100000 in
/-- for any contracts of the model and of the program that say the same -/
theorem core (q0 : TrsA) (q1 : TrsA)   (w : World) (w0' : TrsAt w q0) (w1' : TrsAt w q1) (b : Bool) (zs : List Int) (hL0 : (trsSum q0) ≤ 1048576) (hL1 : (trsSum q0) + (trsSum q1) ≤ 1048576) (hz : zs.length ≤ 1048576)
    (CS' : ∀ (p0 : TrsA) (p1 : TrsA) (w : World), (TrsEq p0 q0) → (TrsAt w p0) → (TrsEq p1 q1) → (TrsAt w p1) → Calls Try.prog 20 #[.agg p0.cells, .agg p1.cells] w (RetI b zs w))
    (CI' : ∀ (p0 : TrsA) (p1 : TrsA) (w : World), (TrsEq p0 q0) → (TrsAt w p0) → (TrsEq p1 q1) → (TrsAt w p1) → Calls Try.prog 21 #[.agg p0.cells, .agg p1.cells] w (RetI b zs w)) :
    Calls Try.prog 6 #[.agg q0.cells, .agg q1.cells] w fun e w' => e = .returned (.bool true) ∧ Below w.heap.size w w' := by
  have HS0 := Lib.hid w0'
  have HZ0 := Lib.hid (show trsSum q0 ≤ 1048576 by omega)
  have HS1 := Lib.hid w1'
  have HZ1 := Lib.hid (show trsSum q1 ≤ 1048576 by omega)
  have CS := Lib.hid CS'
  have CI := Lib.hid CI'
  obtain ⟨l0, hl0⟩ : ∃ l, 1048576 - (trsSum q0) = l := ⟨_, rfl⟩
  have hl0' : l0 ≤ 1048576 := by omega
  have HQ0 := Lib.hid (show trsSum q0 ≤ 1048576 by omega)
  obtain ⟨l1, hl1⟩ : ∃ l, l0 - (trsSum q1) = l := ⟨_, rfl⟩
  have hl1' : l1 ≤ 1048576 := by omega
  have HQ1 := Lib.hid (show trsSum q1 ≤ l0 by omega)
  have HE0 := Lib.hid hl0
  have hp0 : (0 : Int) ≤ (l0 : Int) := by omega
  have HE1 := Lib.hid hl1
  have hp1 : (0 : Int) ≤ (l1 : Int) := by omega
  have hct0 := cntTrs_le q0
  have hct1 := cntTrs_le q1
  obtain ⟨m0, hm0⟩ : ∃ m, 1 + (cntTrs q0) = m := ⟨_, rfl⟩
  obtain ⟨m1, hm1⟩ : ∃ m, m0 + (cntTrs q1) = m := ⟨_, rfl⟩
  have hm0' : m0 ≤ 4194304 := by omega
  have hn0' : (0 : Int) ≤ (m0 : Int) := by omega
  have HM0 := Lib.hid hm0
  have hm1' : m1 ≤ 4194304 := by omega
  have hn1' : (0 : Int) ≤ (m1 : Int) := by omega
  have HM1 := Lib.hid hm1
  clear hm1 hm0 hct0 hct1
  clear w0' w1' CS' CI' hl1 hl0 hL0 hL1
  obtain ⟨u0_0, u0_1, u0_2, u0_3, u0_4, u0_5, u0_6, u0_7, u0_8, hc0⟩ := cells5 q0
  rw [hc0]
  have CQ0 := Lib.hid hc0
  have HA0 := Lib.hid (fun W (h : TrsAt W q0) => c_toTrsN q0 W h HZ0.out)
  have HX0 := Lib.hid (fun W (l r : Nat) (h : TrsAt W q0) hl hs hr => c_szTrs q0 l r W h hl hs hr)
  simp only [hc0] at HA0 HX0
  clear hc0
  obtain ⟨u1_0, u1_1, u1_2, u1_3, u1_4, u1_5, u1_6, u1_7, u1_8, hc1⟩ := cells5 q1
  rw [hc1]
  have CQ1 := Lib.hid hc1
  have HA1 := Lib.hid (fun W (h : TrsAt W q1) => c_toTrsN q1 W h HZ1.out)
  have HX1 := Lib.hid (fun W (l r : Nat) (h : TrsAt W q1) hl hs hr => c_szTrs q1 l r W h hl hs hr)
  simp only [hc1] at HA1 HX1
  clear hc1
  go_enter Try.func6, Try.ntmps6
  go_wp2_with fail
  have B_0 := Lib.hid (Below.refl w.heap.size w)
  have bl := (Below.refl (w).heap.size (w)).alloc (Nat.le_refl _) (.cells #[.slice u0_0 u0_1 u0_2, .slice u0_3 u0_4 u0_5, .int .i64 u0_6, .int .i64 u0_7, .float .f32 u0_8] 28)
  have K0_1 := Lib.hid (Blk.new (w) 28 #[.slice u0_0 u0_1 u0_2, .slice u0_3 u0_4 u0_5, .int .i64 u0_6, .int .i64 u0_7, .float .f32 u0_8])
  have B_1 := Lib.hid (Below.next B_0.out bl)
  clear B_0
  clear bl
  have bl := (Below.refl ((w).alloc (.cells #[.slice u0_0 u0_1 u0_2, .slice u0_3 u0_4 u0_5, .int .i64 u0_6, .int .i64 u0_7, .float .f32 u0_8] 28)).heap.size ((w).alloc (.cells #[.slice u0_0 u0_1 u0_2, .slice u0_3 u0_4 u0_5, .int .i64 u0_6, .int .i64 u0_7, .float .f32 u0_8] 28))).alloc (Nat.le_refl _) (.cells #[.slice u1_0 u1_1 u1_2, .slice u1_3 u1_4 u1_5, .int .i64 u1_6, .int .i64 u1_7, .float .f32 u1_8] 28)
  have K1_2 := Lib.hid (Blk.new ((w).alloc (.cells #[.slice u0_0 u0_1 u0_2, .slice u0_3 u0_4 u0_5, .int .i64 u0_6, .int .i64 u0_7, .float .f32 u0_8] 28)) 28 #[.slice u1_0 u1_1 u1_2, .slice u1_3 u1_4 u1_5, .int .i64 u1_6, .int .i64 u1_7, .float .f32 u1_8])
  have B_2 := Lib.hid (Below.next B_1.out bl)
  clear B_1
  have K0_2 := Lib.hid (K0_1.out.below bl)
  clear K0_1
  clear bl
  generalize ((w).alloc (.cells #[.slice u0_0 u0_1 u0_2, .slice u0_3 u0_4 u0_5, .int .i64 u0_6, .int .i64 u0_7, .float .f32 u0_8] 28)).alloc (.cells #[.slice u1_0 u1_1 u1_2, .slice u1_3 u1_4 u1_5, .int .i64 u1_6, .int .i64 u1_7, .float .f32 u1_8] 28) = w2 at B_2 K0_2 K1_2 ⊢
  simp only [World.size_alloc] at K1_2
  refine (HX0.out _ _ _ (HS0.out.kept B_2.out) (Nat.le_refl _) HQ0.out HE0.out).mono ?_
  rintro e w3 ⟨rfl, bl⟩
  have B_3 := Lib.hid (Below.next B_2.out bl)
  clear B_2
  have K0_3 := Lib.hid (K0_2.out.below bl)
  clear K0_2
  have K1_3 := Lib.hid (K1_2.out.below bl)
  clear K1_2
  clear bl
  obtain ⟨pK00, pK01, pK02, pK03, pK04, pK0l⟩ := tb5 K0_3.out
  obtain ⟨pK10, pK11, pK12, pK13, pK14, pK1l⟩ := tb5 K1_3.out
  go_wp2_with fail
  clear pK00 pK01 pK02 pK03 pK04 pK0l pK10 pK11 pK12 pK13 pK14 pK1l
  refine (HX1.out _ _ _ (HS1.out.kept B_3.out) hl0' HQ1.out HE1.out).mono ?_
  rintro e w4 ⟨rfl, bl⟩
  have B_4 := Lib.hid (Below.next B_3.out bl)
  clear B_3
  have K0_4 := Lib.hid (K0_3.out.below bl)
  clear K0_3
  have K1_4 := Lib.hid (K1_3.out.below bl)
  clear K1_3
  clear bl
  obtain ⟨pK00, pK01, pK02, pK03, pK04, pK0l⟩ := tb5 K0_4.out
  obtain ⟨pK10, pK11, pK12, pK13, pK14, pK1l⟩ := tb5 K1_4.out
  go_wp2_with fail
  clear pK00 pK01 pK02 pK03 pK04 pK0l pK10 pK11 pK12 pK13 pK14 pK1l
  have bl : Below w4.heap.size w4 w4.drew := (Below.refl _ _).drew
  have B_5 := Lib.hid (Below.next B_4.out bl)
  clear B_4
  have K0_5 := Lib.hid (K0_4.out.below bl)
  clear K0_4
  have K1_5 := Lib.hid (K1_4.out.below bl)
  clear K1_4
  clear bl
  obtain ⟨pK00, pK01, pK02, pK03, pK04, pK0l⟩ := tb5 K0_5.out
  obtain ⟨pK10, pK11, pK12, pK13, pK14, pK1l⟩ := tb5 K1_5.out
  go_region_held3 (fun w' => w'.cell? ⟨w.heap.size, 0, none⟩ = some (.slice u0_0 u0_1 u0_2) ∧ w'.cell? ⟨w.heap.size, 1, none⟩ = some (.slice u0_3 u0_4 u0_5) ∧ w'.cell? ⟨w.heap.size, 2, none⟩ = some (.int .i64 u0_6) ∧ w'.cell? ⟨w.heap.size, 3, none⟩ = some (.int .i64 u0_7) ∧ w'.cell? ⟨w.heap.size, 4, none⟩ = some (.float .f32 u0_8) ∧ w'.cell? ⟨w.heap.size + 1, 0, none⟩ = some (.slice u1_0 u1_1 u1_2) ∧ w'.cell? ⟨w.heap.size + 1, 1, none⟩ = some (.slice u1_3 u1_4 u1_5) ∧ w'.cell? ⟨w.heap.size + 1, 2, none⟩ = some (.int .i64 u1_6) ∧ w'.cell? ⟨w.heap.size + 1, 3, none⟩ = some (.int .i64 u1_7) ∧ w'.cell? ⟨w.heap.size + 1, 4, none⟩ = some (.float .f32 u1_8)) (go_keep)
    (first
      | (go_at_call 9
         clear pK00 pK01 pK02 pK03 pK04 pK0l pK10 pK11 pK12 pK13 pK14 pK1l
         refine (HA0.out _ (HS0.out.kept B_5.out)).mono ?_
         rintro e w6 ⟨qT0, rfl, ht, ho, hsc, hnd, bl⟩
         obtain ⟨uT0_0, uT0_1, uT0_2, uT0_3, uT0_4, uT0_5, uT0_6, uT0_7, uT0_8, hcc⟩ := cells5 qT0
         have CQT0 := Lib.hid hcc
         have HPT0 := Lib.hid ht
         have SCT0 := Lib.hid hsc
         rw [hcc]
         clear hcc
         have T0_6 := Lib.hid (OwnL.base B_5.out.size _ ho)
         have B_6 := Lib.hid (Below.next B_5.out bl)
         clear B_5
         have K0_6 := Lib.hid (K0_5.out.below bl)
         clear K0_5
         have K1_6 := Lib.hid (K1_5.out.below bl)
         clear K1_5
         clear ht hsc ho hnd
         clear bl
         obtain ⟨pK00, pK01, pK02, pK03, pK04, pK0l⟩ := tb5 K0_6.out
         obtain ⟨pK10, pK11, pK12, pK13, pK14, pK1l⟩ := tb5 K1_6.out)
      | (go_at_call 9
         clear pK00 pK01 pK02 pK03 pK04 pK0l pK10 pK11 pK12 pK13 pK14 pK1l
         refine (HA1.out _ (HS1.out.kept B_6.out)).mono ?_
         rintro e w7 ⟨qT1, rfl, ht, ho, hsc, hnd, bl⟩
         obtain ⟨uT1_0, uT1_1, uT1_2, uT1_3, uT1_4, uT1_5, uT1_6, uT1_7, uT1_8, hcc⟩ := cells5 qT1
         have CQT1 := Lib.hid hcc
         have HPT1 := Lib.hid ht
         have SCT1 := Lib.hid hsc
         rw [hcc]
         clear hcc
         have T1_7 := Lib.hid (OwnL.base B_6.out.size _ ho)
         have B_7 := Lib.hid (Below.next B_6.out bl)
         clear B_6
         have K0_7 := Lib.hid (K0_6.out.below bl)
         clear K0_6
         have K1_7 := Lib.hid (K1_6.out.below bl)
         clear K1_6
         have T0_7 := Lib.hid (OwnL.kept T0_6.out bl)
         clear T0_6
         clear ht hsc ho hnd
         clear bl
         obtain ⟨pK00, pK01, pK02, pK03, pK04, pK0l⟩ := tb5 K0_7.out
         obtain ⟨pK10, pK11, pK12, pK13, pK14, pK1l⟩ := tb5 K1_7.out)
      | (go_at_call 20
         clear pK00 pK01 pK02 pK03 pK04 pK0l pK10 pK11 pK12 pK13 pK14 pK1l
         have hc := CS.out qT0 qT1 _ HPT0.out (TrsOwn.at ⟨T0_7.out, SCT0.out⟩) HPT1.out (TrsOwn.at ⟨T1_7.out, SCT1.out⟩)
         rw [CQT0.out, CQT1.out] at hc
         refine hc.mono ?_
         clear hc
         rintro e w8 ⟨aS, capS, yS, rfl, hf, hy, bl⟩
         have HYS := Lib.hid hy
         have WFS := Lib.hid hf.2
         have ho := inL_of hf
         have S_8 := Lib.hid (OwnL.base B_7.out.size _ ho)
         have B_8 := Lib.hid (Below.next B_7.out bl)
         clear B_7
         have K0_8 := Lib.hid (K0_7.out.below bl)
         clear K0_7
         have K1_8 := Lib.hid (K1_7.out.below bl)
         clear K1_7
         have T0_8 := Lib.hid (OwnL.kept T0_7.out bl)
         clear T0_7
         have T1_8 := Lib.hid (OwnL.kept T1_7.out bl)
         clear T1_7
         clear hf hy ho
         clear bl
         obtain ⟨pK00, pK01, pK02, pK03, pK04, pK0l⟩ := tb5 K0_8.out
         obtain ⟨pK10, pK11, pK12, pK13, pK14, pK1l⟩ := tb5 K1_8.out))
  clear pK00 pK01 pK02 pK03 pK04 pK0l pK10 pK11 pK12 pK13 pK14 pK1l
  clear T0_8
  clear T1_8
  obtain ⟨pK00, pK01, pK02, pK03, pK04, pK0l⟩ := tb5 K0_8.out
  obtain ⟨pK10, pK11, pK12, pK13, pK14, pK1l⟩ := tb5 K1_8.out
  go_wp2_with fail
  clear pK00 pK01 pK02 pK03 pK04 pK0l pK10 pK11 pK12 pK13 pK14 pK1l
  refine (HA0.out _ (HS0.out.kept B_8.out)).mono ?_
  rintro e w9 ⟨qX0, rfl, ht, ho, hsc, hnd, bl⟩
  obtain ⟨uX0_0, uX0_1, uX0_2, uX0_3, uX0_4, uX0_5, uX0_6, uX0_7, uX0_8, hcc⟩ := cells5 qX0
  have CQX0 := Lib.hid hcc
  have HPX0 := Lib.hid ht
  have SCX0 := Lib.hid hsc
  rw [hcc]
  clear hcc
  have D_X0_K0 := Lib.hid (apart_box K0_8.out ho)
  have D_X0_K1 := Lib.hid (apart_box K1_8.out ho)
  have D_X0_S := Lib.hid (apart_new S_8.out ho)
  have NDX0 := Lib.hid hnd
  have X0_9 := Lib.hid (OwnL.base B_8.out.size _ ho)
  have B_9 := Lib.hid (Below.next B_8.out bl)
  clear B_8
  have K0_9 := Lib.hid (K0_8.out.below bl)
  clear K0_8
  have K1_9 := Lib.hid (K1_8.out.below bl)
  clear K1_8
  have S_9 := Lib.hid (OwnL.kept S_8.out bl)
  clear S_8
  clear ht hsc ho hnd
  clear bl
  obtain ⟨pK00, pK01, pK02, pK03, pK04, pK0l⟩ := tb5 K0_9.out
  obtain ⟨pK10, pK11, pK12, pK13, pK14, pK1l⟩ := tb5 K1_9.out
  go_wp2_with fail
  clear pK00 pK01 pK02 pK03 pK04 pK0l pK10 pK11 pK12 pK13 pK14 pK1l
  have D_X0_XB0 := Lib.hid (apart_next X0_9.out)
  have bl := (Below.refl w9.heap.size w9).alloc (Nat.le_refl _) (.cells #[.slice uX0_0 uX0_1 uX0_2, .slice uX0_3 uX0_4 uX0_5, .int .i64 uX0_6, .int .i64 uX0_7, .float .f32 uX0_8] 35)
  have XB0_10 := Lib.hid (Blk.new w9 35 #[.slice uX0_0 uX0_1 uX0_2, .slice uX0_3 uX0_4 uX0_5, .int .i64 uX0_6, .int .i64 uX0_7, .float .f32 uX0_8])
  have B_10 := Lib.hid (Below.next B_9.out bl)
  clear B_9
  have K0_10 := Lib.hid (K0_9.out.below bl)
  clear K0_9
  have K1_10 := Lib.hid (K1_9.out.below bl)
  clear K1_9
  have S_10 := Lib.hid (OwnL.kept S_9.out bl)
  clear S_9
  have X0_10 := Lib.hid (OwnL.kept X0_9.out bl)
  clear X0_9
  clear bl
  generalize w9.alloc (.cells #[.slice uX0_0 uX0_1 uX0_2, .slice uX0_3 uX0_4 uX0_5, .int .i64 uX0_6, .int .i64 uX0_7, .float .f32 uX0_8] 35) = w10 at B_10 K0_10 K1_10 S_10 X0_10 XB0_10 ⊢
  obtain ⟨pK00, pK01, pK02, pK03, pK04, pK0l⟩ := tb5 K0_10.out
  obtain ⟨pK10, pK11, pK12, pK13, pK14, pK1l⟩ := tb5 K1_10.out
  obtain ⟨pXB00, pXB01, pXB02, pXB03, pXB04, pXB0l⟩ := tb5 XB0_10.out
  try go_wp2_with fail
  clear pK00 pK01 pK02 pK03 pK04 pK0l pK10 pK11 pK12 pK13 pK14 pK1l pXB00 pXB01 pXB02 pXB03 pXB04 pXB0l
  obtain ⟨pK00, pK01, pK02, pK03, pK04, pK0l⟩ := tb5 K0_10.out
  obtain ⟨pK10, pK11, pK12, pK13, pK14, pK1l⟩ := tb5 K1_10.out
  obtain ⟨pXB00, pXB01, pXB02, pXB03, pXB04, pXB0l⟩ := tb5 XB0_10.out
  go_wp2_with fail
  clear pK00 pK01 pK02 pK03 pK04 pK0l pK10 pK11 pK12 pK13 pK14 pK1l pXB00 pXB01 pXB02 pXB03 pXB04 pXB0l
  refine (HA1.out _ (HS1.out.kept B_10.out)).mono ?_
  rintro e w11 ⟨qX1, rfl, ht, ho, hsc, hnd, bl⟩
  obtain ⟨uX1_0, uX1_1, uX1_2, uX1_3, uX1_4, uX1_5, uX1_6, uX1_7, uX1_8, hcc⟩ := cells5 qX1
  have CQX1 := Lib.hid hcc
  have HPX1 := Lib.hid ht
  have SCX1 := Lib.hid hsc
  rw [hcc]
  clear hcc
  have D_X1_K0 := Lib.hid (apart_box K0_10.out ho)
  have D_X1_K1 := Lib.hid (apart_box K1_10.out ho)
  have D_X1_S := Lib.hid (apart_new S_10.out ho)
  have D_X0_X1 := Lib.hid (apart_symm (apart_new X0_10.out ho))
  have D_X1_X0 := Lib.hid (apart_new X0_10.out ho)
  have D_X1_XB0 := Lib.hid (apart_box XB0_10.out ho)
  have NDX1 := Lib.hid hnd
  have X1_11 := Lib.hid (OwnL.base B_10.out.size _ ho)
  have B_11 := Lib.hid (Below.next B_10.out bl)
  clear B_10
  have K0_11 := Lib.hid (K0_10.out.below bl)
  clear K0_10
  have K1_11 := Lib.hid (K1_10.out.below bl)
  clear K1_10
  have S_11 := Lib.hid (OwnL.kept S_10.out bl)
  clear S_10
  have X0_11 := Lib.hid (OwnL.kept X0_10.out bl)
  clear X0_10
  have XB0_11 := Lib.hid (XB0_10.out.below bl)
  clear XB0_10
  clear ht hsc ho hnd
  clear bl
  obtain ⟨pK00, pK01, pK02, pK03, pK04, pK0l⟩ := tb5 K0_11.out
  obtain ⟨pK10, pK11, pK12, pK13, pK14, pK1l⟩ := tb5 K1_11.out
  obtain ⟨pXB00, pXB01, pXB02, pXB03, pXB04, pXB0l⟩ := tb5 XB0_11.out
  go_wp2_with fail
  clear pK00 pK01 pK02 pK03 pK04 pK0l pK10 pK11 pK12 pK13 pK14 pK1l pXB00 pXB01 pXB02 pXB03 pXB04 pXB0l
  have D_X0_XB1 := Lib.hid (apart_next X0_11.out)
  have D_X1_XB1 := Lib.hid (apart_next X1_11.out)
  have bl := (Below.refl w11.heap.size w11).alloc (Nat.le_refl _) (.cells #[.slice uX1_0 uX1_1 uX1_2, .slice uX1_3 uX1_4 uX1_5, .int .i64 uX1_6, .int .i64 uX1_7, .float .f32 uX1_8] 35)
  have XB1_12 := Lib.hid (Blk.new w11 35 #[.slice uX1_0 uX1_1 uX1_2, .slice uX1_3 uX1_4 uX1_5, .int .i64 uX1_6, .int .i64 uX1_7, .float .f32 uX1_8])
  have B_12 := Lib.hid (Below.next B_11.out bl)
  clear B_11
  have K0_12 := Lib.hid (K0_11.out.below bl)
  clear K0_11
  have K1_12 := Lib.hid (K1_11.out.below bl)
  clear K1_11
  have S_12 := Lib.hid (OwnL.kept S_11.out bl)
  clear S_11
  have X0_12 := Lib.hid (OwnL.kept X0_11.out bl)
  clear X0_11
  have XB0_12 := Lib.hid (XB0_11.out.below bl)
  clear XB0_11
  have X1_12 := Lib.hid (OwnL.kept X1_11.out bl)
  clear X1_11
  clear bl
  generalize w11.alloc (.cells #[.slice uX1_0 uX1_1 uX1_2, .slice uX1_3 uX1_4 uX1_5, .int .i64 uX1_6, .int .i64 uX1_7, .float .f32 uX1_8] 35) = w12 at B_12 K0_12 K1_12 S_12 X0_12 XB0_12 X1_12 XB1_12 ⊢
  obtain ⟨pK00, pK01, pK02, pK03, pK04, pK0l⟩ := tb5 K0_12.out
  obtain ⟨pK10, pK11, pK12, pK13, pK14, pK1l⟩ := tb5 K1_12.out
  obtain ⟨pXB00, pXB01, pXB02, pXB03, pXB04, pXB0l⟩ := tb5 XB0_12.out
  obtain ⟨pXB10, pXB11, pXB12, pXB13, pXB14, pXB1l⟩ := tb5 XB1_12.out
  try go_wp2_with fail
  clear pK00 pK01 pK02 pK03 pK04 pK0l pK10 pK11 pK12 pK13 pK14 pK1l pXB00 pXB01 pXB02 pXB03 pXB04 pXB0l pXB10 pXB11 pXB12 pXB13 pXB14 pXB1l
  have hc := CI.out qX0 qX1 _ HPX0.out (TrsOwn.at ⟨X0_12.out, SCX0.out⟩) HPX1.out (TrsOwn.at ⟨X1_12.out, SCX1.out⟩)
  rw [CQX0.out, CQX1.out] at hc
  refine hc.mono ?_
  clear hc
  rintro e w13 ⟨aG, capG, yG, rfl, hf, hy, bl⟩
  have HYG := Lib.hid hy
  have WFG := Lib.hid hf.2
  have ho := inL_of hf
  have D_G_K0 := Lib.hid (apart_box K0_12.out ho)
  have D_G_K1 := Lib.hid (apart_box K1_12.out ho)
  have D_G_S := Lib.hid (apart_new S_12.out ho)
  have D_X0_G := Lib.hid (apart_symm (apart_new X0_12.out ho))
  have D_G_X0 := Lib.hid (apart_new X0_12.out ho)
  have D_G_XB0 := Lib.hid (apart_box XB0_12.out ho)
  have D_X1_G := Lib.hid (apart_symm (apart_new X1_12.out ho))
  have D_G_X1 := Lib.hid (apart_new X1_12.out ho)
  have D_G_XB1 := Lib.hid (apart_box XB1_12.out ho)
  have LG := Lib.hid (show yG.length ≤ 1048576 by rw [hy]; exact hz)
  have G_13 := Lib.hid (OwnL.base B_12.out.size _ ho)
  have B_13 := Lib.hid (Below.next B_12.out bl)
  clear B_12
  have K0_13 := Lib.hid (K0_12.out.below bl)
  clear K0_12
  have K1_13 := Lib.hid (K1_12.out.below bl)
  clear K1_12
  have S_13 := Lib.hid (OwnL.kept S_12.out bl)
  clear S_12
  have X0_13 := Lib.hid (OwnL.kept X0_12.out bl)
  clear X0_12
  have XB0_13 := Lib.hid (XB0_12.out.below bl)
  clear XB0_12
  have X1_13 := Lib.hid (OwnL.kept X1_12.out bl)
  clear X1_12
  have XB1_13 := Lib.hid (XB1_12.out.below bl)
  clear XB1_12
  clear hf hy ho
  clear bl
  obtain ⟨pK00, pK01, pK02, pK03, pK04, pK0l⟩ := tb5 K0_13.out
  obtain ⟨pK10, pK11, pK12, pK13, pK14, pK1l⟩ := tb5 K1_13.out
  obtain ⟨pXB00, pXB01, pXB02, pXB03, pXB04, pXB0l⟩ := tb5 XB0_13.out
  obtain ⟨pXB10, pXB11, pXB12, pXB13, pXB14, pXB1l⟩ := tb5 XB1_13.out
  go_wp2_with fail
  clear pK00 pK01 pK02 pK03 pK04 pK0l pK10 pK11 pK12 pK13 pK14 pK1l pXB00 pXB01 pXB02 pXB03 pXB04 pXB0l pXB10 pXB11 pXB12 pXB13 pXB14 pXB1l
  refine (c_eqInts _ _ _ _ yG yS _ (inL_row G_13.out WFG.out) (inL_row S_13.out WFS.out) (HYG.out.trans HYS.out.symm)).mono ?_
  rintro e w14 ⟨rfl, dn⟩
  have bl : Below w13.heap.size w13 w14 := by first | exact dn.below | exact (below_drewN (Below.refl _ _) _).trans dn.below
  clear dn
  have B_14 := Lib.hid (Below.next B_13.out bl)
  clear B_13
  have K0_14 := Lib.hid (K0_13.out.below bl)
  clear K0_13
  have K1_14 := Lib.hid (K1_13.out.below bl)
  clear K1_13
  have S_14 := Lib.hid (OwnL.kept S_13.out bl)
  clear S_13
  have X0_14 := Lib.hid (OwnL.kept X0_13.out bl)
  clear X0_13
  have XB0_14 := Lib.hid (XB0_13.out.below bl)
  clear XB0_13
  have X1_14 := Lib.hid (OwnL.kept X1_13.out bl)
  clear X1_13
  have XB1_14 := Lib.hid (XB1_13.out.below bl)
  clear XB1_13
  have G_14 := Lib.hid (OwnL.kept G_13.out bl)
  clear G_13
  clear bl
  obtain ⟨pK00, pK01, pK02, pK03, pK04, pK0l⟩ := tb5 K0_14.out
  obtain ⟨pK10, pK11, pK12, pK13, pK14, pK1l⟩ := tb5 K1_14.out
  obtain ⟨pXB00, pXB01, pXB02, pXB03, pXB04, pXB0l⟩ := tb5 XB0_14.out
  obtain ⟨pXB10, pXB11, pXB12, pXB13, pXB14, pXB1l⟩ := tb5 XB1_14.out
  go_wp2_with fail
  clear pK00 pK01 pK02 pK03 pK04 pK0l pK10 pK11 pK12 pK13 pK14 pK1l pXB00 pXB01 pXB02 pXB03 pXB04 pXB0l pXB10 pXB11 pXB12 pXB13 pXB14 pXB1l
  have bl : Below w14.heap.size w14 w14.drew := (Below.refl _ _).drew
  have B_15 := Lib.hid (Below.next B_14.out bl)
  clear B_14
  have K0_15 := Lib.hid (K0_14.out.below bl)
  clear K0_14
  have K1_15 := Lib.hid (K1_14.out.below bl)
  clear K1_14
  have S_15 := Lib.hid (OwnL.kept S_14.out bl)
  clear S_14
  have X0_15 := Lib.hid (OwnL.kept X0_14.out bl)
  clear X0_14
  have XB0_15 := Lib.hid (XB0_14.out.below bl)
  clear XB0_14
  have X1_15 := Lib.hid (OwnL.kept X1_14.out bl)
  clear X1_14
  have XB1_15 := Lib.hid (XB1_14.out.below bl)
  clear XB1_14
  have G_15 := Lib.hid (OwnL.kept G_14.out bl)
  clear G_14
  clear bl
  obtain ⟨pK00, pK01, pK02, pK03, pK04, pK0l⟩ := tb5 K0_15.out
  obtain ⟨pK10, pK11, pK12, pK13, pK14, pK1l⟩ := tb5 K1_15.out
  obtain ⟨pXB00, pXB01, pXB02, pXB03, pXB04, pXB0l⟩ := tb5 XB0_15.out
  obtain ⟨pXB10, pXB11, pXB12, pXB13, pXB14, pXB1l⟩ := tb5 XB1_15.out
  go_region_held3 (fun w' => w'.cell? ⟨w.heap.size, 0, none⟩ = some (.slice u0_0 u0_1 u0_2) ∧ w'.cell? ⟨w.heap.size, 1, none⟩ = some (.slice u0_3 u0_4 u0_5) ∧ w'.cell? ⟨w.heap.size, 2, none⟩ = some (.int .i64 u0_6) ∧ w'.cell? ⟨w.heap.size, 3, none⟩ = some (.int .i64 u0_7) ∧ w'.cell? ⟨w.heap.size, 4, none⟩ = some (.float .f32 u0_8) ∧ w'.cell? ⟨w.heap.size + 1, 0, none⟩ = some (.slice u1_0 u1_1 u1_2) ∧ w'.cell? ⟨w.heap.size + 1, 1, none⟩ = some (.slice u1_3 u1_4 u1_5) ∧ w'.cell? ⟨w.heap.size + 1, 2, none⟩ = some (.int .i64 u1_6) ∧ w'.cell? ⟨w.heap.size + 1, 3, none⟩ = some (.int .i64 u1_7) ∧ w'.cell? ⟨w.heap.size + 1, 4, none⟩ = some (.float .f32 u1_8) ∧ w'.cell? ⟨w9.heap.size, 0, none⟩ = some (.slice uX0_0 uX0_1 uX0_2) ∧ w'.cell? ⟨w9.heap.size, 1, none⟩ = some (.slice uX0_3 uX0_4 uX0_5) ∧ w'.cell? ⟨w9.heap.size, 2, none⟩ = some (.int .i64 uX0_6) ∧ w'.cell? ⟨w9.heap.size, 3, none⟩ = some (.int .i64 uX0_7) ∧ w'.cell? ⟨w9.heap.size, 4, none⟩ = some (.float .f32 uX0_8) ∧ w'.cell? ⟨w11.heap.size, 0, none⟩ = some (.slice uX1_0 uX1_1 uX1_2) ∧ w'.cell? ⟨w11.heap.size, 1, none⟩ = some (.slice uX1_3 uX1_4 uX1_5) ∧ w'.cell? ⟨w11.heap.size, 2, none⟩ = some (.int .i64 uX1_6) ∧ w'.cell? ⟨w11.heap.size, 3, none⟩ = some (.int .i64 uX1_7) ∧ w'.cell? ⟨w11.heap.size, 4, none⟩ = some (.float .f32 uX1_8)) (go_keep)
    (first
      | (go_at_call 9
         clear pK00 pK01 pK02 pK03 pK04 pK0l pK10 pK11 pK12 pK13 pK14 pK1l pXB00 pXB01 pXB02 pXB03 pXB04 pXB0l pXB10 pXB11 pXB12 pXB13 pXB14 pXB1l
         refine (HA0.out _ (HS0.out.kept B_15.out)).mono ?_
         rintro e w16 ⟨qY0, rfl, ht, ho, hsc, hnd, bl⟩
         obtain ⟨uY0_0, uY0_1, uY0_2, uY0_3, uY0_4, uY0_5, uY0_6, uY0_7, uY0_8, hcc⟩ := cells5 qY0
         have CQY0 := Lib.hid hcc
         have HPY0 := Lib.hid ht
         have SCY0 := Lib.hid hsc
         rw [hcc]
         clear hcc
         have Y0_16 := Lib.hid (OwnL.base B_15.out.size _ ho)
         have B_16 := Lib.hid (Below.next B_15.out bl)
         clear B_15
         have K0_16 := Lib.hid (K0_15.out.below bl)
         clear K0_15
         have K1_16 := Lib.hid (K1_15.out.below bl)
         clear K1_15
         have S_16 := Lib.hid (OwnL.kept S_15.out bl)
         clear S_15
         have X0_16 := Lib.hid (OwnL.kept X0_15.out bl)
         clear X0_15
         have XB0_16 := Lib.hid (XB0_15.out.below bl)
         clear XB0_15
         have X1_16 := Lib.hid (OwnL.kept X1_15.out bl)
         clear X1_15
         have XB1_16 := Lib.hid (XB1_15.out.below bl)
         clear XB1_15
         have G_16 := Lib.hid (OwnL.kept G_15.out bl)
         clear G_15
         clear ht hsc ho hnd
         clear bl
         obtain ⟨pK00, pK01, pK02, pK03, pK04, pK0l⟩ := tb5 K0_16.out
         obtain ⟨pK10, pK11, pK12, pK13, pK14, pK1l⟩ := tb5 K1_16.out
         obtain ⟨pXB00, pXB01, pXB02, pXB03, pXB04, pXB0l⟩ := tb5 XB0_16.out
         obtain ⟨pXB10, pXB11, pXB12, pXB13, pXB14, pXB1l⟩ := tb5 XB1_16.out)
      | (go_at_call 11
         clear pK00 pK01 pK02 pK03 pK04 pK0l pK10 pK11 pK12 pK13 pK14 pK1l pXB00 pXB01 pXB02 pXB03 pXB04 pXB0l pXB10 pXB11 pXB12 pXB13 pXB14 pXB1l
         have hc := c_eqTrs' qX0 qY0 _ (TrsOwn.at ⟨X0_16.out, SCX0.out⟩) (TrsOwn.at ⟨Y0_16.out, SCY0.out⟩) (HPX0.out.trans HPY0.out.symm)
         rw [CQX0.out, CQY0.out] at hc
         refine hc.mono ?_
         clear hc
         rintro e w17 ⟨rfl, bl⟩
         have B_17 := Lib.hid (Below.next B_16.out bl)
         clear B_16
         have K0_17 := Lib.hid (K0_16.out.below bl)
         clear K0_16
         have K1_17 := Lib.hid (K1_16.out.below bl)
         clear K1_16
         have S_17 := Lib.hid (OwnL.kept S_16.out bl)
         clear S_16
         have X0_17 := Lib.hid (OwnL.kept X0_16.out bl)
         clear X0_16
         have XB0_17 := Lib.hid (XB0_16.out.below bl)
         clear XB0_16
         have X1_17 := Lib.hid (OwnL.kept X1_16.out bl)
         clear X1_16
         have XB1_17 := Lib.hid (XB1_16.out.below bl)
         clear XB1_16
         have G_17 := Lib.hid (OwnL.kept G_16.out bl)
         clear G_16
         have Y0_17 := Lib.hid (OwnL.kept Y0_16.out bl)
         clear Y0_16
         clear bl
         obtain ⟨pK00, pK01, pK02, pK03, pK04, pK0l⟩ := tb5 K0_17.out
         obtain ⟨pK10, pK11, pK12, pK13, pK14, pK1l⟩ := tb5 K1_17.out
         obtain ⟨pXB00, pXB01, pXB02, pXB03, pXB04, pXB0l⟩ := tb5 XB0_17.out
         obtain ⟨pXB10, pXB11, pXB12, pXB13, pXB14, pXB1l⟩ := tb5 XB1_17.out))
  clear pK00 pK01 pK02 pK03 pK04 pK0l pK10 pK11 pK12 pK13 pK14 pK1l pXB00 pXB01 pXB02 pXB03 pXB04 pXB0l pXB10 pXB11 pXB12 pXB13 pXB14 pXB1l
  clear Y0_17
  obtain ⟨pK00, pK01, pK02, pK03, pK04, pK0l⟩ := tb5 K0_17.out
  obtain ⟨pK10, pK11, pK12, pK13, pK14, pK1l⟩ := tb5 K1_17.out
  obtain ⟨pXB00, pXB01, pXB02, pXB03, pXB04, pXB0l⟩ := tb5 XB0_17.out
  obtain ⟨pXB10, pXB11, pXB12, pXB13, pXB14, pXB1l⟩ := tb5 XB1_17.out
  go_wp2_with fail
  clear pK00 pK01 pK02 pK03 pK04 pK0l pK10 pK11 pK12 pK13 pK14 pK1l pXB00 pXB01 pXB02 pXB03 pXB04 pXB0l pXB10 pXB11 pXB12 pXB13 pXB14 pXB1l
  have bl : Below w17.heap.size w17 w17.drew := (Below.refl _ _).drew
  have B_18 := Lib.hid (Below.next B_17.out bl)
  clear B_17
  have K0_18 := Lib.hid (K0_17.out.below bl)
  clear K0_17
  have K1_18 := Lib.hid (K1_17.out.below bl)
  clear K1_17
  have S_18 := Lib.hid (OwnL.kept S_17.out bl)
  clear S_17
  have X0_18 := Lib.hid (OwnL.kept X0_17.out bl)
  clear X0_17
  have XB0_18 := Lib.hid (XB0_17.out.below bl)
  clear XB0_17
  have X1_18 := Lib.hid (OwnL.kept X1_17.out bl)
  clear X1_17
  have XB1_18 := Lib.hid (XB1_17.out.below bl)
  clear XB1_17
  have G_18 := Lib.hid (OwnL.kept G_17.out bl)
  clear G_17
  clear bl
  obtain ⟨pK00, pK01, pK02, pK03, pK04, pK0l⟩ := tb5 K0_18.out
  obtain ⟨pK10, pK11, pK12, pK13, pK14, pK1l⟩ := tb5 K1_18.out
  obtain ⟨pXB00, pXB01, pXB02, pXB03, pXB04, pXB0l⟩ := tb5 XB0_18.out
  obtain ⟨pXB10, pXB11, pXB12, pXB13, pXB14, pXB1l⟩ := tb5 XB1_18.out
  go_region_held3 (fun w' => w'.cell? ⟨w.heap.size, 0, none⟩ = some (.slice u0_0 u0_1 u0_2) ∧ w'.cell? ⟨w.heap.size, 1, none⟩ = some (.slice u0_3 u0_4 u0_5) ∧ w'.cell? ⟨w.heap.size, 2, none⟩ = some (.int .i64 u0_6) ∧ w'.cell? ⟨w.heap.size, 3, none⟩ = some (.int .i64 u0_7) ∧ w'.cell? ⟨w.heap.size, 4, none⟩ = some (.float .f32 u0_8) ∧ w'.cell? ⟨w.heap.size + 1, 0, none⟩ = some (.slice u1_0 u1_1 u1_2) ∧ w'.cell? ⟨w.heap.size + 1, 1, none⟩ = some (.slice u1_3 u1_4 u1_5) ∧ w'.cell? ⟨w.heap.size + 1, 2, none⟩ = some (.int .i64 u1_6) ∧ w'.cell? ⟨w.heap.size + 1, 3, none⟩ = some (.int .i64 u1_7) ∧ w'.cell? ⟨w.heap.size + 1, 4, none⟩ = some (.float .f32 u1_8) ∧ w'.cell? ⟨w9.heap.size, 0, none⟩ = some (.slice uX0_0 uX0_1 uX0_2) ∧ w'.cell? ⟨w9.heap.size, 1, none⟩ = some (.slice uX0_3 uX0_4 uX0_5) ∧ w'.cell? ⟨w9.heap.size, 2, none⟩ = some (.int .i64 uX0_6) ∧ w'.cell? ⟨w9.heap.size, 3, none⟩ = some (.int .i64 uX0_7) ∧ w'.cell? ⟨w9.heap.size, 4, none⟩ = some (.float .f32 uX0_8) ∧ w'.cell? ⟨w11.heap.size, 0, none⟩ = some (.slice uX1_0 uX1_1 uX1_2) ∧ w'.cell? ⟨w11.heap.size, 1, none⟩ = some (.slice uX1_3 uX1_4 uX1_5) ∧ w'.cell? ⟨w11.heap.size, 2, none⟩ = some (.int .i64 uX1_6) ∧ w'.cell? ⟨w11.heap.size, 3, none⟩ = some (.int .i64 uX1_7) ∧ w'.cell? ⟨w11.heap.size, 4, none⟩ = some (.float .f32 uX1_8)) (go_keep)
    (first
      | (go_at_call 9
         clear pK00 pK01 pK02 pK03 pK04 pK0l pK10 pK11 pK12 pK13 pK14 pK1l pXB00 pXB01 pXB02 pXB03 pXB04 pXB0l pXB10 pXB11 pXB12 pXB13 pXB14 pXB1l
         refine (HA1.out _ (HS1.out.kept B_18.out)).mono ?_
         rintro e w19 ⟨qY1, rfl, ht, ho, hsc, hnd, bl⟩
         obtain ⟨uY1_0, uY1_1, uY1_2, uY1_3, uY1_4, uY1_5, uY1_6, uY1_7, uY1_8, hcc⟩ := cells5 qY1
         have CQY1 := Lib.hid hcc
         have HPY1 := Lib.hid ht
         have SCY1 := Lib.hid hsc
         rw [hcc]
         clear hcc
         have Y1_19 := Lib.hid (OwnL.base B_18.out.size _ ho)
         have B_19 := Lib.hid (Below.next B_18.out bl)
         clear B_18
         have K0_19 := Lib.hid (K0_18.out.below bl)
         clear K0_18
         have K1_19 := Lib.hid (K1_18.out.below bl)
         clear K1_18
         have S_19 := Lib.hid (OwnL.kept S_18.out bl)
         clear S_18
         have X0_19 := Lib.hid (OwnL.kept X0_18.out bl)
         clear X0_18
         have XB0_19 := Lib.hid (XB0_18.out.below bl)
         clear XB0_18
         have X1_19 := Lib.hid (OwnL.kept X1_18.out bl)
         clear X1_18
         have XB1_19 := Lib.hid (XB1_18.out.below bl)
         clear XB1_18
         have G_19 := Lib.hid (OwnL.kept G_18.out bl)
         clear G_18
         clear ht hsc ho hnd
         clear bl
         obtain ⟨pK00, pK01, pK02, pK03, pK04, pK0l⟩ := tb5 K0_19.out
         obtain ⟨pK10, pK11, pK12, pK13, pK14, pK1l⟩ := tb5 K1_19.out
         obtain ⟨pXB00, pXB01, pXB02, pXB03, pXB04, pXB0l⟩ := tb5 XB0_19.out
         obtain ⟨pXB10, pXB11, pXB12, pXB13, pXB14, pXB1l⟩ := tb5 XB1_19.out)
      | (go_at_call 11
         clear pK00 pK01 pK02 pK03 pK04 pK0l pK10 pK11 pK12 pK13 pK14 pK1l pXB00 pXB01 pXB02 pXB03 pXB04 pXB0l pXB10 pXB11 pXB12 pXB13 pXB14 pXB1l
         have hc := c_eqTrs' qX1 qY1 _ (TrsOwn.at ⟨X1_19.out, SCX1.out⟩) (TrsOwn.at ⟨Y1_19.out, SCY1.out⟩) (HPX1.out.trans HPY1.out.symm)
         rw [CQX1.out, CQY1.out] at hc
         refine hc.mono ?_
         clear hc
         rintro e w20 ⟨rfl, bl⟩
         have B_20 := Lib.hid (Below.next B_19.out bl)
         clear B_19
         have K0_20 := Lib.hid (K0_19.out.below bl)
         clear K0_19
         have K1_20 := Lib.hid (K1_19.out.below bl)
         clear K1_19
         have S_20 := Lib.hid (OwnL.kept S_19.out bl)
         clear S_19
         have X0_20 := Lib.hid (OwnL.kept X0_19.out bl)
         clear X0_19
         have XB0_20 := Lib.hid (XB0_19.out.below bl)
         clear XB0_19
         have X1_20 := Lib.hid (OwnL.kept X1_19.out bl)
         clear X1_19
         have XB1_20 := Lib.hid (XB1_19.out.below bl)
         clear XB1_19
         have G_20 := Lib.hid (OwnL.kept G_19.out bl)
         clear G_19
         have Y1_20 := Lib.hid (OwnL.kept Y1_19.out bl)
         clear Y1_19
         clear bl
         obtain ⟨pK00, pK01, pK02, pK03, pK04, pK0l⟩ := tb5 K0_20.out
         obtain ⟨pK10, pK11, pK12, pK13, pK14, pK1l⟩ := tb5 K1_20.out
         obtain ⟨pXB00, pXB01, pXB02, pXB03, pXB04, pXB0l⟩ := tb5 XB0_20.out
         obtain ⟨pXB10, pXB11, pXB12, pXB13, pXB14, pXB1l⟩ := tb5 XB1_20.out))
  clear pK00 pK01 pK02 pK03 pK04 pK0l pK10 pK11 pK12 pK13 pK14 pK1l pXB00 pXB01 pXB02 pXB03 pXB04 pXB0l pXB10 pXB11 pXB12 pXB13 pXB14 pXB1l
  clear Y1_20
  obtain ⟨pK00, pK01, pK02, pK03, pK04, pK0l⟩ := tb5 K0_20.out
  obtain ⟨pK10, pK11, pK12, pK13, pK14, pK1l⟩ := tb5 K1_20.out
  obtain ⟨pXB00, pXB01, pXB02, pXB03, pXB04, pXB0l⟩ := tb5 XB0_20.out
  obtain ⟨pXB10, pXB11, pXB12, pXB13, pXB14, pXB1l⟩ := tb5 XB1_20.out
  go_wp2_with fail
  clear pK00 pK01 pK02 pK03 pK04 pK0l pK10 pK11 pK12 pK13 pK14 pK1l pXB00 pXB01 pXB02 pXB03 pXB04 pXB0l pXB10 pXB11 pXB12 pXB13 pXB14 pXB1l
  have hc := c_markTrsX q0 qX0 _ 1 m0 _ HPX0.out X0_20.out SCX0.out NDX0.out HM0.out hm0' HZ0.out
  rw [CQX0.out] at hc
  refine hc.mono ?_
  clear hc
  rintro e w21 ⟨rfl, ho, hg⟩
  have B_21 := Lib.hid (hg.below' B_20.out (fun g h => (OwnL.lt _ X0_20.out g h).1))
  have K0_21 := Lib.hid (K0_20.out.inn hg D_X0_K0.out)
  have K1_21 := Lib.hid (K1_20.out.inn hg D_X0_K1.out)
  have S_21 := Lib.hid (OwnL.apart hg _ S_20.out D_X0_S.out)
  have XB0_21 := Lib.hid (XB0_20.out.inn hg D_X0_XB0.out)
  have X1_21 := Lib.hid (OwnL.apart hg _ X1_20.out D_X0_X1.out)
  have XB1_21 := Lib.hid (XB1_20.out.inn hg D_X0_XB1.out)
  have G_21 := Lib.hid (OwnL.apart hg _ G_20.out D_X0_G.out)
  clear B_20
  clear K0_20
  clear K1_20
  clear S_20
  clear X0_20
  clear XB0_20
  clear X1_20
  clear XB1_20
  clear G_20
  clear ho hg
  obtain ⟨pK00, pK01, pK02, pK03, pK04, pK0l⟩ := tb5 K0_21.out
  obtain ⟨pK10, pK11, pK12, pK13, pK14, pK1l⟩ := tb5 K1_21.out
  obtain ⟨pXB00, pXB01, pXB02, pXB03, pXB04, pXB0l⟩ := tb5 XB0_21.out
  obtain ⟨pXB10, pXB11, pXB12, pXB13, pXB14, pXB1l⟩ := tb5 XB1_21.out
  go_wp2_with fail
  clear pK00 pK01 pK02 pK03 pK04 pK0l pK10 pK11 pK12 pK13 pK14 pK1l pXB00 pXB01 pXB02 pXB03 pXB04 pXB0l pXB10 pXB11 pXB12 pXB13 pXB14 pXB1l
  have hc := c_markTrsX q1 qX1 _ m0 m1 _ HPX1.out X1_21.out SCX1.out NDX1.out HM1.out hm1' HZ1.out
  rw [CQX1.out] at hc
  refine hc.mono ?_
  clear hc
  rintro e w22 ⟨rfl, ho, hg⟩
  have B_22 := Lib.hid (hg.below' B_21.out (fun g h => (OwnL.lt _ X1_21.out g h).1))
  have K0_22 := Lib.hid (K0_21.out.inn hg D_X1_K0.out)
  have K1_22 := Lib.hid (K1_21.out.inn hg D_X1_K1.out)
  have S_22 := Lib.hid (OwnL.apart hg _ S_21.out D_X1_S.out)
  have XB0_22 := Lib.hid (XB0_21.out.inn hg D_X1_XB0.out)
  have XB1_22 := Lib.hid (XB1_21.out.inn hg D_X1_XB1.out)
  have G_22 := Lib.hid (OwnL.apart hg _ G_21.out D_X1_G.out)
  clear B_21
  clear K0_21
  clear K1_21
  clear S_21
  clear XB0_21
  clear X1_21
  clear XB1_21
  clear G_21
  clear ho hg
  clear XB0_22
  clear XB1_22
  obtain ⟨pK00, pK01, pK02, pK03, pK04, pK0l⟩ := tb5 K0_22.out
  obtain ⟨pK10, pK11, pK12, pK13, pK14, pK1l⟩ := tb5 K1_22.out
  go_wp2_with fail
  clear pK00 pK01 pK02 pK03 pK04 pK0l pK10 pK11 pK12 pK13 pK14 pK1l
  refine (c_eqInts _ _ _ _ yG yS _ (inL_row G_22.out WFG.out) (inL_row S_22.out WFS.out) (HYG.out.trans HYS.out.symm)).mono ?_
  rintro e w23 ⟨rfl, dn⟩
  have bl : Below w22.heap.size w22 w23 := by first | exact dn.below | exact (below_drewN (Below.refl _ _) _).trans dn.below
  clear dn
  have B_23 := Lib.hid (Below.next B_22.out bl)
  clear B_22
  have K0_23 := Lib.hid (K0_22.out.below bl)
  clear K0_22
  have K1_23 := Lib.hid (K1_22.out.below bl)
  clear K1_22
  have S_23 := Lib.hid (OwnL.kept S_22.out bl)
  clear S_22
  have G_23 := Lib.hid (OwnL.kept G_22.out bl)
  clear G_22
  clear bl
  obtain ⟨pK00, pK01, pK02, pK03, pK04, pK0l⟩ := tb5 K0_23.out
  obtain ⟨pK10, pK11, pK12, pK13, pK14, pK1l⟩ := tb5 K1_23.out
  go_wp2_with fail
  clear pK00 pK01 pK02 pK03 pK04 pK0l pK10 pK11 pK12 pK13 pK14 pK1l
  obtain ⟨q, hq⟩ : ∃ q, 1 + yG.length = q := ⟨_, rfl⟩
  have HQ := Lib.hid hq
  have hq' : q ≤ 4194304 := by have := LG.out; omega
  have hq0 : (0 : Int) ≤ (q : Int) := by omega
  clear hq
  refine (c_markIn _ _ _ 1 q yG _ G_23.out WFG.out HQ.out (by decide) LG.out).mono ?_
  rintro e w24 ⟨rfl, ho, hg⟩
  have B_24 := Lib.hid (hg.below' B_23.out (fun g h => (OwnL.lt _ G_23.out g h).1))
  have K0_24 := Lib.hid (K0_23.out.inn hg D_G_K0.out)
  have K1_24 := Lib.hid (K1_23.out.inn hg D_G_K1.out)
  have S_24 := Lib.hid (OwnL.apart hg _ S_23.out D_G_S.out)
  have G_24 := Lib.hid (ho)
  clear B_23
  clear K0_23
  clear K1_23
  clear S_23
  clear G_23
  clear ho hg
  obtain ⟨pK00, pK01, pK02, pK03, pK04, pK0l⟩ := tb5 K0_24.out
  obtain ⟨pK10, pK11, pK12, pK13, pK14, pK1l⟩ := tb5 K1_24.out
  go_wp2_with fail
  clear pK00 pK01 pK02 pK03 pK04 pK0l pK10 pK11 pK12 pK13 pK14 pK1l
  refine (c_heldInts' _ _ 1 q yG.length _ (held_in G_24.out (by decide) LG.out) HQ.out (by decide) LG.out).mono ?_
  rintro e w' ⟨rfl, rfl⟩
  obtain ⟨pK00, pK01, pK02, pK03, pK04, pK0l⟩ := tb5 K0_24.out
  obtain ⟨pK10, pK11, pK12, pK13, pK14, pK1l⟩ := tb5 K1_24.out
  go_wp2_with fail
  clear pK00 pK01 pK02 pK03 pK04 pK0l pK10 pK11 pK12 pK13 pK14 pK1l
  have bl : Below w24.heap.size w24 w24.drew := (Below.refl _ _).drew
  have B_25 := Lib.hid (Below.next B_24.out bl)
  clear B_24
  have K0_25 := Lib.hid (K0_24.out.below bl)
  clear K0_24
  have K1_25 := Lib.hid (K1_24.out.below bl)
  clear K1_24
  have S_25 := Lib.hid (OwnL.kept S_24.out bl)
  clear S_24
  have G_25 := Lib.hid (OwnL.kept G_24.out bl)
  clear G_24
  clear bl
  obtain ⟨pK00, pK01, pK02, pK03, pK04, pK0l⟩ := tb5 K0_25.out
  obtain ⟨pK10, pK11, pK12, pK13, pK14, pK1l⟩ := tb5 K1_25.out
  go_region_held3 (fun w' => w'.cell? ⟨w.heap.size, 0, none⟩ = some (.slice u0_0 u0_1 u0_2) ∧ w'.cell? ⟨w.heap.size, 1, none⟩ = some (.slice u0_3 u0_4 u0_5) ∧ w'.cell? ⟨w.heap.size, 2, none⟩ = some (.int .i64 u0_6) ∧ w'.cell? ⟨w.heap.size, 3, none⟩ = some (.int .i64 u0_7) ∧ w'.cell? ⟨w.heap.size, 4, none⟩ = some (.float .f32 u0_8) ∧ w'.cell? ⟨w.heap.size + 1, 0, none⟩ = some (.slice u1_0 u1_1 u1_2) ∧ w'.cell? ⟨w.heap.size + 1, 1, none⟩ = some (.slice u1_3 u1_4 u1_5) ∧ w'.cell? ⟨w.heap.size + 1, 2, none⟩ = some (.int .i64 u1_6) ∧ w'.cell? ⟨w.heap.size + 1, 3, none⟩ = some (.int .i64 u1_7) ∧ w'.cell? ⟨w.heap.size + 1, 4, none⟩ = some (.float .f32 u1_8)) (go_keep)
    (first
      | (go_at_call 9
         clear pK00 pK01 pK02 pK03 pK04 pK0l pK10 pK11 pK12 pK13 pK14 pK1l
         refine (HA0.out _ (HS0.out.kept B_25.out)).mono ?_
         rintro e w26 ⟨qU0, rfl, ht, ho, hsc, hnd, bl⟩
         obtain ⟨uU0_0, uU0_1, uU0_2, uU0_3, uU0_4, uU0_5, uU0_6, uU0_7, uU0_8, hcc⟩ := cells5 qU0
         have CQU0 := Lib.hid hcc
         have HPU0 := Lib.hid ht
         have SCU0 := Lib.hid hsc
         rw [hcc]
         clear hcc
         have U0_26 := Lib.hid (OwnL.base B_25.out.size _ ho)
         have B_26 := Lib.hid (Below.next B_25.out bl)
         clear B_25
         have K0_26 := Lib.hid (K0_25.out.below bl)
         clear K0_25
         have K1_26 := Lib.hid (K1_25.out.below bl)
         clear K1_25
         have S_26 := Lib.hid (OwnL.kept S_25.out bl)
         clear S_25
         have G_26 := Lib.hid (OwnL.kept G_25.out bl)
         clear G_25
         clear ht hsc ho hnd
         clear bl
         obtain ⟨pK00, pK01, pK02, pK03, pK04, pK0l⟩ := tb5 K0_26.out
         obtain ⟨pK10, pK11, pK12, pK13, pK14, pK1l⟩ := tb5 K1_26.out)
      | (go_at_call 9
         clear pK00 pK01 pK02 pK03 pK04 pK0l pK10 pK11 pK12 pK13 pK14 pK1l
         refine (HA1.out _ (HS1.out.kept B_26.out)).mono ?_
         rintro e w27 ⟨qU1, rfl, ht, ho, hsc, hnd, bl⟩
         obtain ⟨uU1_0, uU1_1, uU1_2, uU1_3, uU1_4, uU1_5, uU1_6, uU1_7, uU1_8, hcc⟩ := cells5 qU1
         have CQU1 := Lib.hid hcc
         have HPU1 := Lib.hid ht
         have SCU1 := Lib.hid hsc
         rw [hcc]
         clear hcc
         have U1_27 := Lib.hid (OwnL.base B_26.out.size _ ho)
         have B_27 := Lib.hid (Below.next B_26.out bl)
         clear B_26
         have K0_27 := Lib.hid (K0_26.out.below bl)
         clear K0_26
         have K1_27 := Lib.hid (K1_26.out.below bl)
         clear K1_26
         have S_27 := Lib.hid (OwnL.kept S_26.out bl)
         clear S_26
         have G_27 := Lib.hid (OwnL.kept G_26.out bl)
         clear G_26
         have U0_27 := Lib.hid (OwnL.kept U0_26.out bl)
         clear U0_26
         clear ht hsc ho hnd
         clear bl
         obtain ⟨pK00, pK01, pK02, pK03, pK04, pK0l⟩ := tb5 K0_27.out
         obtain ⟨pK10, pK11, pK12, pK13, pK14, pK1l⟩ := tb5 K1_27.out)
      | (go_at_call 21
         clear pK00 pK01 pK02 pK03 pK04 pK0l pK10 pK11 pK12 pK13 pK14 pK1l
         have hc := CI.out qU0 qU1 _ HPU0.out (TrsOwn.at ⟨U0_27.out, SCU0.out⟩) HPU1.out (TrsOwn.at ⟨U1_27.out, SCU1.out⟩)
         rw [CQU0.out, CQU1.out] at hc
         refine hc.mono ?_
         clear hc
         rintro e w28 ⟨aH, capH, yH, rfl, hf, hy, bl⟩
         have HYH := Lib.hid hy
         have WFH := Lib.hid hf.2
         have ho := inL_of hf
         have H_28 := Lib.hid (OwnL.base B_27.out.size _ ho)
         have B_28 := Lib.hid (Below.next B_27.out bl)
         clear B_27
         have K0_28 := Lib.hid (K0_27.out.below bl)
         clear K0_27
         have K1_28 := Lib.hid (K1_27.out.below bl)
         clear K1_27
         have S_28 := Lib.hid (OwnL.kept S_27.out bl)
         clear S_27
         have G_28 := Lib.hid (OwnL.kept G_27.out bl)
         clear G_27
         have U0_28 := Lib.hid (OwnL.kept U0_27.out bl)
         clear U0_27
         have U1_28 := Lib.hid (OwnL.kept U1_27.out bl)
         clear U1_27
         clear hf hy ho
         clear bl
         obtain ⟨pK00, pK01, pK02, pK03, pK04, pK0l⟩ := tb5 K0_28.out
         obtain ⟨pK10, pK11, pK12, pK13, pK14, pK1l⟩ := tb5 K1_28.out))
  clear pK00 pK01 pK02 pK03 pK04 pK0l pK10 pK11 pK12 pK13 pK14 pK1l
  clear U0_28
  clear U1_28
  obtain ⟨pK00, pK01, pK02, pK03, pK04, pK0l⟩ := tb5 K0_28.out
  obtain ⟨pK10, pK11, pK12, pK13, pK14, pK1l⟩ := tb5 K1_28.out
  go_wp2_with fail
  clear pK00 pK01 pK02 pK03 pK04 pK0l pK10 pK11 pK12 pK13 pK14 pK1l
  refine (c_eqInts _ _ _ _ yH yS _ (inL_row H_28.out WFH.out) (inL_row S_28.out WFS.out) (HYH.out.trans HYS.out.symm)).mono ?_
  rintro e w29 ⟨rfl, dn⟩
  have bl : Below w28.heap.size w28 w29 := by first | exact dn.below | exact (below_drewN (Below.refl _ _) _).trans dn.below
  clear dn
  have B_29 := Lib.hid (Below.next B_28.out bl)
  clear B_28
  have K0_29 := Lib.hid (K0_28.out.below bl)
  clear K0_28
  have K1_29 := Lib.hid (K1_28.out.below bl)
  clear K1_28
  have S_29 := Lib.hid (OwnL.kept S_28.out bl)
  clear S_28
  have G_29 := Lib.hid (OwnL.kept G_28.out bl)
  clear G_28
  have H_29 := Lib.hid (OwnL.kept H_28.out bl)
  clear H_28
  clear bl
  obtain ⟨pK00, pK01, pK02, pK03, pK04, pK0l⟩ := tb5 K0_29.out
  obtain ⟨pK10, pK11, pK12, pK13, pK14, pK1l⟩ := tb5 K1_29.out
  go_wp2_with fail
  clear pK00 pK01 pK02 pK03 pK04 pK0l pK10 pK11 pK12 pK13 pK14 pK1l
  refine (c_heldInts' _ _ 1 q yG.length _ (held_in G_29.out (by decide) LG.out) HQ.out (by decide) LG.out).mono ?_
  rintro e w' ⟨rfl, rfl⟩
  obtain ⟨pK00, pK01, pK02, pK03, pK04, pK0l⟩ := tb5 K0_29.out
  obtain ⟨pK10, pK11, pK12, pK13, pK14, pK1l⟩ := tb5 K1_29.out
  go_wp2_with fail
  clear pK00 pK01 pK02 pK03 pK04 pK0l pK10 pK11 pK12 pK13 pK14 pK1l
  go_ret
  exact ⟨rfl, B_29.out⟩

theorem walk (v0 : Value) (v1 : Value) (w : World) (w0 : ∃ q : TrsA, v0 = .agg q.cells ∧ TrsAt w q) (w1 : ∃ q : TrsA, v1 = .agg q.cells ∧ TrsAt w q) :
    Calls Try.prog 6 #[v0, v1] w fun e w' => e = .returned (.bool true) ∧ Below w.heap.size w w' := by
  obtain ⟨q0, rfl, w0⟩ := w0
  obtain ⟨q1, rfl, w1⟩ := w1
  by_cases hL0 : (trsSum q0) ≤ 1048576
  case neg =>
    obtain ⟨u0_0, u0_1, u0_2, u0_3, u0_4, u0_5, u0_6, u0_7, u0_8, hc0⟩ := cells5 q0
    obtain ⟨u1_0, u1_1, u1_2, u1_3, u1_4, u1_5, u1_6, u1_7, u1_8, hc1⟩ := cells5 q1
    have bb := (((Below.refl w.heap.size w).alloc (by simp) (.cells #[.slice u0_0 u0_1 u0_2, .slice u0_3 u0_4 u0_5, .int .i64 u0_6, .int .i64 u0_7, .float .f32 u0_8] 28)).alloc (by simp) (.cells #[.slice u1_0 u1_1 u1_2, .slice u1_3 u1_4 u1_5, .int .i64 u1_6, .int .i64 u1_7, .float .f32 u1_8] 28))
    have k0 := (Blk.new w 28 #[.slice u0_0 u0_1 u0_2, .slice u0_3 u0_4 u0_5, .int .i64 u0_6, .int .i64 u0_7, .float .f32 u0_8]).below ((Below.refl _ _).alloc (Nat.le_refl _) (.cells #[.slice u1_0 u1_1 u1_2, .slice u1_3 u1_4 u1_5, .int .i64 u1_6, .int .i64 u1_7, .float .f32 u1_8] 28))
    have k1 := Blk.new (w.alloc (.cells #[.slice u0_0 u0_1 u0_2, .slice u0_3 u0_4 u0_5, .int .i64 u0_6, .int .i64 u0_7, .float .f32 u0_8] 28)) 28 #[.slice u1_0 u1_1 u1_2, .slice u1_3 u1_4 u1_5, .int .i64 u1_6, .int .i64 u1_7, .float .f32 u1_8]
    simp only [World.size_alloc] at k1
    have B := Lib.hid bb
    have K0 := Lib.hid k0
    have K1 := Lib.hid k1
    have HN := Lib.hid (fun W (hb : Below w.heap.size w W) => c_szTrs_no q0 1048576 W (w0.kept hb) (Nat.le_refl _) (by omega))
    simp only [hc0] at HN
    simp only [hc0, hc1]
    clear bb k0 k1 hc0 hc1
    clear hL0
    go_enter Try.func6, Try.ntmps6
    go_wp2_with fail
    generalize (w.alloc (.cells #[.slice u0_0 u0_1 u0_2, .slice u0_3 u0_4 u0_5, .int .i64 u0_6, .int .i64 u0_7, .float .f32 u0_8] 28)).alloc (.cells #[.slice u1_0 u1_1 u1_2, .slice u1_3 u1_4 u1_5, .int .i64 u1_6, .int .i64 u1_7, .float .f32 u1_8] 28) = w1 at B K0 K1 ⊢
    refine (HN.out _ B.out).mono ?_
    rintro e w3 ⟨rfl, hb⟩
    have B3 := Lib.hid (Below.next B.out hb)
    clear hb
    go_wp2_with fail
    go_ret
    exact ⟨rfl, B3.out⟩
  case pos =>
    by_cases hL1 : (trsSum q0) + (trsSum q1) ≤ 1048576
    case neg =>
      obtain ⟨u0_0, u0_1, u0_2, u0_3, u0_4, u0_5, u0_6, u0_7, u0_8, hc0⟩ := cells5 q0
      obtain ⟨u1_0, u1_1, u1_2, u1_3, u1_4, u1_5, u1_6, u1_7, u1_8, hc1⟩ := cells5 q1
      have bb := (((Below.refl w.heap.size w).alloc (by simp) (.cells #[.slice u0_0 u0_1 u0_2, .slice u0_3 u0_4 u0_5, .int .i64 u0_6, .int .i64 u0_7, .float .f32 u0_8] 28)).alloc (by simp) (.cells #[.slice u1_0 u1_1 u1_2, .slice u1_3 u1_4 u1_5, .int .i64 u1_6, .int .i64 u1_7, .float .f32 u1_8] 28))
      have k0 := (Blk.new w 28 #[.slice u0_0 u0_1 u0_2, .slice u0_3 u0_4 u0_5, .int .i64 u0_6, .int .i64 u0_7, .float .f32 u0_8]).below ((Below.refl _ _).alloc (Nat.le_refl _) (.cells #[.slice u1_0 u1_1 u1_2, .slice u1_3 u1_4 u1_5, .int .i64 u1_6, .int .i64 u1_7, .float .f32 u1_8] 28))
      have k1 := Blk.new (w.alloc (.cells #[.slice u0_0 u0_1 u0_2, .slice u0_3 u0_4 u0_5, .int .i64 u0_6, .int .i64 u0_7, .float .f32 u0_8] 28)) 28 #[.slice u1_0 u1_1 u1_2, .slice u1_3 u1_4 u1_5, .int .i64 u1_6, .int .i64 u1_7, .float .f32 u1_8]
      simp only [World.size_alloc] at k1
      have B := Lib.hid bb
      have K0 := Lib.hid k0
      have K1 := Lib.hid k1
      obtain ⟨l, hl⟩ : ∃ l, 1048576 - trsSum q0 = l := ⟨_, rfl⟩
      have hl0 : (0 : Int) ≤ (l : Int) := by omega
      have HX := Lib.hid (fun W (hb : Below w.heap.size w W) => c_szTrs q0 1048576 l W (w0.kept hb) (Nat.le_refl _) hL0 hl)
      have HN := Lib.hid (fun W (hb : Below w.heap.size w W) => c_szTrs_no q1 l W (w1.kept hb) (by omega) (by omega))
      simp only [hc0] at HX
      simp only [hc1] at HN
      simp only [hc0, hc1]
      clear bb k0 k1 hl hc0 hc1
      clear hL1 hL0
      go_enter Try.func6, Try.ntmps6
      go_wp2_with fail
      generalize (w.alloc (.cells #[.slice u0_0 u0_1 u0_2, .slice u0_3 u0_4 u0_5, .int .i64 u0_6, .int .i64 u0_7, .float .f32 u0_8] 28)).alloc (.cells #[.slice u1_0 u1_1 u1_2, .slice u1_3 u1_4 u1_5, .int .i64 u1_6, .int .i64 u1_7, .float .f32 u1_8] 28) = w1 at B K0 K1 ⊢
      refine (HX.out _ B.out).mono ?_
      rintro e w2 ⟨rfl, hb⟩
      have B2 := Lib.hid (Below.next B.out hb)
      have K2 := Lib.hid (K1.out.below hb)
      clear hb
      obtain ⟨p0, p1, p2, p3, p4, p5⟩ := tbt5 K2.out
      go_wp2_with fail
      clear p0 p1 p2 p3 p4 p5
      refine (HN.out _ B2.out).mono ?_
      rintro e w3 ⟨rfl, hb⟩
      have B3 := Lib.hid (Below.next B2.out hb)
      clear hb
      go_wp2_with fail
      go_ret
      exact ⟨rfl, B3.out⟩
    case pos =>
      have Hs := fun (p0 : TrsA) (p1 : TrsA) (w : World) (hp0 : TrsEq p0 q0) (h0 : TrsAt w p0) (hp1 : TrsEq p1 q1) (h1 : TrsAt w p1) => t_sChangedNumbers p0 p1 w h0 h1
      have Hi := fun (p0 : TrsA) (p1 : TrsA) (w : World) (hp0 : TrsEq p0 q0) (h0 : TrsAt w p0) (hp1 : TrsEq p1 q1) (h1 : TrsAt w p1) => t_iChangedNumbers p0 p1 w h0 h1
      have Hs' := fun (p0 : TrsA) (p1 : TrsA) (w : World) (hp0 : TrsEq p0 q0) (h0 : TrsAt w p0) (hp1 : TrsEq p1 q1) (h1 : TrsAt w p1) => by have h := Hs p0 p1 w hp0 h0 hp1 h1; rw [vChangedNumbers_of hp0 hp1] at h; exact h
      have Hi' := fun (p0 : TrsA) (p1 : TrsA) (w : World) (hp0 : TrsEq p0 q0) (h0 : TrsAt w p0) (hp1 : TrsEq p1 q1) (h1 : TrsAt w p1) => by have h := Hi p0 p1 w hp0 h0 hp1 h1; rw [vChangedNumbers_of hp0 hp1] at h; exact h
      exact core q0 q1   w w0 w1 (vChangedNumbers q0 q1).1 (vChangedNumbers q0 q1).2 hL0 hL1 (vChangedNumbers_len q0 q1) Hs' Hi'

/-! the row's step -/
set_option maxRecDepth 100000 in
theorem lifted (os : Os) (started : os.Started) (H : Type) (enc : TypeId × Value → H) :
    ReturnsInHanded {} Try.checked os 6 .any (Rows.fnExactChangedNumbersSpec.pre6 enc Try.prog Try.f6 Rows.fnExactChangedNumbersRow.domain false) (Rows.fnExactChangedNumbersSpec.post enc Try.prog Try.f6 false true false false) := by
  refine returnsInHanded_of_change (C := Try.checked) own started (by kernel_rfl) Try.func6
    (ChangeSpec.witness6 (enc := enc) (C := Try.checked) false ⟨#[], #[.agg #[.slice none 0 0, .slice none 0 0, .int .i64 0, .int .i64 0, .float .f32 0], .agg #[.slice none 0 0, .slice none 0 0, .int .i64 0, .int .i64 0, .float .f32 0]], []⟩ 8 (by kernel_rfl) (by kernel_rfl) (by kernel_rfl) (by kernel_rfl)) ?_
  intro W base args ds gs before hval0 hW hcnd _
  have hval : ∀ (j : Nat) t v, Try.f6.params[j]? = some t → args[j]? = some v → Value.okWide Try.prog W .any base t v := hval0
  have hW' := hW
  obtain ⟨p, q, hA0, hV, rfl, hfz, hnd⟩ := hW
  have hA : DataW.TrodAll enc Try.prog W 0 (fun _ => true) true Try.f6.params.toList args.toList ds p := hA0
  rw [Try.params6] at hA hval
  obtain ⟨v0, vs0, d0, ds0, p0, q0, hargs, rfl, rfl, h0, rest0⟩ := trodAll_cons hA
  obtain ⟨v1, vs1, d1, ds1, p1, q1, rfl, rfl, rfl, h1, rest1⟩ := trodAll_cons rest0
  obtain ⟨rfl, rfl, rfl⟩ := trodAll_nil rest1
  obtain rfl : args = #[v0, v1] := by cases args; simp_all
  obtain ⟨rfl, rfl⟩ := trodVars_none hV
  have k0 := h0
  have lt0 : ∀ x ∈ p0, x.block < W.heap.size := by obtain ⟨m, hm⟩ := k0; exact DataW.trod_lt m _ _ _ hm
  have w0 := open_Trs (hval 0 28 v0 rfl rfl) h0
  have k1 := h1
  have lt1 : ∀ x ∈ p1, x.block < W.heap.size := by obtain ⟨m, hm⟩ := k1; exact DataW.trod_lt m _ _ _ hm
  have w1 := open_Trs (hval 1 28 v1 rfl rfl) h1
  clear hA0 hval0
  refine (walk _ _ W w0 w1).mono fun e W' ⟨he, bel⟩ => ?_
  subst he
  exact ⟨_, rfl, _, _, _, [], _, [], hW', trodAll_mk1 (shut_bool Try.underlying4 _), (trodAll_cons_mk (Below.trod laidOut (by kernel_rfl) (of_decide_eq_true (by kernel_rfl)) k0 bel lt0) (trodAll_cons_mk (Below.trod laidOut (by kernel_rfl) (of_decide_eq_true (by kernel_rfl)) k1 bel lt1) trodAll_mk0)), rfl, bel.frame _, fun h => by cases h⟩

theorem over : Rows.fnExactChangedNumbersRow.holds Try.pinned (OpenSpec.ofChange Rows.fnExactChangedNumbersSpec) :=
  OpenClaim.holds_of_wide 6 Try.f6 rfl rfl rfl rfl rfl rfl rfl ⟨rfl, rfl, rfl, rfl, rfl⟩ rfl rfl rfl rfl rfl (by kernel_rfl) Try.func6 (by kernel_rfl)
    (of_decide_eq_true (by kernel_rfl)) (by unfold Func.isWrapper; first | (rw [if_pos (by decide +kernel)]; kernel_rfl) | (rw [if_neg (by decide +kernel)]; exact ⟨rfl, rfl⟩))
    (fun os started H enc _ => lifted os started H enc)

/-- the statement -/
theorem proved : Rows.FnExactChangedNumbersSaid := over
end Go.Proofs.Ytpobdigmjfapbaa.fnExactChangedNumbers
