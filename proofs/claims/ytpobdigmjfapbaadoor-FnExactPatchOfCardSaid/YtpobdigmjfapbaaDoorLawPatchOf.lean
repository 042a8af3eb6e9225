/-
  PatchOf: what the program answers is what the document asks.
-/
import Derived.Test.YtpobdigmjfapbaaDoorPtu
import Derived.Test.YtpobdigmjfapbaaDoorTie
import Derived.Test.YtpobdigmjfapbaaDoorCards
import Derived.ChangeOld
import Derived.Below
import Derived.LaidMore
import Derived.LaidLaws
import Derived.SevenTiedAt
namespace Go.Proofs.YtpobdigmjfapbaaDoor.fnExactPatchOf
open Go.ChangeShapes Go.WideShapes Go.ChangeAt Go.RowKit
open Go.ChangeMaps (open_string shut_string)
set_option linter.unusedVariables false

set_option maxHeartbeats 4000000 in
set_option maxRecDepth 100000 in
/-- for any contracts of the model and of the program that say the same -/
theorem core (q0 : TrsA) (q1 : TrsA)   (w : World) (w0' : TrsAt w q0) (w1' : TrsAt w q1) (x : ByteArray) (b : Bool) (hL0 : (trsSum q0) ≤ 1048576) (hL1 : (trsSum q0) + (trsSum q1) ≤ 1048576) 
    (CS' : ∀ (p0 : TrsA) (p1 : TrsA) (w : World), (TrsEq p0 q0) → (TrsAt w p0) → (TrsEq p1 q1) → (TrsAt w p1) → Calls Tryd.prog 30 #[.agg p0.cells, .agg p1.cells] w (RetY x b w))
    (CI' : ∀ (p0 : TrsA) (p1 : TrsA) (w : World), (TrsEq p0 q0) → (TrsAt w p0) → (TrsEq p1 q1) → (TrsAt w p1) → Calls Tryd.prog 31 #[.agg p0.cells, .agg p1.cells] w (RetY x b w)) :
    Calls Tryd.prog 8 #[.agg q0.cells, .agg q1.cells] w fun e w' => e = .returned (.bool true) ∧ Below w.heap.size w w' := by
  have HS0 := Lib.hid w0'
  have HZ0 := Lib.hid (show trsSum q0 ≤ 1048576 by omega)
  have HS1 := Lib.hid w1'
  have HZ1 := Lib.hid (show trsSum q1 ≤ 1048576 by omega)
  have CS := Lib.hid CS'
  have CI := Lib.hid CI'
  obtain ⟨l0, hl0⟩ : ∃ l, 1048576 - (trsSum q0) = l := ⟨_, rfl⟩
  have hl0' : l0 ≤ 1048576 := by omega
  have HQ0 := Lib.hid (show trsSum q0 ≤ 1048576 by omega)
  obtain ⟨l1, hl1⟩ : ∃ l, l0 - (trsSum q1) = l := ⟨_, rfl⟩
  have hl1' : l1 ≤ 1048576 := by omega
  have HQ1 := Lib.hid (show trsSum q1 ≤ l0 by omega)
  have HE0 := Lib.hid hl0
  have hp0 : (0 : Int) ≤ (l0 : Int) := by omega
  have HE1 := Lib.hid hl1
  have hp1 : (0 : Int) ≤ (l1 : Int) := by omega
  clear w0' w1' CS' CI' hl1 hl0 hL0 hL1
  obtain ⟨u0_0, u0_1, u0_2, u0_3, u0_4, u0_5, u0_6, u0_7, u0_8, hc0⟩ := cells5 q0
  rw [hc0]
  have CQ0 := Lib.hid hc0
  have HA0 := Lib.hid (fun W (h : TrsAt W q0) => c_toTrsN q0 W h HZ0.out)
  have HX0 := Lib.hid (fun W (l r : Nat) (h : TrsAt W q0) hl hs hr => c_szTrs q0 l r W h hl hs hr)
  simp only [hc0] at HA0 HX0
  clear hc0
  obtain ⟨u1_0, u1_1, u1_2, u1_3, u1_4, u1_5, u1_6, u1_7, u1_8, hc1⟩ := cells5 q1
  rw [hc1]
  have CQ1 := Lib.hid hc1
  have HA1 := Lib.hid (fun W (h : TrsAt W q1) => c_toTrsN q1 W h HZ1.out)
  have HX1 := Lib.hid (fun W (l r : Nat) (h : TrsAt W q1) hl hs hr => c_szTrs q1 l r W h hl hs hr)
  simp only [hc1] at HA1 HX1
  clear hc1
  go_enter Tryd.func8, Tryd.ntmps8
  go_wp2_with fail
  have B_0 := Lib.hid (Below.refl w.heap.size w)
  have bl := (Below.refl (w).heap.size (w)).alloc (Nat.le_refl _) (.cells #[.slice u0_0 u0_1 u0_2, .slice u0_3 u0_4 u0_5, .int .i64 u0_6, .int .i64 u0_7, .float .f32 u0_8] 43)
  have K0_1 := Lib.hid (Blk.new (w) 43 #[.slice u0_0 u0_1 u0_2, .slice u0_3 u0_4 u0_5, .int .i64 u0_6, .int .i64 u0_7, .float .f32 u0_8])
  have B_1 := Lib.hid (Below.next B_0.out bl)
  clear B_0
  clear bl
  have bl := (Below.refl ((w).alloc (.cells #[.slice u0_0 u0_1 u0_2, .slice u0_3 u0_4 u0_5, .int .i64 u0_6, .int .i64 u0_7, .float .f32 u0_8] 43)).heap.size ((w).alloc (.cells #[.slice u0_0 u0_1 u0_2, .slice u0_3 u0_4 u0_5, .int .i64 u0_6, .int .i64 u0_7, .float .f32 u0_8] 43))).alloc (Nat.le_refl _) (.cells #[.slice u1_0 u1_1 u1_2, .slice u1_3 u1_4 u1_5, .int .i64 u1_6, .int .i64 u1_7, .float .f32 u1_8] 43)
  have K1_2 := Lib.hid (Blk.new ((w).alloc (.cells #[.slice u0_0 u0_1 u0_2, .slice u0_3 u0_4 u0_5, .int .i64 u0_6, .int .i64 u0_7, .float .f32 u0_8] 43)) 43 #[.slice u1_0 u1_1 u1_2, .slice u1_3 u1_4 u1_5, .int .i64 u1_6, .int .i64 u1_7, .float .f32 u1_8])
  have B_2 := Lib.hid (Below.next B_1.out bl)
  clear B_1
  have K0_2 := Lib.hid (K0_1.out.below bl)
  clear K0_1
  clear bl
  generalize ((w).alloc (.cells #[.slice u0_0 u0_1 u0_2, .slice u0_3 u0_4 u0_5, .int .i64 u0_6, .int .i64 u0_7, .float .f32 u0_8] 43)).alloc (.cells #[.slice u1_0 u1_1 u1_2, .slice u1_3 u1_4 u1_5, .int .i64 u1_6, .int .i64 u1_7, .float .f32 u1_8] 43) = w2 at B_2 K0_2 K1_2 ⊢
  simp only [World.size_alloc] at K1_2
  refine (HX0.out _ _ _ (HS0.out.kept B_2.out) (Nat.le_refl _) HQ0.out HE0.out).mono ?_
  rintro e w3 ⟨rfl, bl⟩
  have B_3 := Lib.hid (Below.next B_2.out bl)
  clear B_2
  have K0_3 := Lib.hid (K0_2.out.below bl)
  clear K0_2
  have K1_3 := Lib.hid (K1_2.out.below bl)
  clear K1_2
  clear bl
  obtain ⟨pK00, pK01, pK02, pK03, pK04, pK0l⟩ := tb5 K0_3.out
  obtain ⟨pK10, pK11, pK12, pK13, pK14, pK1l⟩ := tb5 K1_3.out
  go_wp2_with fail
  clear pK00 pK01 pK02 pK03 pK04 pK0l pK10 pK11 pK12 pK13 pK14 pK1l
  refine (HX1.out _ _ _ (HS1.out.kept B_3.out) hl0' HQ1.out HE1.out).mono ?_
  rintro e w4 ⟨rfl, bl⟩
  have B_4 := Lib.hid (Below.next B_3.out bl)
  clear B_3
  have K0_4 := Lib.hid (K0_3.out.below bl)
  clear K0_3
  have K1_4 := Lib.hid (K1_3.out.below bl)
  clear K1_3
  clear bl
  obtain ⟨pK00, pK01, pK02, pK03, pK04, pK0l⟩ := tb5 K0_4.out
  obtain ⟨pK10, pK11, pK12, pK13, pK14, pK1l⟩ := tb5 K1_4.out
  go_wp2_with fail
  clear pK00 pK01 pK02 pK03 pK04 pK0l pK10 pK11 pK12 pK13 pK14 pK1l
  have bl : Below w4.heap.size w4 w4.drew := (Below.refl _ _).drew
  have B_5 := Lib.hid (Below.next B_4.out bl)
  clear B_4
  have K0_5 := Lib.hid (K0_4.out.below bl)
  clear K0_4
  have K1_5 := Lib.hid (K1_4.out.below bl)
  clear K1_4
  clear bl
  obtain ⟨pK00, pK01, pK02, pK03, pK04, pK0l⟩ := tb5 K0_5.out
  obtain ⟨pK10, pK11, pK12, pK13, pK14, pK1l⟩ := tb5 K1_5.out
  go_region_held3 (fun w' => w'.cell? ⟨w.heap.size, 0, none⟩ = some (.slice u0_0 u0_1 u0_2) ∧ w'.cell? ⟨w.heap.size, 1, none⟩ = some (.slice u0_3 u0_4 u0_5) ∧ w'.cell? ⟨w.heap.size, 2, none⟩ = some (.int .i64 u0_6) ∧ w'.cell? ⟨w.heap.size, 3, none⟩ = some (.int .i64 u0_7) ∧ w'.cell? ⟨w.heap.size, 4, none⟩ = some (.float .f32 u0_8) ∧ w'.cell? ⟨w.heap.size + 1, 0, none⟩ = some (.slice u1_0 u1_1 u1_2) ∧ w'.cell? ⟨w.heap.size + 1, 1, none⟩ = some (.slice u1_3 u1_4 u1_5) ∧ w'.cell? ⟨w.heap.size + 1, 2, none⟩ = some (.int .i64 u1_6) ∧ w'.cell? ⟨w.heap.size + 1, 3, none⟩ = some (.int .i64 u1_7) ∧ w'.cell? ⟨w.heap.size + 1, 4, none⟩ = some (.float .f32 u1_8)) (go_keep)
    (first
      | (go_at_call 25
         clear pK00 pK01 pK02 pK03 pK04 pK0l pK10 pK11 pK12 pK13 pK14 pK1l
         refine (HA0.out _ (HS0.out.kept B_5.out)).mono ?_
         rintro e w6 ⟨qT0, rfl, ht, ho, hsc, hnd, bl⟩
         obtain ⟨uT0_0, uT0_1, uT0_2, uT0_3, uT0_4, uT0_5, uT0_6, uT0_7, uT0_8, hcc⟩ := cells5 qT0
         have CQT0 := Lib.hid hcc
         have HPT0 := Lib.hid ht
         have SCT0 := Lib.hid hsc
         rw [hcc]
         clear hcc
         have T0_6 := Lib.hid (OwnL.base B_5.out.size _ ho)
         have B_6 := Lib.hid (Below.next B_5.out bl)
         clear B_5
         have K0_6 := Lib.hid (K0_5.out.below bl)
         clear K0_5
         have K1_6 := Lib.hid (K1_5.out.below bl)
         clear K1_5
         clear ht hsc ho hnd
         clear bl
         obtain ⟨pK00, pK01, pK02, pK03, pK04, pK0l⟩ := tb5 K0_6.out
         obtain ⟨pK10, pK11, pK12, pK13, pK14, pK1l⟩ := tb5 K1_6.out)
      | (go_at_call 25
         clear pK00 pK01 pK02 pK03 pK04 pK0l pK10 pK11 pK12 pK13 pK14 pK1l
         refine (HA1.out _ (HS1.out.kept B_6.out)).mono ?_
         rintro e w7 ⟨qT1, rfl, ht, ho, hsc, hnd, bl⟩
         obtain ⟨uT1_0, uT1_1, uT1_2, uT1_3, uT1_4, uT1_5, uT1_6, uT1_7, uT1_8, hcc⟩ := cells5 qT1
         have CQT1 := Lib.hid hcc
         have HPT1 := Lib.hid ht
         have SCT1 := Lib.hid hsc
         rw [hcc]
         clear hcc
         have T1_7 := Lib.hid (OwnL.base B_6.out.size _ ho)
         have B_7 := Lib.hid (Below.next B_6.out bl)
         clear B_6
         have K0_7 := Lib.hid (K0_6.out.below bl)
         clear K0_6
         have K1_7 := Lib.hid (K1_6.out.below bl)
         clear K1_6
         have T0_7 := Lib.hid (OwnL.kept T0_6.out bl)
         clear T0_6
         clear ht hsc ho hnd
         clear bl
         obtain ⟨pK00, pK01, pK02, pK03, pK04, pK0l⟩ := tb5 K0_7.out
         obtain ⟨pK10, pK11, pK12, pK13, pK14, pK1l⟩ := tb5 K1_7.out)
      | (go_at_call 30
         clear pK00 pK01 pK02 pK03 pK04 pK0l pK10 pK11 pK12 pK13 pK14 pK1l
         have hc := CS.out qT0 qT1 _ HPT0.out (TrsOwn.at ⟨T0_7.out, SCT0.out⟩) HPT1.out (TrsOwn.at ⟨T1_7.out, SCT1.out⟩)
         rw [CQT0.out, CQT1.out] at hc
         refine hc.mono ?_
         clear hc
         rintro e w8 ⟨rfl, bl⟩
         have B_8 := Lib.hid (Below.next B_7.out bl)
         clear B_7
         have K0_8 := Lib.hid (K0_7.out.below bl)
         clear K0_7
         have K1_8 := Lib.hid (K1_7.out.below bl)
         clear K1_7
         have T0_8 := Lib.hid (OwnL.kept T0_7.out bl)
         clear T0_7
         have T1_8 := Lib.hid (OwnL.kept T1_7.out bl)
         clear T1_7
         clear bl
         obtain ⟨pK00, pK01, pK02, pK03, pK04, pK0l⟩ := tb5 K0_8.out
         obtain ⟨pK10, pK11, pK12, pK13, pK14, pK1l⟩ := tb5 K1_8.out))
  clear pK00 pK01 pK02 pK03 pK04 pK0l pK10 pK11 pK12 pK13 pK14 pK1l
  clear T0_8
  clear T1_8
  obtain ⟨pK00, pK01, pK02, pK03, pK04, pK0l⟩ := tb5 K0_8.out
  obtain ⟨pK10, pK11, pK12, pK13, pK14, pK1l⟩ := tb5 K1_8.out
  go_wp2_with fail
  clear pK00 pK01 pK02 pK03 pK04 pK0l pK10 pK11 pK12 pK13 pK14 pK1l
  refine (HA0.out _ (HS0.out.kept B_8.out)).mono ?_
  rintro e w9 ⟨qX0, rfl, ht, ho, hsc, hnd, bl⟩
  obtain ⟨uX0_0, uX0_1, uX0_2, uX0_3, uX0_4, uX0_5, uX0_6, uX0_7, uX0_8, hcc⟩ := cells5 qX0
  have CQX0 := Lib.hid hcc
  have HPX0 := Lib.hid ht
  have SCX0 := Lib.hid hsc
  rw [hcc]
  clear hcc
  have X0_9 := Lib.hid (OwnL.base B_8.out.size _ ho)
  have B_9 := Lib.hid (Below.next B_8.out bl)
  clear B_8
  have K0_9 := Lib.hid (K0_8.out.below bl)
  clear K0_8
  have K1_9 := Lib.hid (K1_8.out.below bl)
  clear K1_8
  clear ht hsc ho hnd
  clear bl
  obtain ⟨pK00, pK01, pK02, pK03, pK04, pK0l⟩ := tb5 K0_9.out
  obtain ⟨pK10, pK11, pK12, pK13, pK14, pK1l⟩ := tb5 K1_9.out
  go_wp2_with fail
  clear pK00 pK01 pK02 pK03 pK04 pK0l pK10 pK11 pK12 pK13 pK14 pK1l
  have bl := (Below.refl w9.heap.size w9).alloc (Nat.le_refl _) (.cells #[.slice uX0_0 uX0_1 uX0_2, .slice uX0_3 uX0_4 uX0_5, .int .i64 uX0_6, .int .i64 uX0_7, .float .f32 uX0_8] 51)
  have XB0_10 := Lib.hid (Blk.new w9 51 #[.slice uX0_0 uX0_1 uX0_2, .slice uX0_3 uX0_4 uX0_5, .int .i64 uX0_6, .int .i64 uX0_7, .float .f32 uX0_8])
  have B_10 := Lib.hid (Below.next B_9.out bl)
  clear B_9
  have K0_10 := Lib.hid (K0_9.out.below bl)
  clear K0_9
  have K1_10 := Lib.hid (K1_9.out.below bl)
  clear K1_9
  have X0_10 := Lib.hid (OwnL.kept X0_9.out bl)
  clear X0_9
  clear bl
  generalize w9.alloc (.cells #[.slice uX0_0 uX0_1 uX0_2, .slice uX0_3 uX0_4 uX0_5, .int .i64 uX0_6, .int .i64 uX0_7, .float .f32 uX0_8] 51) = w10 at B_10 K0_10 K1_10 X0_10 XB0_10 ⊢
  obtain ⟨pK00, pK01, pK02, pK03, pK04, pK0l⟩ := tb5 K0_10.out
  obtain ⟨pK10, pK11, pK12, pK13, pK14, pK1l⟩ := tb5 K1_10.out
  obtain ⟨pXB00, pXB01, pXB02, pXB03, pXB04, pXB0l⟩ := tb5 XB0_10.out
  try go_wp2_with fail
  clear pK00 pK01 pK02 pK03 pK04 pK0l pK10 pK11 pK12 pK13 pK14 pK1l pXB00 pXB01 pXB02 pXB03 pXB04 pXB0l
  obtain ⟨pK00, pK01, pK02, pK03, pK04, pK0l⟩ := tb5 K0_10.out
  obtain ⟨pK10, pK11, pK12, pK13, pK14, pK1l⟩ := tb5 K1_10.out
  obtain ⟨pXB00, pXB01, pXB02, pXB03, pXB04, pXB0l⟩ := tb5 XB0_10.out
  go_wp2_with fail
  clear pK00 pK01 pK02 pK03 pK04 pK0l pK10 pK11 pK12 pK13 pK14 pK1l pXB00 pXB01 pXB02 pXB03 pXB04 pXB0l
  refine (HA1.out _ (HS1.out.kept B_10.out)).mono ?_
  rintro e w11 ⟨qX1, rfl, ht, ho, hsc, hnd, bl⟩
  obtain ⟨uX1_0, uX1_1, uX1_2, uX1_3, uX1_4, uX1_5, uX1_6, uX1_7, uX1_8, hcc⟩ := cells5 qX1
  have CQX1 := Lib.hid hcc
  have HPX1 := Lib.hid ht
  have SCX1 := Lib.hid hsc
  rw [hcc]
  clear hcc
  have X1_11 := Lib.hid (OwnL.base B_10.out.size _ ho)
  have B_11 := Lib.hid (Below.next B_10.out bl)
  clear B_10
  have K0_11 := Lib.hid (K0_10.out.below bl)
  clear K0_10
  have K1_11 := Lib.hid (K1_10.out.below bl)
  clear K1_10
  have X0_11 := Lib.hid (OwnL.kept X0_10.out bl)
  clear X0_10
  have XB0_11 := Lib.hid (XB0_10.out.below bl)
  clear XB0_10
  clear ht hsc ho hnd
  clear bl
  obtain ⟨pK00, pK01, pK02, pK03, pK04, pK0l⟩ := tb5 K0_11.out
  obtain ⟨pK10, pK11, pK12, pK13, pK14, pK1l⟩ := tb5 K1_11.out
  obtain ⟨pXB00, pXB01, pXB02, pXB03, pXB04, pXB0l⟩ := tb5 XB0_11.out
  go_wp2_with fail
  clear pK00 pK01 pK02 pK03 pK04 pK0l pK10 pK11 pK12 pK13 pK14 pK1l pXB00 pXB01 pXB02 pXB03 pXB04 pXB0l
  have bl := (Below.refl w11.heap.size w11).alloc (Nat.le_refl _) (.cells #[.slice uX1_0 uX1_1 uX1_2, .slice uX1_3 uX1_4 uX1_5, .int .i64 uX1_6, .int .i64 uX1_7, .float .f32 uX1_8] 51)
  have XB1_12 := Lib.hid (Blk.new w11 51 #[.slice uX1_0 uX1_1 uX1_2, .slice uX1_3 uX1_4 uX1_5, .int .i64 uX1_6, .int .i64 uX1_7, .float .f32 uX1_8])
  have B_12 := Lib.hid (Below.next B_11.out bl)
  clear B_11
  have K0_12 := Lib.hid (K0_11.out.below bl)
  clear K0_11
  have K1_12 := Lib.hid (K1_11.out.below bl)
  clear K1_11
  have X0_12 := Lib.hid (OwnL.kept X0_11.out bl)
  clear X0_11
  have XB0_12 := Lib.hid (XB0_11.out.below bl)
  clear XB0_11
  have X1_12 := Lib.hid (OwnL.kept X1_11.out bl)
  clear X1_11
  clear bl
  generalize w11.alloc (.cells #[.slice uX1_0 uX1_1 uX1_2, .slice uX1_3 uX1_4 uX1_5, .int .i64 uX1_6, .int .i64 uX1_7, .float .f32 uX1_8] 51) = w12 at B_12 K0_12 K1_12 X0_12 XB0_12 X1_12 XB1_12 ⊢
  obtain ⟨pK00, pK01, pK02, pK03, pK04, pK0l⟩ := tb5 K0_12.out
  obtain ⟨pK10, pK11, pK12, pK13, pK14, pK1l⟩ := tb5 K1_12.out
  obtain ⟨pXB00, pXB01, pXB02, pXB03, pXB04, pXB0l⟩ := tb5 XB0_12.out
  obtain ⟨pXB10, pXB11, pXB12, pXB13, pXB14, pXB1l⟩ := tb5 XB1_12.out
  try go_wp2_with fail
  clear pK00 pK01 pK02 pK03 pK04 pK0l pK10 pK11 pK12 pK13 pK14 pK1l pXB00 pXB01 pXB02 pXB03 pXB04 pXB0l pXB10 pXB11 pXB12 pXB13 pXB14 pXB1l
  have hc := CI.out qX0 qX1 _ HPX0.out (TrsOwn.at ⟨X0_12.out, SCX0.out⟩) HPX1.out (TrsOwn.at ⟨X1_12.out, SCX1.out⟩)
  rw [CQX0.out, CQX1.out] at hc
  refine hc.mono ?_
  clear hc
  rintro e w13 ⟨rfl, bl⟩
  have B_13 := Lib.hid (Below.next B_12.out bl)
  clear B_12
  have K0_13 := Lib.hid (K0_12.out.below bl)
  clear K0_12
  have K1_13 := Lib.hid (K1_12.out.below bl)
  clear K1_12
  have X0_13 := Lib.hid (OwnL.kept X0_12.out bl)
  clear X0_12
  have XB0_13 := Lib.hid (XB0_12.out.below bl)
  clear XB0_12
  have X1_13 := Lib.hid (OwnL.kept X1_12.out bl)
  clear X1_12
  have XB1_13 := Lib.hid (XB1_12.out.below bl)
  clear XB1_12
  clear bl
  obtain ⟨pK00, pK01, pK02, pK03, pK04, pK0l⟩ := tb5 K0_13.out
  obtain ⟨pK10, pK11, pK12, pK13, pK14, pK1l⟩ := tb5 K1_13.out
  obtain ⟨pXB00, pXB01, pXB02, pXB03, pXB04, pXB0l⟩ := tb5 XB0_13.out
  obtain ⟨pXB10, pXB11, pXB12, pXB13, pXB14, pXB1l⟩ := tb5 XB1_13.out
  go_wp2_with fail
  clear pK00 pK01 pK02 pK03 pK04 pK0l pK10 pK11 pK12 pK13 pK14 pK1l pXB00 pXB01 pXB02 pXB03 pXB04 pXB0l pXB10 pXB11 pXB12 pXB13 pXB14 pXB1l
  have bl : Below w13.heap.size w13 w13.drew := (Below.refl _ _).drew
  have B_14 := Lib.hid (Below.next B_13.out bl)
  clear B_13
  have K0_14 := Lib.hid (K0_13.out.below bl)
  clear K0_13
  have K1_14 := Lib.hid (K1_13.out.below bl)
  clear K1_13
  have X0_14 := Lib.hid (OwnL.kept X0_13.out bl)
  clear X0_13
  have XB0_14 := Lib.hid (XB0_13.out.below bl)
  clear XB0_13
  have X1_14 := Lib.hid (OwnL.kept X1_13.out bl)
  clear X1_13
  have XB1_14 := Lib.hid (XB1_13.out.below bl)
  clear XB1_13
  clear bl
  obtain ⟨pK00, pK01, pK02, pK03, pK04, pK0l⟩ := tb5 K0_14.out
  obtain ⟨pK10, pK11, pK12, pK13, pK14, pK1l⟩ := tb5 K1_14.out
  obtain ⟨pXB00, pXB01, pXB02, pXB03, pXB04, pXB0l⟩ := tb5 XB0_14.out
  obtain ⟨pXB10, pXB11, pXB12, pXB13, pXB14, pXB1l⟩ := tb5 XB1_14.out
  go_region_held3 (fun w' => w'.cell? ⟨w.heap.size, 0, none⟩ = some (.slice u0_0 u0_1 u0_2) ∧ w'.cell? ⟨w.heap.size, 1, none⟩ = some (.slice u0_3 u0_4 u0_5) ∧ w'.cell? ⟨w.heap.size, 2, none⟩ = some (.int .i64 u0_6) ∧ w'.cell? ⟨w.heap.size, 3, none⟩ = some (.int .i64 u0_7) ∧ w'.cell? ⟨w.heap.size, 4, none⟩ = some (.float .f32 u0_8) ∧ w'.cell? ⟨w.heap.size + 1, 0, none⟩ = some (.slice u1_0 u1_1 u1_2) ∧ w'.cell? ⟨w.heap.size + 1, 1, none⟩ = some (.slice u1_3 u1_4 u1_5) ∧ w'.cell? ⟨w.heap.size + 1, 2, none⟩ = some (.int .i64 u1_6) ∧ w'.cell? ⟨w.heap.size + 1, 3, none⟩ = some (.int .i64 u1_7) ∧ w'.cell? ⟨w.heap.size + 1, 4, none⟩ = some (.float .f32 u1_8) ∧ w'.cell? ⟨w9.heap.size, 0, none⟩ = some (.slice uX0_0 uX0_1 uX0_2) ∧ w'.cell? ⟨w9.heap.size, 1, none⟩ = some (.slice uX0_3 uX0_4 uX0_5) ∧ w'.cell? ⟨w9.heap.size, 2, none⟩ = some (.int .i64 uX0_6) ∧ w'.cell? ⟨w9.heap.size, 3, none⟩ = some (.int .i64 uX0_7) ∧ w'.cell? ⟨w9.heap.size, 4, none⟩ = some (.float .f32 uX0_8) ∧ w'.cell? ⟨w11.heap.size, 0, none⟩ = some (.slice uX1_0 uX1_1 uX1_2) ∧ w'.cell? ⟨w11.heap.size, 1, none⟩ = some (.slice uX1_3 uX1_4 uX1_5) ∧ w'.cell? ⟨w11.heap.size, 2, none⟩ = some (.int .i64 uX1_6) ∧ w'.cell? ⟨w11.heap.size, 3, none⟩ = some (.int .i64 uX1_7) ∧ w'.cell? ⟨w11.heap.size, 4, none⟩ = some (.float .f32 uX1_8)) (go_keep)
    (first
      | (go_at_call 25
         clear pK00 pK01 pK02 pK03 pK04 pK0l pK10 pK11 pK12 pK13 pK14 pK1l pXB00 pXB01 pXB02 pXB03 pXB04 pXB0l pXB10 pXB11 pXB12 pXB13 pXB14 pXB1l
         refine (HA0.out _ (HS0.out.kept B_14.out)).mono ?_
         rintro e w15 ⟨qY0, rfl, ht, ho, hsc, hnd, bl⟩
         obtain ⟨uY0_0, uY0_1, uY0_2, uY0_3, uY0_4, uY0_5, uY0_6, uY0_7, uY0_8, hcc⟩ := cells5 qY0
         have CQY0 := Lib.hid hcc
         have HPY0 := Lib.hid ht
         have SCY0 := Lib.hid hsc
         rw [hcc]
         clear hcc
         have Y0_15 := Lib.hid (OwnL.base B_14.out.size _ ho)
         have B_15 := Lib.hid (Below.next B_14.out bl)
         clear B_14
         have K0_15 := Lib.hid (K0_14.out.below bl)
         clear K0_14
         have K1_15 := Lib.hid (K1_14.out.below bl)
         clear K1_14
         have X0_15 := Lib.hid (OwnL.kept X0_14.out bl)
         clear X0_14
         have XB0_15 := Lib.hid (XB0_14.out.below bl)
         clear XB0_14
         have X1_15 := Lib.hid (OwnL.kept X1_14.out bl)
         clear X1_14
         have XB1_15 := Lib.hid (XB1_14.out.below bl)
         clear XB1_14
         clear ht hsc ho hnd
         clear bl
         obtain ⟨pK00, pK01, pK02, pK03, pK04, pK0l⟩ := tb5 K0_15.out
         obtain ⟨pK10, pK11, pK12, pK13, pK14, pK1l⟩ := tb5 K1_15.out
         obtain ⟨pXB00, pXB01, pXB02, pXB03, pXB04, pXB0l⟩ := tb5 XB0_15.out
         obtain ⟨pXB10, pXB11, pXB12, pXB13, pXB14, pXB1l⟩ := tb5 XB1_15.out)
      | (go_at_call 27
         clear pK00 pK01 pK02 pK03 pK04 pK0l pK10 pK11 pK12 pK13 pK14 pK1l pXB00 pXB01 pXB02 pXB03 pXB04 pXB0l pXB10 pXB11 pXB12 pXB13 pXB14 pXB1l
         have hc := c_eqTrs' qX0 qY0 _ (TrsOwn.at ⟨X0_15.out, SCX0.out⟩) (TrsOwn.at ⟨Y0_15.out, SCY0.out⟩) (HPX0.out.trans HPY0.out.symm)
         rw [CQX0.out, CQY0.out] at hc
         refine hc.mono ?_
         clear hc
         rintro e w16 ⟨rfl, bl⟩
         have B_16 := Lib.hid (Below.next B_15.out bl)
         clear B_15
         have K0_16 := Lib.hid (K0_15.out.below bl)
         clear K0_15
         have K1_16 := Lib.hid (K1_15.out.below bl)
         clear K1_15
         have X0_16 := Lib.hid (OwnL.kept X0_15.out bl)
         clear X0_15
         have XB0_16 := Lib.hid (XB0_15.out.below bl)
         clear XB0_15
         have X1_16 := Lib.hid (OwnL.kept X1_15.out bl)
         clear X1_15
         have XB1_16 := Lib.hid (XB1_15.out.below bl)
         clear XB1_15
         have Y0_16 := Lib.hid (OwnL.kept Y0_15.out bl)
         clear Y0_15
         clear bl
         obtain ⟨pK00, pK01, pK02, pK03, pK04, pK0l⟩ := tb5 K0_16.out
         obtain ⟨pK10, pK11, pK12, pK13, pK14, pK1l⟩ := tb5 K1_16.out
         obtain ⟨pXB00, pXB01, pXB02, pXB03, pXB04, pXB0l⟩ := tb5 XB0_16.out
         obtain ⟨pXB10, pXB11, pXB12, pXB13, pXB14, pXB1l⟩ := tb5 XB1_16.out))
  clear pK00 pK01 pK02 pK03 pK04 pK0l pK10 pK11 pK12 pK13 pK14 pK1l pXB00 pXB01 pXB02 pXB03 pXB04 pXB0l pXB10 pXB11 pXB12 pXB13 pXB14 pXB1l
  clear Y0_16
  obtain ⟨pK00, pK01, pK02, pK03, pK04, pK0l⟩ := tb5 K0_16.out
  obtain ⟨pK10, pK11, pK12, pK13, pK14, pK1l⟩ := tb5 K1_16.out
  obtain ⟨pXB00, pXB01, pXB02, pXB03, pXB04, pXB0l⟩ := tb5 XB0_16.out
  obtain ⟨pXB10, pXB11, pXB12, pXB13, pXB14, pXB1l⟩ := tb5 XB1_16.out
  go_wp2_with fail
  clear pK00 pK01 pK02 pK03 pK04 pK0l pK10 pK11 pK12 pK13 pK14 pK1l pXB00 pXB01 pXB02 pXB03 pXB04 pXB0l pXB10 pXB11 pXB12 pXB13 pXB14 pXB1l
  have bl : Below w16.heap.size w16 w16.drew := (Below.refl _ _).drew
  have B_17 := Lib.hid (Below.next B_16.out bl)
  clear B_16
  have K0_17 := Lib.hid (K0_16.out.below bl)
  clear K0_16
  have K1_17 := Lib.hid (K1_16.out.below bl)
  clear K1_16
  have X0_17 := Lib.hid (OwnL.kept X0_16.out bl)
  clear X0_16
  have XB0_17 := Lib.hid (XB0_16.out.below bl)
  clear XB0_16
  have X1_17 := Lib.hid (OwnL.kept X1_16.out bl)
  clear X1_16
  have XB1_17 := Lib.hid (XB1_16.out.below bl)
  clear XB1_16
  clear bl
  obtain ⟨pK00, pK01, pK02, pK03, pK04, pK0l⟩ := tb5 K0_17.out
  obtain ⟨pK10, pK11, pK12, pK13, pK14, pK1l⟩ := tb5 K1_17.out
  obtain ⟨pXB00, pXB01, pXB02, pXB03, pXB04, pXB0l⟩ := tb5 XB0_17.out
  obtain ⟨pXB10, pXB11, pXB12, pXB13, pXB14, pXB1l⟩ := tb5 XB1_17.out
  go_region_held3 (fun w' => w'.cell? ⟨w.heap.size, 0, none⟩ = some (.slice u0_0 u0_1 u0_2) ∧ w'.cell? ⟨w.heap.size, 1, none⟩ = some (.slice u0_3 u0_4 u0_5) ∧ w'.cell? ⟨w.heap.size, 2, none⟩ = some (.int .i64 u0_6) ∧ w'.cell? ⟨w.heap.size, 3, none⟩ = some (.int .i64 u0_7) ∧ w'.cell? ⟨w.heap.size, 4, none⟩ = some (.float .f32 u0_8) ∧ w'.cell? ⟨w.heap.size + 1, 0, none⟩ = some (.slice u1_0 u1_1 u1_2) ∧ w'.cell? ⟨w.heap.size + 1, 1, none⟩ = some (.slice u1_3 u1_4 u1_5) ∧ w'.cell? ⟨w.heap.size + 1, 2, none⟩ = some (.int .i64 u1_6) ∧ w'.cell? ⟨w.heap.size + 1, 3, none⟩ = some (.int .i64 u1_7) ∧ w'.cell? ⟨w.heap.size + 1, 4, none⟩ = some (.float .f32 u1_8) ∧ w'.cell? ⟨w9.heap.size, 0, none⟩ = some (.slice uX0_0 uX0_1 uX0_2) ∧ w'.cell? ⟨w9.heap.size, 1, none⟩ = some (.slice uX0_3 uX0_4 uX0_5) ∧ w'.cell? ⟨w9.heap.size, 2, none⟩ = some (.int .i64 uX0_6) ∧ w'.cell? ⟨w9.heap.size, 3, none⟩ = some (.int .i64 uX0_7) ∧ w'.cell? ⟨w9.heap.size, 4, none⟩ = some (.float .f32 uX0_8) ∧ w'.cell? ⟨w11.heap.size, 0, none⟩ = some (.slice uX1_0 uX1_1 uX1_2) ∧ w'.cell? ⟨w11.heap.size, 1, none⟩ = some (.slice uX1_3 uX1_4 uX1_5) ∧ w'.cell? ⟨w11.heap.size, 2, none⟩ = some (.int .i64 uX1_6) ∧ w'.cell? ⟨w11.heap.size, 3, none⟩ = some (.int .i64 uX1_7) ∧ w'.cell? ⟨w11.heap.size, 4, none⟩ = some (.float .f32 uX1_8)) (go_keep)
    (first
      | (go_at_call 25
         clear pK00 pK01 pK02 pK03 pK04 pK0l pK10 pK11 pK12 pK13 pK14 pK1l pXB00 pXB01 pXB02 pXB03 pXB04 pXB0l pXB10 pXB11 pXB12 pXB13 pXB14 pXB1l
         refine (HA1.out _ (HS1.out.kept B_17.out)).mono ?_
         rintro e w18 ⟨qY1, rfl, ht, ho, hsc, hnd, bl⟩
         obtain ⟨uY1_0, uY1_1, uY1_2, uY1_3, uY1_4, uY1_5, uY1_6, uY1_7, uY1_8, hcc⟩ := cells5 qY1
         have CQY1 := Lib.hid hcc
         have HPY1 := Lib.hid ht
         have SCY1 := Lib.hid hsc
         rw [hcc]
         clear hcc
         have Y1_18 := Lib.hid (OwnL.base B_17.out.size _ ho)
         have B_18 := Lib.hid (Below.next B_17.out bl)
         clear B_17
         have K0_18 := Lib.hid (K0_17.out.below bl)
         clear K0_17
         have K1_18 := Lib.hid (K1_17.out.below bl)
         clear K1_17
         have X0_18 := Lib.hid (OwnL.kept X0_17.out bl)
         clear X0_17
         have XB0_18 := Lib.hid (XB0_17.out.below bl)
         clear XB0_17
         have X1_18 := Lib.hid (OwnL.kept X1_17.out bl)
         clear X1_17
         have XB1_18 := Lib.hid (XB1_17.out.below bl)
         clear XB1_17
         clear ht hsc ho hnd
         clear bl
         obtain ⟨pK00, pK01, pK02, pK03, pK04, pK0l⟩ := tb5 K0_18.out
         obtain ⟨pK10, pK11, pK12, pK13, pK14, pK1l⟩ := tb5 K1_18.out
         obtain ⟨pXB00, pXB01, pXB02, pXB03, pXB04, pXB0l⟩ := tb5 XB0_18.out
         obtain ⟨pXB10, pXB11, pXB12, pXB13, pXB14, pXB1l⟩ := tb5 XB1_18.out)
      | (go_at_call 27
         clear pK00 pK01 pK02 pK03 pK04 pK0l pK10 pK11 pK12 pK13 pK14 pK1l pXB00 pXB01 pXB02 pXB03 pXB04 pXB0l pXB10 pXB11 pXB12 pXB13 pXB14 pXB1l
         have hc := c_eqTrs' qX1 qY1 _ (TrsOwn.at ⟨X1_18.out, SCX1.out⟩) (TrsOwn.at ⟨Y1_18.out, SCY1.out⟩) (HPX1.out.trans HPY1.out.symm)
         rw [CQX1.out, CQY1.out] at hc
         refine hc.mono ?_
         clear hc
         rintro e w19 ⟨rfl, bl⟩
         have B_19 := Lib.hid (Below.next B_18.out bl)
         clear B_18
         have K0_19 := Lib.hid (K0_18.out.below bl)
         clear K0_18
         have K1_19 := Lib.hid (K1_18.out.below bl)
         clear K1_18
         have X0_19 := Lib.hid (OwnL.kept X0_18.out bl)
         clear X0_18
         have XB0_19 := Lib.hid (XB0_18.out.below bl)
         clear XB0_18
         have X1_19 := Lib.hid (OwnL.kept X1_18.out bl)
         clear X1_18
         have XB1_19 := Lib.hid (XB1_18.out.below bl)
         clear XB1_18
         have Y1_19 := Lib.hid (OwnL.kept Y1_18.out bl)
         clear Y1_18
         clear bl
         obtain ⟨pK00, pK01, pK02, pK03, pK04, pK0l⟩ := tb5 K0_19.out
         obtain ⟨pK10, pK11, pK12, pK13, pK14, pK1l⟩ := tb5 K1_19.out
         obtain ⟨pXB00, pXB01, pXB02, pXB03, pXB04, pXB0l⟩ := tb5 XB0_19.out
         obtain ⟨pXB10, pXB11, pXB12, pXB13, pXB14, pXB1l⟩ := tb5 XB1_19.out))
  clear pK00 pK01 pK02 pK03 pK04 pK0l pK10 pK11 pK12 pK13 pK14 pK1l pXB00 pXB01 pXB02 pXB03 pXB04 pXB0l pXB10 pXB11 pXB12 pXB13 pXB14 pXB1l
  clear Y1_19
  obtain ⟨pK00, pK01, pK02, pK03, pK04, pK0l⟩ := tb5 K0_19.out
  obtain ⟨pK10, pK11, pK12, pK13, pK14, pK1l⟩ := tb5 K1_19.out
  obtain ⟨pXB00, pXB01, pXB02, pXB03, pXB04, pXB0l⟩ := tb5 XB0_19.out
  obtain ⟨pXB10, pXB11, pXB12, pXB13, pXB14, pXB1l⟩ := tb5 XB1_19.out
  go_wp2_with fail
  clear pK00 pK01 pK02 pK03 pK04 pK0l pK10 pK11 pK12 pK13 pK14 pK1l pXB00 pXB01 pXB02 pXB03 pXB04 pXB0l pXB10 pXB11 pXB12 pXB13 pXB14 pXB1l
  go_ret
  exact ⟨rfl, B_19.out⟩

theorem walk (v0 : Value) (v1 : Value) (w : World) (w0 : ∃ q : TrsA, v0 = .agg q.cells ∧ TrsAt w q) (w1 : ∃ q : TrsA, v1 = .agg q.cells ∧ TrsAt w q) :
    Calls Tryd.prog 8 #[v0, v1] w fun e w' => e = .returned (.bool true) ∧ Below w.heap.size w w' := by
  obtain ⟨q0, rfl, w0⟩ := w0
  obtain ⟨q1, rfl, w1⟩ := w1
  by_cases hL0 : (trsSum q0) ≤ 1048576
  case neg =>
    obtain ⟨u0_0, u0_1, u0_2, u0_3, u0_4, u0_5, u0_6, u0_7, u0_8, hc0⟩ := cells5 q0
    obtain ⟨u1_0, u1_1, u1_2, u1_3, u1_4, u1_5, u1_6, u1_7, u1_8, hc1⟩ := cells5 q1
    have bb := (((Below.refl w.heap.size w).alloc (by simp) (.cells #[.slice u0_0 u0_1 u0_2, .slice u0_3 u0_4 u0_5, .int .i64 u0_6, .int .i64 u0_7, .float .f32 u0_8] 43)).alloc (by simp) (.cells #[.slice u1_0 u1_1 u1_2, .slice u1_3 u1_4 u1_5, .int .i64 u1_6, .int .i64 u1_7, .float .f32 u1_8] 43))
    have k0 := (Blk.new w 43 #[.slice u0_0 u0_1 u0_2, .slice u0_3 u0_4 u0_5, .int .i64 u0_6, .int .i64 u0_7, .float .f32 u0_8]).below ((Below.refl _ _).alloc (Nat.le_refl _) (.cells #[.slice u1_0 u1_1 u1_2, .slice u1_3 u1_4 u1_5, .int .i64 u1_6, .int .i64 u1_7, .float .f32 u1_8] 43))
    have k1 := Blk.new (w.alloc (.cells #[.slice u0_0 u0_1 u0_2, .slice u0_3 u0_4 u0_5, .int .i64 u0_6, .int .i64 u0_7, .float .f32 u0_8] 43)) 43 #[.slice u1_0 u1_1 u1_2, .slice u1_3 u1_4 u1_5, .int .i64 u1_6, .int .i64 u1_7, .float .f32 u1_8]
    simp only [World.size_alloc] at k1
    have B := Lib.hid bb
    have K0 := Lib.hid k0
    have K1 := Lib.hid k1
    have HN := Lib.hid (fun W (hb : Below w.heap.size w W) => c_szTrs_no q0 1048576 W (w0.kept hb) (Nat.le_refl _) (by omega))
    simp only [hc0] at HN
    simp only [hc0, hc1]
    clear bb k0 k1 hc0 hc1
    clear hL0
    go_enter Tryd.func8, Tryd.ntmps8
    go_wp2_with fail
    generalize (w.alloc (.cells #[.slice u0_0 u0_1 u0_2, .slice u0_3 u0_4 u0_5, .int .i64 u0_6, .int .i64 u0_7, .float .f32 u0_8] 43)).alloc (.cells #[.slice u1_0 u1_1 u1_2, .slice u1_3 u1_4 u1_5, .int .i64 u1_6, .int .i64 u1_7, .float .f32 u1_8] 43) = w1 at B K0 K1 ⊢
    refine (HN.out _ B.out).mono ?_
    rintro e w3 ⟨rfl, hb⟩
    have B3 := Lib.hid (Below.next B.out hb)
    clear hb
    go_wp2_with fail
    go_ret
    exact ⟨rfl, B3.out⟩
  case pos =>
    by_cases hL1 : (trsSum q0) + (trsSum q1) ≤ 1048576
    case neg =>
      obtain ⟨u0_0, u0_1, u0_2, u0_3, u0_4, u0_5, u0_6, u0_7, u0_8, hc0⟩ := cells5 q0
      obtain ⟨u1_0, u1_1, u1_2, u1_3, u1_4, u1_5, u1_6, u1_7, u1_8, hc1⟩ := cells5 q1
      have bb := (((Below.refl w.heap.size w).alloc (by simp) (.cells #[.slice u0_0 u0_1 u0_2, .slice u0_3 u0_4 u0_5, .int .i64 u0_6, .int .i64 u0_7, .float .f32 u0_8] 43)).alloc (by simp) (.cells #[.slice u1_0 u1_1 u1_2, .slice u1_3 u1_4 u1_5, .int .i64 u1_6, .int .i64 u1_7, .float .f32 u1_8] 43))
      have k0 := (Blk.new w 43 #[.slice u0_0 u0_1 u0_2, .slice u0_3 u0_4 u0_5, .int .i64 u0_6, .int .i64 u0_7, .float .f32 u0_8]).below ((Below.refl _ _).alloc (Nat.le_refl _) (.cells #[.slice u1_0 u1_1 u1_2, .slice u1_3 u1_4 u1_5, .int .i64 u1_6, .int .i64 u1_7, .float .f32 u1_8] 43))
      have k1 := Blk.new (w.alloc (.cells #[.slice u0_0 u0_1 u0_2, .slice u0_3 u0_4 u0_5, .int .i64 u0_6, .int .i64 u0_7, .float .f32 u0_8] 43)) 43 #[.slice u1_0 u1_1 u1_2, .slice u1_3 u1_4 u1_5, .int .i64 u1_6, .int .i64 u1_7, .float .f32 u1_8]
      simp only [World.size_alloc] at k1
      have B := Lib.hid bb
      have K0 := Lib.hid k0
      have K1 := Lib.hid k1
      obtain ⟨l, hl⟩ : ∃ l, 1048576 - trsSum q0 = l := ⟨_, rfl⟩
      have hl0 : (0 : Int) ≤ (l : Int) := by omega
      have HX := Lib.hid (fun W (hb : Below w.heap.size w W) => c_szTrs q0 1048576 l W (w0.kept hb) (Nat.le_refl _) hL0 hl)
      have HN := Lib.hid (fun W (hb : Below w.heap.size w W) => c_szTrs_no q1 l W (w1.kept hb) (by omega) (by omega))
      simp only [hc0] at HX
      simp only [hc1] at HN
      simp only [hc0, hc1]
      clear bb k0 k1 hl hc0 hc1
      clear hL1 hL0
      go_enter Tryd.func8, Tryd.ntmps8
      go_wp2_with fail
      generalize (w.alloc (.cells #[.slice u0_0 u0_1 u0_2, .slice u0_3 u0_4 u0_5, .int .i64 u0_6, .int .i64 u0_7, .float .f32 u0_8] 43)).alloc (.cells #[.slice u1_0 u1_1 u1_2, .slice u1_3 u1_4 u1_5, .int .i64 u1_6, .int .i64 u1_7, .float .f32 u1_8] 43) = w1 at B K0 K1 ⊢
      refine (HX.out _ B.out).mono ?_
      rintro e w2 ⟨rfl, hb⟩
      have B2 := Lib.hid (Below.next B.out hb)
      have K2 := Lib.hid (K1.out.below hb)
      clear hb
      obtain ⟨p0, p1, p2, p3, p4, p5⟩ := tbt5 K2.out
      go_wp2_with fail
      clear p0 p1 p2 p3 p4 p5
      refine (HN.out _ B2.out).mono ?_
      rintro e w3 ⟨rfl, hb⟩
      have B3 := Lib.hid (Below.next B2.out hb)
      clear hb
      go_wp2_with fail
      go_ret
      exact ⟨rfl, B3.out⟩
    case pos =>
      have Hs := fun (p0 : TrsA) (p1 : TrsA) (w : World) (hp0 : TrsEq p0 q0) (h0 : TrsAt w p0) (hp1 : TrsEq p1 q1) (h1 : TrsAt w p1) => t_sPatchOf p0 p1 w h0 h1
      have Hi := fun (p0 : TrsA) (p1 : TrsA) (w : World) (hp0 : TrsEq p0 q0) (h0 : TrsAt w p0) (hp1 : TrsEq p1 q1) (h1 : TrsAt w p1) => t_iPatchOf p0 p1 w h0 h1
      have Hs' := fun (p0 : TrsA) (p1 : TrsA) (w : World) (hp0 : TrsEq p0 q0) (h0 : TrsAt w p0) (hp1 : TrsEq p1 q1) (h1 : TrsAt w p1) => by have h := Hs p0 p1 w hp0 h0 hp1 h1; rw [vPatchOf_of hp0 hp1] at h; exact h
      have Hi' := fun (p0 : TrsA) (p1 : TrsA) (w : World) (hp0 : TrsEq p0 q0) (h0 : TrsAt w p0) (hp1 : TrsEq p1 q1) (h1 : TrsAt w p1) => by have h := Hi p0 p1 w hp0 h0 hp1 h1; rw [vPatchOf_of hp0 hp1] at h; exact h
      exact core q0 q1   w w0 w1 (vPatchOf q0 q1).1 (vPatchOf q0 q1).2 hL0 hL1  Hs' Hi'

/-! the door's own heap meets the condition -/
def laid {H : Type} : List (String × DataW H) := [("bytes.ErrTooLarge", Rows.laid_bytes_ErrTooLarge)]
theorem own : ownKnob Tryd.prog.godebug = none := by kernel_rfl
theorem door_met (os : Os) (args : Array Value) : laidMetH Tryd.prog laid ((World.doorLaid Tryd.prog 400 os).forCall (fun _ _ => 0) ⟨#[], args, []⟩).memory :=
  laidMetH_of_parts3 (fuel := 8) (laidMet_of_run' 8 (by kernel_rfl) (by kernel_rfl)) (by kernel_rfl) (by kernel_rfl)
set_option maxRecDepth 100000 in
theorem lifted (os : Os) (started : os.Started) (H : Type) (enc : TypeId × Value → H) :
    ReturnsInHanded {} Tryd.checked os 8 .any (fun w args => (Rows.fnExactPatchOfSpec.pre enc Tryd.prog Tryd.f8 [] false w args ∧ laidMetH Tryd.prog laid w) ∧ sizedMet enc Tryd.prog Tryd.f8 (OpenSpec.ofChange Rows.fnExactPatchOfSpec) false w args)
      (Rows.fnExactPatchOfSpec.post enc Tryd.prog Tryd.f8 false true false false) := by
  refine returnsInHanded_of_change_and (C := Tryd.checked) (X := fun w _ => laidMetH Tryd.prog laid w) (fun _ _ _ hh h => h.of_heap hh) own started (by kernel_rfl) Tryd.func8
    (ChangeSpec.witness_shaped (enc := enc) (C := Tryd.checked) (os := os) (X := fun w _ => laidMetH Tryd.prog laid w) false (World.doorLaid Tryd.prog 400 os) #[.agg #[.slice none 0 0, .slice none 0 0, .int .i64 0, .int .i64 0, .float .f32 0], .agg #[.slice none 0 0, .slice none 0 0, .int .i64 0, .int .i64 0, .float .f32 0]] 8 rfl (World.shaped_of_RefB (by kernel_rfl) (by kernel_rfl)) (by kernel_rfl) (by kernel_rfl) (by kernel_rfl) (door_met os _)) ?_
  intro W base args ds gs before hval0 hW hcnd _ hL _
  have hval : ∀ (j : Nat) t v, Tryd.f8.params[j]? = some t → args[j]? = some v → Value.okWide Tryd.prog W .any base t v := hval0
  have hW' := hW
  obtain ⟨p, q, hA0, hV, rfl, hfz, hnd⟩ := hW
  have hA : DataW.TrodAll enc Tryd.prog W 0 (fun _ => true) true Tryd.f8.params.toList args.toList ds p := hA0
  rw [Tryd.params8] at hA hval
  obtain ⟨v0, vs0, d0, ds0, p0, q0, hargs, rfl, rfl, h0, rest0⟩ := trodAll_cons hA
  obtain ⟨v1, vs1, d1, ds1, p1, q1, rfl, rfl, rfl, h1, rest1⟩ := trodAll_cons rest0
  obtain ⟨rfl, rfl, rfl⟩ := trodAll_nil rest1
  obtain rfl : args = #[v0, v1] := by cases args; simp_all
  obtain ⟨rfl, rfl⟩ := trodVars_none hV
  have k0 := h0
  have lt0 : ∀ x ∈ p0, x.block < W.heap.size := by obtain ⟨m, hm⟩ := k0; exact DataW.trod_lt m _ _ _ hm
  have w0 := open_Trs (hval 0 43 v0 rfl rfl) h0
  have k1 := h1
  have lt1 : ∀ x ∈ p1, x.block < W.heap.size := by obtain ⟨m, hm⟩ := k1; exact DataW.trod_lt m _ _ _ hm
  have w1 := open_Trs (hval 1 43 v1 rfl rfl) h1
  clear hA0 hval0
  refine (walk _ _ W w0 w1).mono fun e W' ⟨he, bel⟩ => ?_
  subst he
  exact ⟨_, rfl, _, _, _, [], _, [], hW', trodAll_mk1 (shut_bool Tryd.underlying4 _), (trodAll_cons_mk (Below.trod laidOut (by kernel_rfl) (of_decide_eq_true (by kernel_rfl)) k0 bel lt0) (trodAll_cons_mk (Below.trod laidOut (by kernel_rfl) (of_decide_eq_true (by kernel_rfl)) k1 bel lt1) trodAll_mk0)), rfl, bel.frame _, fun h => by cases h⟩

theorem over : Rows.fnExactPatchOfRow.holds Tryd.pinned (OpenSpec.ofChange Rows.fnExactPatchOfSpec) :=
  OpenClaim.holds_of_wide 8 Tryd.f8 rfl rfl rfl rfl rfl rfl rfl ⟨rfl, rfl, rfl, rfl, rfl⟩ rfl rfl rfl rfl rfl (by kernel_rfl) Tryd.func8 (by kernel_rfl)
    (of_decide_eq_true (by kernel_rfl)) (by unfold Func.isWrapper; first | (rw [if_pos (by decide +kernel)]; kernel_rfl) | (rw [if_neg (by decide +kernel)]; exact ⟨rfl, rfl⟩))
    (fun os started H enc _ => lifted os started H enc)

/-- the statement: the row, tied to the program's text -/
theorem proved : Rows.FnExactPatchOfCardSaid :=
  Claim7.holds_tied_plain_at .later [] Rows.fnExactPatchOfCard.laidKinds true Rows.fnExactPatchOfCard.stood.harness true
    over (fun _ h => by cases h) (by kernel_rfl) (fun _ h => by cases h) fnExactPatchOf_row_tie rfl ⟨rfl, rfl⟩ (by kernel_rfl) rfl
    (fun f fn hf hfn => by
      obtain rfl : f = 8 := Option.some.inj ((show Tryd.prog.funcNamed Rows.fnExactPatchOfRow.func = some 8 by kernel_rfl).symm.trans hf) |>.symm
      obtain rfl : fn = Tryd.f8 := (Option.some.inj (Tryd.func8.symm.trans hfn)).symm
      exact ⟨by kernel_rfl, fun j t ht => by
        rw [Tryd.params8] at ht
        rcases j with _ | j
        · obtain rfl : t = 43 := by simpa using ht.symm
          exact (show Tryd.prog.wantsStandIn 43 = false by kernel_rfl)
        · rcases j with _ | j
          · obtain rfl : t = 43 := by simpa using ht.symm
            exact (show Tryd.prog.wantsStandIn 43 = false by kernel_rfl)
          · simp at ht⟩)
    (by kernel_rfl)
end Go.Proofs.YtpobdigmjfapbaaDoor.fnExactPatchOf
