/-
  CountCorrect answers as its model. Conditions: none; arguments over the laws' own bound are passed over by the law itself.
-/
import Derived.Test.YtpdgpoonblldgaaCls
import Derived.Test.YtpdgpoonblldgaaCcv
import Derived.Test.YtpdgpoonblldgaaMark
import Derived.ChangeOld
import Derived.Below
namespace Go.Proofs.Ytpdgpoonblldgaa.fnExactCountCorrect
open Go.ChangeShapes Go.WideShapes Go.ChangeAt Go.RowKit
open Go.ChangeMaps (open_string shut_string)
set_option linter.unusedVariables false

set_option maxHeartbeats 4000000 in
set_option maxRecDepth 100000 in
/-- for any contracts of the model and of the program that say the same -/
theorem core (ls0 : List LayA) (r1 t1 e1 f1 : Int) (ws1 bs1 : List Nat) (g0 : Option Addr) (c0 : Nat) (a1 b1 : Option Addr) (c1 d1 : Nat) (w : World) (w0' : LaysAt w g0 ls0.length c0 ls0) (w1' : IsFloats .f32 w a1 ws1.length c1 ws1 ∧ IsFloats .f32 w b1 bs1.length d1 bs1) (x : Int) (b : Bool) (hL0 : (ls0.length + laySum (ls0.map LayA.p)) ≤ 1048576) (hL1 : (ls0.length + laySum (ls0.map LayA.p)) + (ws1.length + bs1.length) ≤ 1048576) 
    (CS' : ∀ (g0 : Option Addr) (c0 : Nat) (y0 : List LayA) (a1 b1 : Option Addr) (c1 d1 : Nat) (w : World), (y0.map LayA.p = ls0.map LayA.p) → (LaysAt w g0 ls0.length c0 y0) → (IsFloats .f32 w a1 ws1.length c1 ws1 ∧ IsFloats .f32 w b1 bs1.length d1 bs1) → Calls Try.prog 11 #[.agg #[.slice g0 ls0.length c0], .agg #[.int .i64 r1, .int .i64 t1, .slice a1 ws1.length c1, .int .i64 e1, .int .i64 f1, .slice b1 bs1.length d1]] w (RetNb x b w))
    (CI' : ∀ (g0 : Option Addr) (c0 : Nat) (y0 : List LayA) (a1 b1 : Option Addr) (c1 d1 : Nat) (w : World), (y0.map LayA.p = ls0.map LayA.p) → (LaysAt w g0 ls0.length c0 y0) → (IsFloats .f32 w a1 ws1.length c1 ws1 ∧ IsFloats .f32 w b1 bs1.length d1 bs1) → Calls Try.prog 14 #[.agg #[.slice g0 ls0.length c0], .agg #[.int .i64 r1, .int .i64 t1, .slice a1 ws1.length c1, .int .i64 e1, .int .i64 f1, .slice b1 bs1.length d1]] w (RetNb x b w)) :
    Calls Try.prog 3 #[.agg #[.slice g0 ls0.length c0], .agg #[.int .i64 r1, .int .i64 t1, .slice a1 ws1.length c1, .int .i64 e1, .int .i64 f1, .slice b1 bs1.length d1]] w fun e w' => e = .returned (.bool true) ∧ Below w.heap.size w w' := by
  have HS0 := Lib.hid w0'
  have HZ0 := Lib.hid (show ls0.length + laySum (ls0.map LayA.p) ≤ 1048576 by omega)
  have HS1 := Lib.hid w1'
  have HZ1 := Lib.hid (show ws1.length + bs1.length ≤ 1048576 by omega)
  have CS := Lib.hid CS'
  have CI := Lib.hid CI'
  obtain ⟨l0, hl0⟩ : ∃ l, 1048576 - (ls0.length + laySum (ls0.map LayA.p)) = l := ⟨_, rfl⟩
  have hl0' : l0 ≤ 1048576 := by omega
  have HQ0 := Lib.hid (show ls0.length + laySum (ls0.map LayA.p) ≤ 1048576 by omega)
  obtain ⟨l1, hl1⟩ : ∃ l, l0 - (ws1.length + bs1.length) = l := ⟨_, rfl⟩
  have hl1' : l1 ≤ 1048576 := by omega
  have HQ1 := Lib.hid (show ws1.length + bs1.length ≤ l0 by omega)
  have HE0 := Lib.hid hl0
  have hp0 : (0 : Int) ≤ (l0 : Int) := by omega
  have HE1 := Lib.hid hl1
  have hp1 : (0 : Int) ≤ (l1 : Int) := by omega
  clear w0' w1' CS' CI' hl1 hl0 hL0 hL1
  go_enter Try.func3, Try.ntmps3
  go_wp2_with fail
  have B_0 := Lib.hid (Below.refl w.heap.size w)
  have bl := (Below.refl (w).heap.size (w)).alloc (Nat.le_refl _) (.cells #[.slice g0 ls0.length c0] 24)
  have K0_1 := Lib.hid (Blk.new (w) 24 #[.slice g0 ls0.length c0])
  have B_1 := Lib.hid (Below.next B_0.out bl)
  clear B_0
  clear bl
  have bl := (Below.refl ((w).alloc (.cells #[.slice g0 ls0.length c0] 24)).heap.size ((w).alloc (.cells #[.slice g0 ls0.length c0] 24))).alloc (Nat.le_refl _) (.cells #[.int .i64 r1, .int .i64 t1, .slice a1 ws1.length c1, .int .i64 e1, .int .i64 f1, .slice b1 bs1.length d1] 29)
  have K1_2 := Lib.hid (Blk.new ((w).alloc (.cells #[.slice g0 ls0.length c0] 24)) 29 #[.int .i64 r1, .int .i64 t1, .slice a1 ws1.length c1, .int .i64 e1, .int .i64 f1, .slice b1 bs1.length d1])
  have B_2 := Lib.hid (Below.next B_1.out bl)
  clear B_1
  have K0_2 := Lib.hid (K0_1.out.below bl)
  clear K0_1
  clear bl
  generalize ((w).alloc (.cells #[.slice g0 ls0.length c0] 24)).alloc (.cells #[.int .i64 r1, .int .i64 t1, .slice a1 ws1.length c1, .int .i64 e1, .int .i64 f1, .slice b1 bs1.length d1] 29) = w2 at B_2 K0_2 K1_2 ⊢
  simp only [World.size_alloc] at K1_2
  refine (c_szMod _ _ _ _ _ ls0 _ (HS0.out.kept B_2.out) (Nat.le_refl _) HQ0.out HE0.out).mono ?_
  rintro e w3 ⟨rfl, bl⟩
  have B_3 := Lib.hid (Below.next B_2.out bl)
  clear B_2
  have K0_3 := Lib.hid (K0_2.out.below bl)
  clear K0_2
  have K1_3 := Lib.hid (K1_2.out.below bl)
  clear K1_2
  clear bl
  obtain ⟨pK00, pK0l⟩ := tb1 K0_3.out
  obtain ⟨pK10, pK11, pK12, pK13, pK14, pK15, pK1l⟩ := tb6 K1_3.out
  go_wp2_with fail
  clear pK00 pK0l pK10 pK11 pK12 pK13 pK14 pK15 pK1l
  refine (c_szExa _ _ _ _ _ _ _ _ _ _ _ _ _ hl0' HQ1.out HE1.out).mono ?_
  rintro e w4 ⟨rfl, bl⟩
  have B_4 := Lib.hid (Below.next B_3.out bl)
  clear B_3
  have K0_4 := Lib.hid (K0_3.out.below bl)
  clear K0_3
  have K1_4 := Lib.hid (K1_3.out.below bl)
  clear K1_3
  clear bl
  obtain ⟨pK00, pK0l⟩ := tb1 K0_4.out
  obtain ⟨pK10, pK11, pK12, pK13, pK14, pK15, pK1l⟩ := tb6 K1_4.out
  go_wp2_with fail
  clear pK00 pK0l pK10 pK11 pK12 pK13 pK14 pK15 pK1l
  have bl : Below w4.heap.size w4 w4.drew := (Below.refl _ _).drew
  have B_5 := Lib.hid (Below.next B_4.out bl)
  clear B_4
  have K0_5 := Lib.hid (K0_4.out.below bl)
  clear K0_4
  have K1_5 := Lib.hid (K1_4.out.below bl)
  clear K1_4
  clear bl
  obtain ⟨pK00, pK0l⟩ := tb1 K0_5.out
  obtain ⟨pK10, pK11, pK12, pK13, pK14, pK15, pK1l⟩ := tb6 K1_5.out
  go_region_held3 (fun w' => w'.cell? ⟨w.heap.size, 0, none⟩ = some (.slice g0 ls0.length c0) ∧ w'.cell? ⟨w.heap.size + 1, 0, none⟩ = some (.int .i64 r1) ∧ w'.cell? ⟨w.heap.size + 1, 1, none⟩ = some (.int .i64 t1) ∧ w'.cell? ⟨w.heap.size + 1, 2, none⟩ = some (.slice a1 ws1.length c1) ∧ w'.cell? ⟨w.heap.size + 1, 3, none⟩ = some (.int .i64 e1) ∧ w'.cell? ⟨w.heap.size + 1, 4, none⟩ = some (.int .i64 f1) ∧ w'.cell? ⟨w.heap.size + 1, 5, none⟩ = some (.slice b1 bs1.length d1)) (go_keep)
    (first
      | (go_at_call 12
         clear pK00 pK0l pK10 pK11 pK12 pK13 pK14 pK15 pK1l
         refine (c_toMod _ _ _ ls0 _ (HS0.out.kept B_5.out) HZ0.out).mono ?_
         rintro e w6 ⟨gT0, yT0, rfl, hl, hp, ho, hnd, bl⟩
         have HPT0 := Lib.hid hp
         have HLT0 := Lib.hid hl
         have T0_6 := Lib.hid (OwnL.base B_5.out.size _ ho)
         have B_6 := Lib.hid (Below.next B_5.out bl)
         clear B_5
         have K0_6 := Lib.hid (K0_5.out.below bl)
         clear K0_5
         have K1_6 := Lib.hid (K1_5.out.below bl)
         clear K1_5
         clear hl hp ho hnd
         clear bl
         obtain ⟨pK00, pK0l⟩ := tb1 K0_6.out
         obtain ⟨pK10, pK11, pK12, pK13, pK14, pK15, pK1l⟩ := tb6 K1_6.out)
      | (go_at_call 13
         clear pK00 pK0l pK10 pK11 pK12 pK13 pK14 pK15 pK1l
         refine (c_toExa r1 t1 e1 f1 _ _ _ _ ws1 bs1 _ (And.intro (HS1.out.1.kept B_6.out) (HS1.out.2.kept B_6.out)).1 (And.intro (HS1.out.1.kept B_6.out) (HS1.out.2.kept B_6.out)).2 (by have := HZ1.out; omega) (by have := HZ1.out; omega)).mono ?_
         rintro e w7 ⟨aT1, bT1, rfl, h0, h1, hap, bl⟩
         have ho := exa_own h0 h1
         have T1_7 := Lib.hid (OwnL.base B_6.out.size _ ho)
         have B_7 := Lib.hid (Below.next B_6.out bl)
         clear B_6
         have K0_7 := Lib.hid (K0_6.out.below bl)
         clear K0_6
         have K1_7 := Lib.hid (K1_6.out.below bl)
         clear K1_6
         have T0_7 := Lib.hid (OwnL.kept T0_6.out bl)
         clear T0_6
         clear h0 h1 hap ho
         clear bl
         obtain ⟨pK00, pK0l⟩ := tb1 K0_7.out
         obtain ⟨pK10, pK11, pK12, pK13, pK14, pK15, pK1l⟩ := tb6 K1_7.out)
      | (go_at_call 11
         clear pK00 pK0l pK10 pK11 pK12 pK13 pK14 pK15 pK1l
         refine (CS.out _ _ yT0 _ _ _ _ _ HPT0.out (laysAt_own HLT0.out T0_7.out) (exa_at T1_7.out)).mono ?_
         rintro e w8 ⟨rfl, bl⟩
         have B_8 := Lib.hid (Below.next B_7.out bl)
         clear B_7
         have K0_8 := Lib.hid (K0_7.out.below bl)
         clear K0_7
         have K1_8 := Lib.hid (K1_7.out.below bl)
         clear K1_7
         have T0_8 := Lib.hid (OwnL.kept T0_7.out bl)
         clear T0_7
         have T1_8 := Lib.hid (OwnL.kept T1_7.out bl)
         clear T1_7
         clear bl
         obtain ⟨pK00, pK0l⟩ := tb1 K0_8.out
         obtain ⟨pK10, pK11, pK12, pK13, pK14, pK15, pK1l⟩ := tb6 K1_8.out))
  clear pK00 pK0l pK10 pK11 pK12 pK13 pK14 pK15 pK1l
  clear T0_8
  clear T1_8
  obtain ⟨pK00, pK0l⟩ := tb1 K0_8.out
  obtain ⟨pK10, pK11, pK12, pK13, pK14, pK15, pK1l⟩ := tb6 K1_8.out
  go_wp2_with fail
  clear pK00 pK0l pK10 pK11 pK12 pK13 pK14 pK15 pK1l
  refine (c_toMod _ _ _ ls0 _ (HS0.out.kept B_8.out) HZ0.out).mono ?_
  rintro e w9 ⟨gX0, yX0, rfl, hl, hp, ho, hnd, bl⟩
  have HPX0 := Lib.hid hp
  have HLX0 := Lib.hid hl
  have X0_9 := Lib.hid (OwnL.base B_8.out.size _ ho)
  have B_9 := Lib.hid (Below.next B_8.out bl)
  clear B_8
  have K0_9 := Lib.hid (K0_8.out.below bl)
  clear K0_8
  have K1_9 := Lib.hid (K1_8.out.below bl)
  clear K1_8
  clear hl hp ho hnd
  clear bl
  obtain ⟨pK00, pK0l⟩ := tb1 K0_9.out
  obtain ⟨pK10, pK11, pK12, pK13, pK14, pK15, pK1l⟩ := tb6 K1_9.out
  go_wp2_with fail
  clear pK00 pK0l pK10 pK11 pK12 pK13 pK14 pK15 pK1l
  have bl := (Below.refl w9.heap.size w9).alloc (Nat.le_refl _) (.cells #[.slice (some ⟨gX0, 0, none⟩) ls0.length ls0.length] 36)
  have XB0_10 := Lib.hid (Blk.new w9 36 #[.slice (some ⟨gX0, 0, none⟩) ls0.length ls0.length])
  have B_10 := Lib.hid (Below.next B_9.out bl)
  clear B_9
  have K0_10 := Lib.hid (K0_9.out.below bl)
  clear K0_9
  have K1_10 := Lib.hid (K1_9.out.below bl)
  clear K1_9
  have X0_10 := Lib.hid (OwnL.kept X0_9.out bl)
  clear X0_9
  clear bl
  generalize w9.alloc (.cells #[.slice (some ⟨gX0, 0, none⟩) ls0.length ls0.length] 36) = w10 at B_10 K0_10 K1_10 X0_10 XB0_10 ⊢
  obtain ⟨pK00, pK0l⟩ := tb1 K0_10.out
  obtain ⟨pK10, pK11, pK12, pK13, pK14, pK15, pK1l⟩ := tb6 K1_10.out
  obtain ⟨pXB00, pXB0l⟩ := tb1 XB0_10.out
  try go_wp2_with fail
  clear pK00 pK0l pK10 pK11 pK12 pK13 pK14 pK15 pK1l pXB00 pXB0l
  obtain ⟨pK00, pK0l⟩ := tb1 K0_10.out
  obtain ⟨pK10, pK11, pK12, pK13, pK14, pK15, pK1l⟩ := tb6 K1_10.out
  obtain ⟨pXB00, pXB0l⟩ := tb1 XB0_10.out
  go_wp2_with fail
  clear pK00 pK0l pK10 pK11 pK12 pK13 pK14 pK15 pK1l pXB00 pXB0l
  refine (c_toExa r1 t1 e1 f1 _ _ _ _ ws1 bs1 _ (And.intro (HS1.out.1.kept B_10.out) (HS1.out.2.kept B_10.out)).1 (And.intro (HS1.out.1.kept B_10.out) (HS1.out.2.kept B_10.out)).2 (by have := HZ1.out; omega) (by have := HZ1.out; omega)).mono ?_
  rintro e w11 ⟨aX1, bX1, rfl, h0, h1, hap, bl⟩
  have ho := exa_own h0 h1
  have X1_11 := Lib.hid (OwnL.base B_10.out.size _ ho)
  have B_11 := Lib.hid (Below.next B_10.out bl)
  clear B_10
  have K0_11 := Lib.hid (K0_10.out.below bl)
  clear K0_10
  have K1_11 := Lib.hid (K1_10.out.below bl)
  clear K1_10
  have X0_11 := Lib.hid (OwnL.kept X0_10.out bl)
  clear X0_10
  have XB0_11 := Lib.hid (XB0_10.out.below bl)
  clear XB0_10
  clear h0 h1 hap ho
  clear bl
  obtain ⟨pK00, pK0l⟩ := tb1 K0_11.out
  obtain ⟨pK10, pK11, pK12, pK13, pK14, pK15, pK1l⟩ := tb6 K1_11.out
  obtain ⟨pXB00, pXB0l⟩ := tb1 XB0_11.out
  go_wp2_with fail
  clear pK00 pK0l pK10 pK11 pK12 pK13 pK14 pK15 pK1l pXB00 pXB0l
  have bl := (Below.refl w11.heap.size w11).alloc (Nat.le_refl _) (.cells #[.int .i64 r1, .int .i64 t1, .slice aX1 ws1.length ws1.length, .int .i64 e1, .int .i64 f1, .slice bX1 bs1.length bs1.length] 40)
  have XB1_12 := Lib.hid (Blk.new w11 40 #[.int .i64 r1, .int .i64 t1, .slice aX1 ws1.length ws1.length, .int .i64 e1, .int .i64 f1, .slice bX1 bs1.length bs1.length])
  have B_12 := Lib.hid (Below.next B_11.out bl)
  clear B_11
  have K0_12 := Lib.hid (K0_11.out.below bl)
  clear K0_11
  have K1_12 := Lib.hid (K1_11.out.below bl)
  clear K1_11
  have X0_12 := Lib.hid (OwnL.kept X0_11.out bl)
  clear X0_11
  have XB0_12 := Lib.hid (XB0_11.out.below bl)
  clear XB0_11
  have X1_12 := Lib.hid (OwnL.kept X1_11.out bl)
  clear X1_11
  clear bl
  generalize w11.alloc (.cells #[.int .i64 r1, .int .i64 t1, .slice aX1 ws1.length ws1.length, .int .i64 e1, .int .i64 f1, .slice bX1 bs1.length bs1.length] 40) = w12 at B_12 K0_12 K1_12 X0_12 XB0_12 X1_12 XB1_12 ⊢
  obtain ⟨pK00, pK0l⟩ := tb1 K0_12.out
  obtain ⟨pK10, pK11, pK12, pK13, pK14, pK15, pK1l⟩ := tb6 K1_12.out
  obtain ⟨pXB00, pXB0l⟩ := tb1 XB0_12.out
  obtain ⟨pXB10, pXB11, pXB12, pXB13, pXB14, pXB15, pXB1l⟩ := tb6 XB1_12.out
  try go_wp2_with fail
  clear pK00 pK0l pK10 pK11 pK12 pK13 pK14 pK15 pK1l pXB00 pXB0l pXB10 pXB11 pXB12 pXB13 pXB14 pXB15 pXB1l
  refine (CI.out _ _ yX0 _ _ _ _ _ HPX0.out (laysAt_own HLX0.out X0_12.out) (exa_at X1_12.out)).mono ?_
  rintro e w13 ⟨rfl, bl⟩
  have B_13 := Lib.hid (Below.next B_12.out bl)
  clear B_12
  have K0_13 := Lib.hid (K0_12.out.below bl)
  clear K0_12
  have K1_13 := Lib.hid (K1_12.out.below bl)
  clear K1_12
  have X0_13 := Lib.hid (OwnL.kept X0_12.out bl)
  clear X0_12
  have XB0_13 := Lib.hid (XB0_12.out.below bl)
  clear XB0_12
  have X1_13 := Lib.hid (OwnL.kept X1_12.out bl)
  clear X1_12
  have XB1_13 := Lib.hid (XB1_12.out.below bl)
  clear XB1_12
  clear bl
  obtain ⟨pK00, pK0l⟩ := tb1 K0_13.out
  obtain ⟨pK10, pK11, pK12, pK13, pK14, pK15, pK1l⟩ := tb6 K1_13.out
  obtain ⟨pXB00, pXB0l⟩ := tb1 XB0_13.out
  obtain ⟨pXB10, pXB11, pXB12, pXB13, pXB14, pXB15, pXB1l⟩ := tb6 XB1_13.out
  go_wp2_with fail
  clear pK00 pK0l pK10 pK11 pK12 pK13 pK14 pK15 pK1l pXB00 pXB0l pXB10 pXB11 pXB12 pXB13 pXB14 pXB15 pXB1l
  have bl : Below w13.heap.size w13 w13.drew := (Below.refl _ _).drew
  have B_14 := Lib.hid (Below.next B_13.out bl)
  clear B_13
  have K0_14 := Lib.hid (K0_13.out.below bl)
  clear K0_13
  have K1_14 := Lib.hid (K1_13.out.below bl)
  clear K1_13
  have X0_14 := Lib.hid (OwnL.kept X0_13.out bl)
  clear X0_13
  have XB0_14 := Lib.hid (XB0_13.out.below bl)
  clear XB0_13
  have X1_14 := Lib.hid (OwnL.kept X1_13.out bl)
  clear X1_13
  have XB1_14 := Lib.hid (XB1_13.out.below bl)
  clear XB1_13
  clear bl
  obtain ⟨pK00, pK0l⟩ := tb1 K0_14.out
  obtain ⟨pK10, pK11, pK12, pK13, pK14, pK15, pK1l⟩ := tb6 K1_14.out
  obtain ⟨pXB00, pXB0l⟩ := tb1 XB0_14.out
  obtain ⟨pXB10, pXB11, pXB12, pXB13, pXB14, pXB15, pXB1l⟩ := tb6 XB1_14.out
  go_region_held3 (fun w' => w'.cell? ⟨w.heap.size, 0, none⟩ = some (.slice g0 ls0.length c0) ∧ w'.cell? ⟨w.heap.size + 1, 0, none⟩ = some (.int .i64 r1) ∧ w'.cell? ⟨w.heap.size + 1, 1, none⟩ = some (.int .i64 t1) ∧ w'.cell? ⟨w.heap.size + 1, 2, none⟩ = some (.slice a1 ws1.length c1) ∧ w'.cell? ⟨w.heap.size + 1, 3, none⟩ = some (.int .i64 e1) ∧ w'.cell? ⟨w.heap.size + 1, 4, none⟩ = some (.int .i64 f1) ∧ w'.cell? ⟨w.heap.size + 1, 5, none⟩ = some (.slice b1 bs1.length d1) ∧ w'.cell? ⟨w9.heap.size, 0, none⟩ = some (.slice (some ⟨gX0, 0, none⟩) ls0.length ls0.length) ∧ w'.cell? ⟨w11.heap.size, 0, none⟩ = some (.int .i64 r1) ∧ w'.cell? ⟨w11.heap.size, 1, none⟩ = some (.int .i64 t1) ∧ w'.cell? ⟨w11.heap.size, 2, none⟩ = some (.slice aX1 ws1.length ws1.length) ∧ w'.cell? ⟨w11.heap.size, 3, none⟩ = some (.int .i64 e1) ∧ w'.cell? ⟨w11.heap.size, 4, none⟩ = some (.int .i64 f1) ∧ w'.cell? ⟨w11.heap.size, 5, none⟩ = some (.slice bX1 bs1.length bs1.length)) (go_keep)
    (first
      | (go_at_call 12
         clear pK00 pK0l pK10 pK11 pK12 pK13 pK14 pK15 pK1l pXB00 pXB0l pXB10 pXB11 pXB12 pXB13 pXB14 pXB15 pXB1l
         refine (c_toMod _ _ _ ls0 _ (HS0.out.kept B_14.out) HZ0.out).mono ?_
         rintro e w15 ⟨gY0, yY0, rfl, hl, hp, ho, hnd, bl⟩
         have HPY0 := Lib.hid hp
         have HLY0 := Lib.hid hl
         have Y0_15 := Lib.hid (OwnL.base B_14.out.size _ ho)
         have B_15 := Lib.hid (Below.next B_14.out bl)
         clear B_14
         have K0_15 := Lib.hid (K0_14.out.below bl)
         clear K0_14
         have K1_15 := Lib.hid (K1_14.out.below bl)
         clear K1_14
         have X0_15 := Lib.hid (OwnL.kept X0_14.out bl)
         clear X0_14
         have XB0_15 := Lib.hid (XB0_14.out.below bl)
         clear XB0_14
         have X1_15 := Lib.hid (OwnL.kept X1_14.out bl)
         clear X1_14
         have XB1_15 := Lib.hid (XB1_14.out.below bl)
         clear XB1_14
         clear hl hp ho hnd
         clear bl
         obtain ⟨pK00, pK0l⟩ := tb1 K0_15.out
         obtain ⟨pK10, pK11, pK12, pK13, pK14, pK15, pK1l⟩ := tb6 K1_15.out
         obtain ⟨pXB00, pXB0l⟩ := tb1 XB0_15.out
         obtain ⟨pXB10, pXB11, pXB12, pXB13, pXB14, pXB15, pXB1l⟩ := tb6 XB1_15.out)
      | (go_at_call 15
         clear pK00 pK0l pK10 pK11 pK12 pK13 pK14 pK15 pK1l pXB00 pXB0l pXB10 pXB11 pXB12 pXB13 pXB14 pXB15 pXB1l
         refine (c_eqMod _ _ _ _ _ yX0 yY0 _ (laysAt_own HLX0.out X0_15.out) (laysAt_own HLY0.out Y0_15.out) (can_of (HPX0.out.trans HPY0.out.symm))).mono ?_
         rintro e w16 ⟨rfl, bl⟩
         have B_16 := Lib.hid (Below.next B_15.out bl)
         clear B_15
         have K0_16 := Lib.hid (K0_15.out.below bl)
         clear K0_15
         have K1_16 := Lib.hid (K1_15.out.below bl)
         clear K1_15
         have X0_16 := Lib.hid (OwnL.kept X0_15.out bl)
         clear X0_15
         have XB0_16 := Lib.hid (XB0_15.out.below bl)
         clear XB0_15
         have X1_16 := Lib.hid (OwnL.kept X1_15.out bl)
         clear X1_15
         have XB1_16 := Lib.hid (XB1_15.out.below bl)
         clear XB1_15
         have Y0_16 := Lib.hid (OwnL.kept Y0_15.out bl)
         clear Y0_15
         clear bl
         obtain ⟨pK00, pK0l⟩ := tb1 K0_16.out
         obtain ⟨pK10, pK11, pK12, pK13, pK14, pK15, pK1l⟩ := tb6 K1_16.out
         obtain ⟨pXB00, pXB0l⟩ := tb1 XB0_16.out
         obtain ⟨pXB10, pXB11, pXB12, pXB13, pXB14, pXB15, pXB1l⟩ := tb6 XB1_16.out))
  clear pK00 pK0l pK10 pK11 pK12 pK13 pK14 pK15 pK1l pXB00 pXB0l pXB10 pXB11 pXB12 pXB13 pXB14 pXB15 pXB1l
  clear Y0_16
  obtain ⟨pK00, pK0l⟩ := tb1 K0_16.out
  obtain ⟨pK10, pK11, pK12, pK13, pK14, pK15, pK1l⟩ := tb6 K1_16.out
  obtain ⟨pXB00, pXB0l⟩ := tb1 XB0_16.out
  obtain ⟨pXB10, pXB11, pXB12, pXB13, pXB14, pXB15, pXB1l⟩ := tb6 XB1_16.out
  go_wp2_with fail
  clear pK00 pK0l pK10 pK11 pK12 pK13 pK14 pK15 pK1l pXB00 pXB0l pXB10 pXB11 pXB12 pXB13 pXB14 pXB15 pXB1l
  have bl : Below w16.heap.size w16 w16.drew := (Below.refl _ _).drew
  have B_17 := Lib.hid (Below.next B_16.out bl)
  clear B_16
  have K0_17 := Lib.hid (K0_16.out.below bl)
  clear K0_16
  have K1_17 := Lib.hid (K1_16.out.below bl)
  clear K1_16
  have X0_17 := Lib.hid (OwnL.kept X0_16.out bl)
  clear X0_16
  have XB0_17 := Lib.hid (XB0_16.out.below bl)
  clear XB0_16
  have X1_17 := Lib.hid (OwnL.kept X1_16.out bl)
  clear X1_16
  have XB1_17 := Lib.hid (XB1_16.out.below bl)
  clear XB1_16
  clear bl
  obtain ⟨pK00, pK0l⟩ := tb1 K0_17.out
  obtain ⟨pK10, pK11, pK12, pK13, pK14, pK15, pK1l⟩ := tb6 K1_17.out
  obtain ⟨pXB00, pXB0l⟩ := tb1 XB0_17.out
  obtain ⟨pXB10, pXB11, pXB12, pXB13, pXB14, pXB15, pXB1l⟩ := tb6 XB1_17.out
  go_region_held3 (fun w' => w'.cell? ⟨w.heap.size, 0, none⟩ = some (.slice g0 ls0.length c0) ∧ w'.cell? ⟨w.heap.size + 1, 0, none⟩ = some (.int .i64 r1) ∧ w'.cell? ⟨w.heap.size + 1, 1, none⟩ = some (.int .i64 t1) ∧ w'.cell? ⟨w.heap.size + 1, 2, none⟩ = some (.slice a1 ws1.length c1) ∧ w'.cell? ⟨w.heap.size + 1, 3, none⟩ = some (.int .i64 e1) ∧ w'.cell? ⟨w.heap.size + 1, 4, none⟩ = some (.int .i64 f1) ∧ w'.cell? ⟨w.heap.size + 1, 5, none⟩ = some (.slice b1 bs1.length d1) ∧ w'.cell? ⟨w9.heap.size, 0, none⟩ = some (.slice (some ⟨gX0, 0, none⟩) ls0.length ls0.length) ∧ w'.cell? ⟨w11.heap.size, 0, none⟩ = some (.int .i64 r1) ∧ w'.cell? ⟨w11.heap.size, 1, none⟩ = some (.int .i64 t1) ∧ w'.cell? ⟨w11.heap.size, 2, none⟩ = some (.slice aX1 ws1.length ws1.length) ∧ w'.cell? ⟨w11.heap.size, 3, none⟩ = some (.int .i64 e1) ∧ w'.cell? ⟨w11.heap.size, 4, none⟩ = some (.int .i64 f1) ∧ w'.cell? ⟨w11.heap.size, 5, none⟩ = some (.slice bX1 bs1.length bs1.length)) (go_keep)
    (first
      | (go_at_call 13
         clear pK00 pK0l pK10 pK11 pK12 pK13 pK14 pK15 pK1l pXB00 pXB0l pXB10 pXB11 pXB12 pXB13 pXB14 pXB15 pXB1l
         refine (c_toExa r1 t1 e1 f1 _ _ _ _ ws1 bs1 _ (And.intro (HS1.out.1.kept B_17.out) (HS1.out.2.kept B_17.out)).1 (And.intro (HS1.out.1.kept B_17.out) (HS1.out.2.kept B_17.out)).2 (by have := HZ1.out; omega) (by have := HZ1.out; omega)).mono ?_
         rintro e w18 ⟨aY1, bY1, rfl, h0, h1, hap, bl⟩
         have ho := exa_own h0 h1
         have Y1_18 := Lib.hid (OwnL.base B_17.out.size _ ho)
         have B_18 := Lib.hid (Below.next B_17.out bl)
         clear B_17
         have K0_18 := Lib.hid (K0_17.out.below bl)
         clear K0_17
         have K1_18 := Lib.hid (K1_17.out.below bl)
         clear K1_17
         have X0_18 := Lib.hid (OwnL.kept X0_17.out bl)
         clear X0_17
         have XB0_18 := Lib.hid (XB0_17.out.below bl)
         clear XB0_17
         have X1_18 := Lib.hid (OwnL.kept X1_17.out bl)
         clear X1_17
         have XB1_18 := Lib.hid (XB1_17.out.below bl)
         clear XB1_17
         clear h0 h1 hap ho
         clear bl
         obtain ⟨pK00, pK0l⟩ := tb1 K0_18.out
         obtain ⟨pK10, pK11, pK12, pK13, pK14, pK15, pK1l⟩ := tb6 K1_18.out
         obtain ⟨pXB00, pXB0l⟩ := tb1 XB0_18.out
         obtain ⟨pXB10, pXB11, pXB12, pXB13, pXB14, pXB15, pXB1l⟩ := tb6 XB1_18.out)
      | (go_at_call 16
         clear pK00 pK0l pK10 pK11 pK12 pK13 pK14 pK15 pK1l pXB00 pXB0l pXB10 pXB11 pXB12 pXB13 pXB14 pXB15 pXB1l
         refine (c_eqExa r1 t1 e1 f1 _ _ _ _ _ _ _ _ ws1 bs1 ws1 bs1 _ (exa_at X1_18.out).1 (exa_at X1_18.out).2 (exa_at Y1_18.out).1 (exa_at Y1_18.out).2 rfl rfl).mono ?_
         rintro e w19 ⟨rfl, bl⟩
         have B_19 := Lib.hid (Below.next B_18.out bl)
         clear B_18
         have K0_19 := Lib.hid (K0_18.out.below bl)
         clear K0_18
         have K1_19 := Lib.hid (K1_18.out.below bl)
         clear K1_18
         have X0_19 := Lib.hid (OwnL.kept X0_18.out bl)
         clear X0_18
         have XB0_19 := Lib.hid (XB0_18.out.below bl)
         clear XB0_18
         have X1_19 := Lib.hid (OwnL.kept X1_18.out bl)
         clear X1_18
         have XB1_19 := Lib.hid (XB1_18.out.below bl)
         clear XB1_18
         have Y1_19 := Lib.hid (OwnL.kept Y1_18.out bl)
         clear Y1_18
         clear bl
         obtain ⟨pK00, pK0l⟩ := tb1 K0_19.out
         obtain ⟨pK10, pK11, pK12, pK13, pK14, pK15, pK1l⟩ := tb6 K1_19.out
         obtain ⟨pXB00, pXB0l⟩ := tb1 XB0_19.out
         obtain ⟨pXB10, pXB11, pXB12, pXB13, pXB14, pXB15, pXB1l⟩ := tb6 XB1_19.out))
  clear pK00 pK0l pK10 pK11 pK12 pK13 pK14 pK15 pK1l pXB00 pXB0l pXB10 pXB11 pXB12 pXB13 pXB14 pXB15 pXB1l
  clear Y1_19
  obtain ⟨pK00, pK0l⟩ := tb1 K0_19.out
  obtain ⟨pK10, pK11, pK12, pK13, pK14, pK15, pK1l⟩ := tb6 K1_19.out
  obtain ⟨pXB00, pXB0l⟩ := tb1 XB0_19.out
  obtain ⟨pXB10, pXB11, pXB12, pXB13, pXB14, pXB15, pXB1l⟩ := tb6 XB1_19.out
  go_wp2_with fail
  clear pK00 pK0l pK10 pK11 pK12 pK13 pK14 pK15 pK1l pXB00 pXB0l pXB10 pXB11 pXB12 pXB13 pXB14 pXB15 pXB1l
  go_ret
  exact ⟨rfl, B_19.out⟩

theorem walk (v0 : Value) (v1 : Value) (w : World) (w0 : ∃ x : ModA, v0 = .agg #[.slice x.g x.ls.length x.c] ∧ LaysAt w x.g x.ls.length x.c x.ls) (w1 : ∃ q : ExaA, v1 = .agg #[.int .i64 q.r, .int .i64 q.c, .slice q.a q.x.length q.ca, .int .i64 q.r', .int .i64 q.c', .slice q.b q.y.length q.cb] ∧ IsFloats .f32 w q.a q.x.length q.ca q.x ∧ IsFloats .f32 w q.b q.y.length q.cb q.y) :
    Calls Try.prog 3 #[v0, v1] w fun e w' => e = .returned (.bool true) ∧ Below w.heap.size w w' := by
  obtain ⟨⟨g0, c0, ls0⟩, rfl, w0⟩ := w0
  obtain ⟨⟨r1, t1, e1, f1, ws1, bs1, a1, b1, c1, d1⟩, rfl, w1⟩ := w1
  dsimp only at w1
  have n1 : ws1.length ≤ 9223372036854775807 := by have h1 := w1.1.1; have h2 := w1.1.2.1; unfold maxLen at h2; omega
  have n1' : bs1.length ≤ 9223372036854775807 := by have h1 := w1.2.1; have h2 := w1.2.2.1; unfold maxLen at h2; omega
  by_cases hL0 : (ls0.length + laySum (ls0.map LayA.p)) ≤ 1048576
  case neg =>
    have HN := Lib.hid (show 1048576 < ls0.length + laySum (ls0.map LayA.p) by omega)
    have HS := Lib.hid w0
    have bl := Lib.hid ((((Below.refl w.heap.size w).alloc (by simp) (.cells #[.slice g0 ls0.length c0] 24)).alloc (by simp) (.cells #[.int .i64 r1, .int .i64 t1, .slice a1 ws1.length c1, .int .i64 e1, .int .i64 f1, .slice b1 bs1.length d1] 29)))
    clear hL0 w0
    go_enter Try.func3, Try.ntmps3
    go_wp2_with fail
    refine (c_szMod_no _ _ _ 1048576 ls0 _ (HS.out.kept bl.out) (Nat.le_refl _) HN.out).mono ?_
    rintro e w1 ⟨rfl, hb⟩
    have HB := Lib.hid (Below.next bl.out hb)
    clear hb bl
    go_wp2
    go_ret
    exact ⟨rfl, HB.out⟩
  case pos =>
    by_cases hL1 : (ls0.length + laySum (ls0.map LayA.p)) + (ws1.length + bs1.length) ≤ 1048576
    case neg =>
      have HS0 := Lib.hid w0
      have HS1 := Lib.hid w1
      obtain ⟨l0, hl0⟩ : ∃ l, 1048576 - (ls0.length + laySum (ls0.map LayA.p)) = l := ⟨_, rfl⟩
      have hl0' : l0 ≤ 1048576 := by omega
      have HQ0 := Lib.hid (show ls0.length + laySum (ls0.map LayA.p) ≤ 1048576 by omega)
      have HE0 := Lib.hid hl0
      have hp0 : (0 : Int) ≤ (l0 : Int) := by omega
      have HN := Lib.hid (show l0 < ws1.length + bs1.length by omega)
      clear hl0 hL1 hL0 w0 w1
      go_enter Try.func3, Try.ntmps3
      go_wp2_with fail
      have B_0 := Lib.hid (Below.refl w.heap.size w)
      have bl := (Below.refl (w).heap.size (w)).alloc (Nat.le_refl _) (.cells #[.slice g0 ls0.length c0] 24)
      have K0_1 := Lib.hid (Blk.new (w) 24 #[.slice g0 ls0.length c0])
      have B_1 := Lib.hid (Below.next B_0.out bl)
      clear B_0
      clear bl
      have bl := (Below.refl ((w).alloc (.cells #[.slice g0 ls0.length c0] 24)).heap.size ((w).alloc (.cells #[.slice g0 ls0.length c0] 24))).alloc (Nat.le_refl _) (.cells #[.int .i64 r1, .int .i64 t1, .slice a1 ws1.length c1, .int .i64 e1, .int .i64 f1, .slice b1 bs1.length d1] 29)
      have K1_2 := Lib.hid (Blk.new ((w).alloc (.cells #[.slice g0 ls0.length c0] 24)) 29 #[.int .i64 r1, .int .i64 t1, .slice a1 ws1.length c1, .int .i64 e1, .int .i64 f1, .slice b1 bs1.length d1])
      have B_2 := Lib.hid (Below.next B_1.out bl)
      clear B_1
      have K0_2 := Lib.hid (K0_1.out.below bl)
      clear K0_1
      clear bl
      generalize ((w).alloc (.cells #[.slice g0 ls0.length c0] 24)).alloc (.cells #[.int .i64 r1, .int .i64 t1, .slice a1 ws1.length c1, .int .i64 e1, .int .i64 f1, .slice b1 bs1.length d1] 29) = w2 at B_2 K0_2 K1_2 ⊢
      simp only [World.size_alloc] at K1_2
      refine (c_szMod _ _ _ _ _ ls0 _ (HS0.out.kept B_2.out) (Nat.le_refl _) HQ0.out HE0.out).mono ?_
      rintro e w3 ⟨rfl, bl⟩
      have B_3 := Lib.hid (Below.next B_2.out bl)
      clear B_2
      have K0_3 := Lib.hid (K0_2.out.below bl)
      clear K0_2
      have K1_3 := Lib.hid (K1_2.out.below bl)
      clear K1_2
      clear bl
      obtain ⟨pK00, pK0l⟩ := tb1 K0_3.out
      obtain ⟨pK10, pK11, pK12, pK13, pK14, pK15, pK1l⟩ := tb6 K1_3.out
      go_wp2_with fail
      clear pK00 pK0l pK10 pK11 pK12 pK13 pK14 pK15 pK1l
      refine (c_szExa_no _ _ _ _ _ _ _ _ _ _ l0 _ hl0' HN.out n1 n1').mono ?_
      rintro e w4 ⟨rfl, bl⟩
      have B_4 := Lib.hid (Below.next B_3.out bl)
      clear B_3
      have K0_4 := Lib.hid (K0_3.out.below bl)
      clear K0_3
      have K1_4 := Lib.hid (K1_3.out.below bl)
      clear K1_3
      clear bl
      go_wp2
      go_ret
      exact ⟨rfl, B_4.out⟩
    case pos =>
      exact core ls0 r1 t1 e1 f1 ws1 bs1 g0 c0 a1 b1 c1 d1 w w0 w1 (vCountCorrect (ls0.map LayA.p) r1 t1 e1 f1 ws1 bs1).1 (vCountCorrect (ls0.map LayA.p) r1 t1 e1 f1 ws1 bs1).2 hL0 hL1  (fun g0_ c0_ y0_ a1_ b1_ c1_ d1_ w hp0 h0 h1 => t_sCountCorrect (ls0.map LayA.p) ls0.length g0_ c0_ y0_ r1 t1 e1 f1 ws1 bs1 a1_ b1_ c1_ d1_ w hp0 h0 h1) (fun g0_ c0_ y0_ a1_ b1_ c1_ d1_ w hp0 h0 h1 => t_iCountCorrect (ls0.map LayA.p) ls0.length g0_ c0_ y0_ r1 t1 e1 f1 ws1 bs1 a1_ b1_ c1_ d1_ w hp0 h0 h1)

/-! the row's step -/
set_option maxRecDepth 100000 in
theorem lifted (os : Os) (started : os.Started) (H : Type) (enc : TypeId × Value → H) :
    ReturnsInHanded {} Try.checked os 3 .any (Rows.fnExactCountCorrectSpec.pre6 enc Try.prog Try.f3 Rows.fnExactCountCorrectRow.domain false) (Rows.fnExactCountCorrectSpec.post enc Try.prog Try.f3 false true false false) := by
  refine returnsInHanded_of_change (C := Try.checked) own started (by kernel_rfl) Try.func3
    (ChangeSpec.witness6 (enc := enc) (C := Try.checked) false ⟨#[], #[.agg #[.slice none 0 0], .agg #[.int .i64 0, .int .i64 0, .slice none 0 0, .int .i64 0, .int .i64 0, .slice none 0 0]], []⟩ 8 (by kernel_rfl) (by kernel_rfl) (by kernel_rfl) (by kernel_rfl)) ?_
  intro W base args ds gs before hval0 hW hcnd _
  have hval : ∀ (j : Nat) t v, Try.f3.params[j]? = some t → args[j]? = some v → Value.okWide Try.prog W .any base t v := hval0
  have hW' := hW
  obtain ⟨p, q, hA0, hV, rfl, hfz, hnd⟩ := hW
  have hA : DataW.TrodAll enc Try.prog W 0 (fun _ => true) true Try.f3.params.toList args.toList ds p := hA0
  rw [Try.params3] at hA hval
  obtain ⟨v0, vs0, d0, ds0, p0, q0, hargs, rfl, rfl, h0, rest0⟩ := trodAll_cons hA
  obtain ⟨v1, vs1, d1, ds1, p1, q1, rfl, rfl, rfl, h1, rest1⟩ := trodAll_cons rest0
  obtain ⟨rfl, rfl, rfl⟩ := trodAll_nil rest1
  obtain rfl : args = #[v0, v1] := by cases args; simp_all
  obtain ⟨rfl, rfl⟩ := trodVars_none hV
  have k0 := h0
  have lt0 : ∀ x ∈ p0, x.block < W.heap.size := by obtain ⟨m, hm⟩ := k0; exact DataW.trod_lt m _ _ _ hm
  have w0 := open_Mod (hval 0 24 v0 rfl rfl) h0
  have k1 := h1
  have lt1 : ∀ x ∈ p1, x.block < W.heap.size := by obtain ⟨m, hm⟩ := k1; exact DataW.trod_lt m _ _ _ hm
  have w1 := open_Exa (hval 1 29 v1 rfl rfl) h1
  clear hA0 hval0
  refine (walk _ _ W w0 w1).mono fun e W' ⟨he, bel⟩ => ?_
  subst he
  exact ⟨_, rfl, _, _, _, [], _, [], hW', trodAll_mk1 (shut_bool Try.underlying4 _), (trodAll_cons_mk (Below.trod laidOut (by kernel_rfl) (of_decide_eq_true (by kernel_rfl)) k0 bel lt0) (trodAll_cons_mk (Below.trod laidOut (by kernel_rfl) (of_decide_eq_true (by kernel_rfl)) k1 bel lt1) trodAll_mk0)), rfl, bel.frame _, fun h => by cases h⟩

theorem named_ : Try.pinned.checked.prog.funcNamed Rows.fnExactCountCorrectRow.func = some 3 := by kernel_rfl
theorem fk1 : (Rows.fnExactCountCorrectRow.wf (OpenSpec.ofChange Rows.fnExactCountCorrectSpec)) = true := by kernel_rfl
theorem fk4 : (Try.f3.params.all (Try.pinned.checked.prog.readableRec ·)) = true := by kernel_rfl
theorem fk5 : (namedTie Try.pinned.checked.prog Rows.fnExactCountCorrectRow.named Rows.fnExactCountCorrectSpec.vars) = true := by kernel_rfl
theorem fk6 : ((Rows.fnExactCountCorrectRow.stops == [])) = true := by kernel_rfl
theorem fk8 : ((Rows.fnExactCountCorrectRow.knobs == [])) = true := by kernel_rfl
theorem fk10 : ((Rows.fnExactCountCorrectRow.inPlace == Try.pinned.checked.prog.inPlace 3)) = true := by kernel_rfl
theorem fk11 : ((Rows.fnExactCountCorrectRow.unfollowed == Try.pinned.checked.prog.unfollowed 3)) = true := by kernel_rfl
theorem fk12 : ((Rows.fnExactCountCorrectRow.recurses == Try.pinned.checked.prog.recurses 3)) = true := by kernel_rfl
theorem fk13 : ((Rows.fnExactCountCorrectRow.named == Try.pinned.checked.prog.varsNamed 3)) = true := by kernel_rfl
theorem fk14 : ((Rows.fnExactCountCorrectRow.maps == (Try.f3.params.toList ++ Rows.fnExactCountCorrectSpec.plain.varTypes Try.pinned.checked.prog).any (Try.pinned.checked.prog.mapsRec ·))) = true := by kernel_rfl
theorem fk15 : ((Rows.fnExactCountCorrectRow.ifaces == (Try.f3.params.toList ++ Rows.fnExactCountCorrectSpec.plain.varTypes Try.pinned.checked.prog).any (Try.pinned.checked.prog.ifacesRec ·))) = true := by kernel_rfl
theorem fk16 : ((Rows.fnExactCountCorrectRow.mapsOut == Try.pinned.checked.prog.mapsAmong Try.f3.resultTypes.toList)) = true := by kernel_rfl
theorem fk17 : ((Rows.fnExactCountCorrectRow.loops == (Try.f3.params.toList ++ Rows.fnExactCountCorrectSpec.plain.varTypes Try.pinned.checked.prog).any (Try.pinned.checked.prog.loopsFrom ·))) = true := by kernel_rfl
theorem fk18 : ((Rows.fnExactCountCorrectRow.wideKeys == (Try.f3.params.toList ++ Rows.fnExactCountCorrectSpec.plain.varTypes Try.pinned.checked.prog ++ Try.f3.resultTypes.toList).any (Try.pinned.checked.prog.wideKeysFrom ·))) = true := by kernel_rfl
theorem fk19 : (Rows.fnExactCountCorrectSpec.vars.all (Try.pinned.checked.prog.varReadable ·)) = true := by kernel_rfl
theorem fk20 : (Try.f3.resultTypes.all (fun t => Try.pinned.checked.prog.readableRec t && decide (t < Try.pinned.checked.prog.types.size))) = true := by kernel_rfl
theorem fk21 : ((Rows.fnExactCountCorrectRow.ifacesOut == Try.f3.resultTypes.toList.any (Try.pinned.checked.prog.ifacesRec ·))) = true := by kernel_rfl
theorem fk22 : ((Rows.fnExactCountCorrectRow.loopsOut == Try.f3.resultTypes.toList.any (Try.pinned.checked.prog.loopsFrom ·))) = true := by kernel_rfl
theorem fk23 : (Rows.fnExactCountCorrectRow.plainKeys == Try.pinned.checked.prog.plainKeys) = true := by rw [cls_keys]; kernel_rfl
theorem fk24 : (Rows.fnExactCountCorrectRow.shortTexts.isNone) = true := by kernel_rfl
theorem fk27 : (Rows.fnExactCountCorrectRow.lifted == Try.pinned.checked.prog.liftsFinal) = true := by rw [cls_lift]; kernel_rfl
theorem fk28 : (Try.pinned.checked.prog.make == some Rows.fnExactCountCorrectRow.make) = true := by rw [cls_make]; kernel_rfl
theorem fk29 : ((Rows.fnExactCountCorrectRow.kinds == (if Rows.fnExactCountCorrectRow.domain.isEmpty then [] else Try.f3.params.toList.map fun t => match Try.pinned.checked.prog.underlying t with | some (.int k) => some k | _ => none))) = true := by kernel_rfl
theorem fk30 : ((Rows.fnExactCountCorrectRow.pinned == Rows.fnExactCountCorrectRow.pinnedBy)) = true := by kernel_rfl
theorem fk31 : ((Rows.fnExactCountCorrectRow.veiled == (Try.f3.params.toList ++ Rows.fnExactCountCorrectSpec.plain.varTypes Try.pinned.checked.prog ++ Try.f3.resultTypes.toList).any (Try.pinned.checked.prog.veiledRec ·))) = true := by kernel_rfl
theorem fk32 : (Rows.fnExactCountCorrectRow.veiledFits Try.pinned.checked.prog Try.f3.params.toList (Try.f3.params.toList ++ Rows.fnExactCountCorrectSpec.plain.varTypes Try.pinned.checked.prog ++ Try.f3.resultTypes.toList)) = true := by kernel_rfl
set_option maxRecDepth 100000 in
theorem closed : joinedFacts Try.pinned.checked.prog 3 Try.f3 Rows.fnExactCountCorrectSpec Rows.fnExactCountCorrectRow = true := (and2 (and2 (and2 (and2 (and2 (and2 (and2 (and2 (and2 (and2 (and2 (and2 (and2 (and2 (and2 (and2 (and2 (and2 (and2 (and2 (and2 (and2 (and2 (and2 (and2 (and2 (and2 (and2 (and2 (and2 (and2 fk1 cls_laid) cls_maps) fk4) fk5) fk6) cls_stops) fk8) cls_knobs) fk10) fk11) fk12) fk13) fk14) fk15) fk16) fk17) fk18) fk19) fk20) fk21) fk22) fk23) fk24) cls_heard) cls_enter) fk27) fk28) fk29) fk30) fk31) fk32)
theorem over : Rows.fnExactCountCorrectRow.holds Try.pinned (OpenSpec.ofChange Rows.fnExactCountCorrectSpec) :=
  OpenClaim.holds_of_wide 3 Try.f3 rfl rfl rfl rfl rfl rfl rfl ⟨rfl, rfl, rfl, rfl, rfl⟩ rfl rfl rfl rfl rfl named_ Try.func3 closed
    (of_decide_eq_true (by kernel_rfl)) (by unfold Func.isWrapper; first | (rw [if_pos (by decide +kernel)]; kernel_rfl) | (rw [if_neg (by decide +kernel)]; exact ⟨rfl, rfl⟩))
    (fun os started H enc _ => lifted os started H enc)

/-- the statement -/
theorem proved : Rows.FnExactCountCorrectSaid := over
end Go.Proofs.Ytpdgpoonblldgaa.fnExactCountCorrect
