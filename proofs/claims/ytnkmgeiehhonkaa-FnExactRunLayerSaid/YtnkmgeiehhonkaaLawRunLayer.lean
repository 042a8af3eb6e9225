/-
  For every layer and every list of numbers, RunLayer answers as its model, writes into no argument, and its answer owns its memory.
-/
import Derived.Test.YtnkmgeiehhonkaaCls
import Derived.Test.YtnkmgeiehhonkaaRml
import Derived.Test.YtnkmgeiehhonkaaMark
import Derived.ChangeOld
import Derived.Below
namespace Go.Proofs.Ytnkmgeiehhonkaa.fnExactRunLayer
open Go.ChangeShapes Go.WideShapes Go.ChangeAt Go.RowKit
open Go.ChangeMaps (open_string shut_string)
set_option linter.unusedVariables false

set_option maxHeartbeats 4000000 in
set_option maxRecDepth 100000 in
/-- for any contracts of the model and of the program that say the same -/
theorem core (k0 i0 o0 : Int) (ws0 bs0 : List Nat) (z1 : List Nat) (a0 b0 : Option Addr) (c0 d0 : Nat) (a1 : Option Addr) (c1 : Nat) (w : World) (w0' : IsFloats .f32 w a0 ws0.length c0 ws0 ∧ IsFloats .f32 w b0 bs0.length d0 bs0) (w1' : IsFloats .f32 w a1 z1.length c1 z1) (b : Bool) (zs : List Nat) (hL0 : (ws0.length + bs0.length) ≤ 1048576) (hL1 : z1.length ≤ 1048576) (hz : zs.length ≤ 1048576)
    (CS' : ∀ (a0 b0 : Option Addr) (c0 d0 : Nat) (a1 : Option Addr) (c1 : Nat) (w : World), (IsFloats .f32 w a0 ws0.length c0 ws0 ∧ IsFloats .f32 w b0 bs0.length d0 bs0) → (IsFloats .f32 w a1 z1.length c1 z1) → Calls Try.prog 55 #[.agg #[.int .i64 k0, .int .i64 i0, .int .i64 o0, .slice a0 ws0.length c0, .slice b0 bs0.length d0], .slice a1 z1.length c1] w (RetL b zs w))
    (CI' : ∀ (a0 b0 : Option Addr) (c0 d0 : Nat) (a1 : Option Addr) (c1 : Nat) (w : World), (IsFloats .f32 w a0 ws0.length c0 ws0 ∧ IsFloats .f32 w b0 bs0.length d0 bs0) → (IsFloats .f32 w a1 z1.length c1 z1) → Calls Try.prog 58 #[.agg #[.int .i64 k0, .int .i64 i0, .int .i64 o0, .slice a0 ws0.length c0, .slice b0 bs0.length d0], .slice a1 z1.length c1] w (RetL b zs w)) :
    Calls Try.prog 9 #[.agg #[.int .i64 k0, .int .i64 i0, .int .i64 o0, .slice a0 ws0.length c0, .slice b0 bs0.length d0], .slice a1 z1.length c1] w fun e w' => e = .returned (.bool true) ∧ Below w.heap.size w w' := by
  have HS0 := Lib.hid w0'
  have HZ0 := Lib.hid (show ws0.length + bs0.length ≤ 1048576 by omega)
  have HS1 := Lib.hid w1'
  have HZ1 := Lib.hid (show z1.length ≤ 1048576 by omega)
  have CS := Lib.hid CS'
  have CI := Lib.hid CI'
  have hs1 : z1.length ≤ 1048576 := by omega
  obtain ⟨l0, hl0⟩ : ∃ l, 1048576 - (ws0.length + bs0.length) = l := ⟨_, rfl⟩
  have hl0' : l0 ≤ 1048576 := by omega
  have HQ0 := Lib.hid (show ws0.length + bs0.length ≤ 1048576 by omega)
  have HE0 := Lib.hid hl0
  have hp0 : (0 : Int) ≤ (l0 : Int) := by omega
  obtain ⟨m0, hm0⟩ : ∃ m, 1 + (ws0.length + bs0.length) = m := ⟨_, rfl⟩
  obtain ⟨m1, hm1⟩ : ∃ m, m0 + (z1.length) = m := ⟨_, rfl⟩
  have hm0' : m0 ≤ 4194304 := by omega
  have hn0' : (0 : Int) ≤ (m0 : Int) := by omega
  have HM0 := Lib.hid hm0
  have hm1' : m1 ≤ 8388608 := by omega
  have hn1' : (0 : Int) ≤ (m1 : Int) := by omega
  have HM1 := Lib.hid hm1
  clear hm1 hm0
  clear w0' w1' CS' CI' hl0 hL0 hL1
  go_enter Try.func9, Try.ntmps9
  go_wp2_with fail
  have B_0 := Lib.hid (Below.refl w.heap.size w)
  have bl := (Below.refl (w).heap.size (w)).alloc (Nat.le_refl _) (.cells #[.int .i64 k0, .int .i64 i0, .int .i64 o0, .slice a0 ws0.length c0, .slice b0 bs0.length d0] 75)
  have K0_1 := Lib.hid (Blk.new (w) 75 #[.int .i64 k0, .int .i64 i0, .int .i64 o0, .slice a0 ws0.length c0, .slice b0 bs0.length d0])
  have B_1 := Lib.hid (Below.next B_0.out bl)
  clear B_0
  clear bl
  generalize (w).alloc (.cells #[.int .i64 k0, .int .i64 i0, .int .i64 o0, .slice a0 ws0.length c0, .slice b0 bs0.length d0] 75) = w1 at B_1 K0_1 ⊢
  refine (c_szLay _ _ _ _ _ _ _ _ _ _ _ _ HQ0.out (Nat.le_refl _) HE0.out).mono ?_
  rintro e w2 ⟨rfl, bl⟩
  have B_2 := Lib.hid (Below.next B_1.out bl)
  clear B_1
  have K0_2 := Lib.hid (K0_1.out.below bl)
  clear K0_1
  clear bl
  obtain ⟨pK00, pK01, pK02, pK03, pK04, pK0l⟩ := tb5 K0_2.out
  go_wp2_with fail
  clear pK00 pK01 pK02 pK03 pK04 pK0l
  refine (c_toLay k0 i0 o0 _ _ _ _ ws0 bs0 _ (And.intro (HS0.out.1.kept B_2.out) (HS0.out.2.kept B_2.out)).1 (by have := HZ0.out; omega) (And.intro (HS0.out.1.kept B_2.out) (HS0.out.2.kept B_2.out)).2 (by have := HZ0.out; omega)).mono ?_
  rintro e w3 ⟨aT0, bT0, rfl, h0, h1, hap, bl⟩
  have ho := (LayA.own_iff (x := (⟨⟨k0, i0, o0, ws0, bs0⟩, aT0, ws0.length, bT0, bs0.length⟩ : LayA))).2 ⟨h0, h1⟩
  have T0_3 := Lib.hid (OwnL.base B_2.out.size _ ho)
  have B_3 := Lib.hid (Below.next B_2.out bl)
  clear B_2
  have K0_3 := Lib.hid (K0_2.out.below bl)
  clear K0_2
  clear h0 h1 hap ho
  clear bl
  obtain ⟨pK00, pK01, pK02, pK03, pK04, pK0l⟩ := tb5 K0_3.out
  go_wp2_with fail
  clear pK00 pK01 pK02 pK03 pK04 pK0l
  refine (c_toFloats _ _ _ z1 _ (HS1.out.kept B_3.out) HZ1.out).mono ?_
  rintro e w4 ⟨aT1, rfl, hf, bl⟩
  have ho := flL_own.2 hf
  have T1_4 := Lib.hid (OwnL.base B_3.out.size _ ho)
  have B_4 := Lib.hid (Below.next B_3.out bl)
  clear B_3
  have K0_4 := Lib.hid (K0_3.out.below bl)
  clear K0_3
  have T0_4 := Lib.hid (OwnL.kept T0_3.out bl)
  clear T0_3
  clear hf ho
  clear bl
  obtain ⟨pK00, pK01, pK02, pK03, pK04, pK0l⟩ := tb5 K0_4.out
  go_wp2_with fail
  clear pK00 pK01 pK02 pK03 pK04 pK0l
  refine (CS.out _ _ _ _ _ _ _ ((LayA.at_iff (x := (⟨⟨k0, i0, o0, ws0, bs0⟩, aT0, ws0.length, bT0, bs0.length⟩ : LayA))).1 (OwnL.at _ T0_4.out)) (flL_at.1 (OwnL.at _ T1_4.out))).mono ?_
  rintro e w5 ⟨aS, capS, yS, rfl, hf, hy, bl⟩
  have HYS := Lib.hid hy
  have ho := flL_own.2 hf
  have S_5 := Lib.hid (OwnL.base B_4.out.size _ ho)
  have B_5 := Lib.hid (Below.next B_4.out bl)
  clear B_4
  have K0_5 := Lib.hid (K0_4.out.below bl)
  clear K0_4
  have T0_5 := Lib.hid (OwnL.kept T0_4.out bl)
  clear T0_4
  have T1_5 := Lib.hid (OwnL.kept T1_4.out bl)
  clear T1_4
  clear hf hy ho
  clear bl
  clear T0_5
  clear T1_5
  obtain ⟨pK00, pK01, pK02, pK03, pK04, pK0l⟩ := tb5 K0_5.out
  go_wp2_with fail
  clear pK00 pK01 pK02 pK03 pK04 pK0l
  refine (c_toLay k0 i0 o0 _ _ _ _ ws0 bs0 _ (And.intro (HS0.out.1.kept B_5.out) (HS0.out.2.kept B_5.out)).1 (by have := HZ0.out; omega) (And.intro (HS0.out.1.kept B_5.out) (HS0.out.2.kept B_5.out)).2 (by have := HZ0.out; omega)).mono ?_
  rintro e w6 ⟨aX0, bX0, rfl, h0, h1, hap, bl⟩
  have ho := (LayA.own_iff (x := (⟨⟨k0, i0, o0, ws0, bs0⟩, aX0, ws0.length, bX0, bs0.length⟩ : LayA))).2 ⟨h0, h1⟩
  have D_X0_K0 := Lib.hid (apart_box K0_5.out ho)
  have D_X0_S := Lib.hid (apart_new S_5.out ho)
  have NDX0 := Lib.hid (LayA.nodup (x := (⟨⟨k0, i0, o0, ws0, bs0⟩, aX0, ws0.length, bX0, bs0.length⟩ : LayA)) hap)
  have X0_6 := Lib.hid (OwnL.base B_5.out.size _ ho)
  have B_6 := Lib.hid (Below.next B_5.out bl)
  clear B_5
  have K0_6 := Lib.hid (K0_5.out.below bl)
  clear K0_5
  have S_6 := Lib.hid (OwnL.kept S_5.out bl)
  clear S_5
  clear h0 h1 hap ho
  clear bl
  obtain ⟨pK00, pK01, pK02, pK03, pK04, pK0l⟩ := tb5 K0_6.out
  go_wp2_with fail
  clear pK00 pK01 pK02 pK03 pK04 pK0l
  have D_X0_XB0 := Lib.hid (apart_next X0_6.out)
  have bl := (Below.refl w6.heap.size w6).alloc (Nat.le_refl _) (.cells #[.int .i64 k0, .int .i64 i0, .int .i64 o0, .slice aX0 ws0.length ws0.length, .slice bX0 bs0.length bs0.length] 78)
  have XB0_7 := Lib.hid (Blk.new w6 78 #[.int .i64 k0, .int .i64 i0, .int .i64 o0, .slice aX0 ws0.length ws0.length, .slice bX0 bs0.length bs0.length])
  have B_7 := Lib.hid (Below.next B_6.out bl)
  clear B_6
  have K0_7 := Lib.hid (K0_6.out.below bl)
  clear K0_6
  have S_7 := Lib.hid (OwnL.kept S_6.out bl)
  clear S_6
  have X0_7 := Lib.hid (OwnL.kept X0_6.out bl)
  clear X0_6
  clear bl
  generalize w6.alloc (.cells #[.int .i64 k0, .int .i64 i0, .int .i64 o0, .slice aX0 ws0.length ws0.length, .slice bX0 bs0.length bs0.length] 78) = w7 at B_7 K0_7 S_7 X0_7 XB0_7 ⊢
  obtain ⟨pK00, pK01, pK02, pK03, pK04, pK0l⟩ := tb5 K0_7.out
  obtain ⟨pXB00, pXB01, pXB02, pXB03, pXB04, pXB0l⟩ := tb5 XB0_7.out
  try go_wp2_with fail
  clear pK00 pK01 pK02 pK03 pK04 pK0l pXB00 pXB01 pXB02 pXB03 pXB04 pXB0l
  obtain ⟨pK00, pK01, pK02, pK03, pK04, pK0l⟩ := tb5 K0_7.out
  obtain ⟨pXB00, pXB01, pXB02, pXB03, pXB04, pXB0l⟩ := tb5 XB0_7.out
  go_wp2_with fail
  clear pK00 pK01 pK02 pK03 pK04 pK0l pXB00 pXB01 pXB02 pXB03 pXB04 pXB0l
  refine (c_toFloats _ _ _ z1 _ (HS1.out.kept B_7.out) HZ1.out).mono ?_
  rintro e w8 ⟨aX1, rfl, hf, bl⟩
  have ho := flL_own.2 hf
  have D_X1_K0 := Lib.hid (apart_box K0_7.out ho)
  have D_X1_S := Lib.hid (apart_new S_7.out ho)
  have D_X0_X1 := Lib.hid (apart_symm (apart_new X0_7.out ho))
  have D_X1_X0 := Lib.hid (apart_new X0_7.out ho)
  have D_X1_XB0 := Lib.hid (apart_box XB0_7.out ho)
  have X1_8 := Lib.hid (OwnL.base B_7.out.size _ ho)
  have B_8 := Lib.hid (Below.next B_7.out bl)
  clear B_7
  have K0_8 := Lib.hid (K0_7.out.below bl)
  clear K0_7
  have S_8 := Lib.hid (OwnL.kept S_7.out bl)
  clear S_7
  have X0_8 := Lib.hid (OwnL.kept X0_7.out bl)
  clear X0_7
  have XB0_8 := Lib.hid (XB0_7.out.below bl)
  clear XB0_7
  clear hf ho
  clear bl
  obtain ⟨pK00, pK01, pK02, pK03, pK04, pK0l⟩ := tb5 K0_8.out
  obtain ⟨pXB00, pXB01, pXB02, pXB03, pXB04, pXB0l⟩ := tb5 XB0_8.out
  go_wp2_with fail
  clear pK00 pK01 pK02 pK03 pK04 pK0l pXB00 pXB01 pXB02 pXB03 pXB04 pXB0l
  refine (CI.out _ _ _ _ _ _ _ ((LayA.at_iff (x := (⟨⟨k0, i0, o0, ws0, bs0⟩, aX0, ws0.length, bX0, bs0.length⟩ : LayA))).1 (OwnL.at _ X0_8.out)) (flL_at.1 (OwnL.at _ X1_8.out))).mono ?_
  rintro e w9 ⟨aG, capG, yG, rfl, hf, hy, bl⟩
  have HYG := Lib.hid hy
  have ho := flL_own.2 hf
  have D_G_K0 := Lib.hid (apart_box K0_8.out ho)
  have D_G_S := Lib.hid (apart_new S_8.out ho)
  have D_X0_G := Lib.hid (apart_symm (apart_new X0_8.out ho))
  have D_G_X0 := Lib.hid (apart_new X0_8.out ho)
  have D_G_XB0 := Lib.hid (apart_box XB0_8.out ho)
  have D_X1_G := Lib.hid (apart_symm (apart_new X1_8.out ho))
  have D_G_X1 := Lib.hid (apart_new X1_8.out ho)
  have LG := Lib.hid (hf.lenle HYG.out hz)
  have G_9 := Lib.hid (OwnL.base B_8.out.size _ ho)
  have B_9 := Lib.hid (Below.next B_8.out bl)
  clear B_8
  have K0_9 := Lib.hid (K0_8.out.below bl)
  clear K0_8
  have S_9 := Lib.hid (OwnL.kept S_8.out bl)
  clear S_8
  have X0_9 := Lib.hid (OwnL.kept X0_8.out bl)
  clear X0_8
  have XB0_9 := Lib.hid (XB0_8.out.below bl)
  clear XB0_8
  have X1_9 := Lib.hid (OwnL.kept X1_8.out bl)
  clear X1_8
  clear hf hy ho
  clear bl
  obtain ⟨pK00, pK01, pK02, pK03, pK04, pK0l⟩ := tb5 K0_9.out
  obtain ⟨pXB00, pXB01, pXB02, pXB03, pXB04, pXB0l⟩ := tb5 XB0_9.out
  go_wp2_with fail
  clear pK00 pK01 pK02 pK03 pK04 pK0l pXB00 pXB01 pXB02 pXB03 pXB04 pXB0l
  refine (c_eqFloats _ _ _ _ yG yS _ (flL_at.1 (OwnL.at _ G_9.out)) (flL_at.1 (OwnL.at _ S_9.out)) (HYG.out.trans HYS.out.symm)).mono ?_
  rintro e w10 ⟨rfl, dn⟩
  have bl : Below w9.heap.size w9 w10 := by first | exact dn.below | exact (below_drewN (Below.refl _ _) _).trans dn.below
  clear dn
  have B_10 := Lib.hid (Below.next B_9.out bl)
  clear B_9
  have K0_10 := Lib.hid (K0_9.out.below bl)
  clear K0_9
  have S_10 := Lib.hid (OwnL.kept S_9.out bl)
  clear S_9
  have X0_10 := Lib.hid (OwnL.kept X0_9.out bl)
  clear X0_9
  have XB0_10 := Lib.hid (XB0_9.out.below bl)
  clear XB0_9
  have X1_10 := Lib.hid (OwnL.kept X1_9.out bl)
  clear X1_9
  have G_10 := Lib.hid (OwnL.kept G_9.out bl)
  clear G_9
  clear bl
  obtain ⟨pK00, pK01, pK02, pK03, pK04, pK0l⟩ := tb5 K0_10.out
  obtain ⟨pXB00, pXB01, pXB02, pXB03, pXB04, pXB0l⟩ := tb5 XB0_10.out
  go_wp2_with fail
  clear pK00 pK01 pK02 pK03 pK04 pK0l pXB00 pXB01 pXB02 pXB03 pXB04 pXB0l
  have bl : Below w10.heap.size w10 w10.drew := (Below.refl _ _).drew
  have B_11 := Lib.hid (Below.next B_10.out bl)
  clear B_10
  have K0_11 := Lib.hid (K0_10.out.below bl)
  clear K0_10
  have S_11 := Lib.hid (OwnL.kept S_10.out bl)
  clear S_10
  have X0_11 := Lib.hid (OwnL.kept X0_10.out bl)
  clear X0_10
  have XB0_11 := Lib.hid (XB0_10.out.below bl)
  clear XB0_10
  have X1_11 := Lib.hid (OwnL.kept X1_10.out bl)
  clear X1_10
  have G_11 := Lib.hid (OwnL.kept G_10.out bl)
  clear G_10
  clear bl
  obtain ⟨pK00, pK01, pK02, pK03, pK04, pK0l⟩ := tb5 K0_11.out
  obtain ⟨pXB00, pXB01, pXB02, pXB03, pXB04, pXB0l⟩ := tb5 XB0_11.out
  go_region_held3 (fun w' => w'.cell? ⟨w.heap.size, 0, none⟩ = some (.int .i64 k0) ∧ w'.cell? ⟨w.heap.size, 1, none⟩ = some (.int .i64 i0) ∧ w'.cell? ⟨w.heap.size, 2, none⟩ = some (.int .i64 o0) ∧ w'.cell? ⟨w.heap.size, 3, none⟩ = some (.slice a0 ws0.length c0) ∧ w'.cell? ⟨w.heap.size, 4, none⟩ = some (.slice b0 bs0.length d0) ∧ w'.cell? ⟨w6.heap.size, 0, none⟩ = some (.int .i64 k0) ∧ w'.cell? ⟨w6.heap.size, 1, none⟩ = some (.int .i64 i0) ∧ w'.cell? ⟨w6.heap.size, 2, none⟩ = some (.int .i64 o0) ∧ w'.cell? ⟨w6.heap.size, 3, none⟩ = some (.slice aX0 ws0.length ws0.length) ∧ w'.cell? ⟨w6.heap.size, 4, none⟩ = some (.slice bX0 bs0.length bs0.length)) (go_keep)
    (first
      | (go_at_call 56
         clear pK00 pK01 pK02 pK03 pK04 pK0l pXB00 pXB01 pXB02 pXB03 pXB04 pXB0l
         refine (c_toLay k0 i0 o0 _ _ _ _ ws0 bs0 _ (And.intro (HS0.out.1.kept B_11.out) (HS0.out.2.kept B_11.out)).1 (by have := HZ0.out; omega) (And.intro (HS0.out.1.kept B_11.out) (HS0.out.2.kept B_11.out)).2 (by have := HZ0.out; omega)).mono ?_
         rintro e w12 ⟨aY0, bY0, rfl, h0, h1, hap, bl⟩
         have ho := (LayA.own_iff (x := (⟨⟨k0, i0, o0, ws0, bs0⟩, aY0, ws0.length, bY0, bs0.length⟩ : LayA))).2 ⟨h0, h1⟩
         have Y0_12 := Lib.hid (OwnL.base B_11.out.size _ ho)
         have B_12 := Lib.hid (Below.next B_11.out bl)
         clear B_11
         have K0_12 := Lib.hid (K0_11.out.below bl)
         clear K0_11
         have S_12 := Lib.hid (OwnL.kept S_11.out bl)
         clear S_11
         have X0_12 := Lib.hid (OwnL.kept X0_11.out bl)
         clear X0_11
         have XB0_12 := Lib.hid (XB0_11.out.below bl)
         clear XB0_11
         have X1_12 := Lib.hid (OwnL.kept X1_11.out bl)
         clear X1_11
         have G_12 := Lib.hid (OwnL.kept G_11.out bl)
         clear G_11
         clear h0 h1 hap ho
         clear bl
         obtain ⟨pK00, pK01, pK02, pK03, pK04, pK0l⟩ := tb5 K0_12.out
         obtain ⟨pXB00, pXB01, pXB02, pXB03, pXB04, pXB0l⟩ := tb5 XB0_12.out)
      | (go_at_call 59
         clear pK00 pK01 pK02 pK03 pK04 pK0l pXB00 pXB01 pXB02 pXB03 pXB04 pXB0l
         refine (c_eqLay k0 i0 o0 _ _ _ _ _ _ _ _ ws0 ws0 bs0 bs0 _ ((LayA.at_iff (x := (⟨⟨k0, i0, o0, ws0, bs0⟩, aX0, ws0.length, bX0, bs0.length⟩ : LayA))).1 (OwnL.at _ X0_12.out)).1 ((LayA.at_iff (x := (⟨⟨k0, i0, o0, ws0, bs0⟩, aY0, ws0.length, bY0, bs0.length⟩ : LayA))).1 (OwnL.at _ Y0_12.out)).1 rfl ((LayA.at_iff (x := (⟨⟨k0, i0, o0, ws0, bs0⟩, aX0, ws0.length, bX0, bs0.length⟩ : LayA))).1 (OwnL.at _ X0_12.out)).2 ((LayA.at_iff (x := (⟨⟨k0, i0, o0, ws0, bs0⟩, aY0, ws0.length, bY0, bs0.length⟩ : LayA))).1 (OwnL.at _ Y0_12.out)).2 rfl).mono ?_
         rintro e w13 ⟨rfl, bl⟩
         have B_13 := Lib.hid (Below.next B_12.out bl)
         clear B_12
         have K0_13 := Lib.hid (K0_12.out.below bl)
         clear K0_12
         have S_13 := Lib.hid (OwnL.kept S_12.out bl)
         clear S_12
         have X0_13 := Lib.hid (OwnL.kept X0_12.out bl)
         clear X0_12
         have XB0_13 := Lib.hid (XB0_12.out.below bl)
         clear XB0_12
         have X1_13 := Lib.hid (OwnL.kept X1_12.out bl)
         clear X1_12
         have G_13 := Lib.hid (OwnL.kept G_12.out bl)
         clear G_12
         have Y0_13 := Lib.hid (OwnL.kept Y0_12.out bl)
         clear Y0_12
         clear bl
         obtain ⟨pK00, pK01, pK02, pK03, pK04, pK0l⟩ := tb5 K0_13.out
         obtain ⟨pXB00, pXB01, pXB02, pXB03, pXB04, pXB0l⟩ := tb5 XB0_13.out))
  clear pK00 pK01 pK02 pK03 pK04 pK0l pXB00 pXB01 pXB02 pXB03 pXB04 pXB0l
  clear Y0_13
  obtain ⟨pK00, pK01, pK02, pK03, pK04, pK0l⟩ := tb5 K0_13.out
  obtain ⟨pXB00, pXB01, pXB02, pXB03, pXB04, pXB0l⟩ := tb5 XB0_13.out
  go_wp2_with fail
  clear pK00 pK01 pK02 pK03 pK04 pK0l pXB00 pXB01 pXB02 pXB03 pXB04 pXB0l
  refine (c_toFloats _ _ _ z1 _ (HS1.out.kept B_13.out) HZ1.out).mono ?_
  rintro e w14 ⟨aY1, rfl, hf, bl⟩
  have ho := flL_own.2 hf
  have Y1_14 := Lib.hid (OwnL.base B_13.out.size _ ho)
  have B_14 := Lib.hid (Below.next B_13.out bl)
  clear B_13
  have K0_14 := Lib.hid (K0_13.out.below bl)
  clear K0_13
  have S_14 := Lib.hid (OwnL.kept S_13.out bl)
  clear S_13
  have X0_14 := Lib.hid (OwnL.kept X0_13.out bl)
  clear X0_13
  have XB0_14 := Lib.hid (XB0_13.out.below bl)
  clear XB0_13
  have X1_14 := Lib.hid (OwnL.kept X1_13.out bl)
  clear X1_13
  have G_14 := Lib.hid (OwnL.kept G_13.out bl)
  clear G_13
  clear hf ho
  clear bl
  obtain ⟨pK00, pK01, pK02, pK03, pK04, pK0l⟩ := tb5 K0_14.out
  obtain ⟨pXB00, pXB01, pXB02, pXB03, pXB04, pXB0l⟩ := tb5 XB0_14.out
  go_wp2_with fail
  clear pK00 pK01 pK02 pK03 pK04 pK0l pXB00 pXB01 pXB02 pXB03 pXB04 pXB0l
  refine (c_eqFloats _ _ _ _ z1 z1 _ (flL_at.1 (OwnL.at _ X1_14.out)) (flL_at.1 (OwnL.at _ Y1_14.out)) rfl).mono ?_
  rintro e w15 ⟨rfl, dn⟩
  have bl : Below w14.heap.size w14 w15 := by first | exact dn.below | exact (below_drewN (Below.refl _ _) _).trans dn.below
  clear dn
  have B_15 := Lib.hid (Below.next B_14.out bl)
  clear B_14
  have K0_15 := Lib.hid (K0_14.out.below bl)
  clear K0_14
  have S_15 := Lib.hid (OwnL.kept S_14.out bl)
  clear S_14
  have X0_15 := Lib.hid (OwnL.kept X0_14.out bl)
  clear X0_14
  have XB0_15 := Lib.hid (XB0_14.out.below bl)
  clear XB0_14
  have X1_15 := Lib.hid (OwnL.kept X1_14.out bl)
  clear X1_14
  have G_15 := Lib.hid (OwnL.kept G_14.out bl)
  clear G_14
  have Y1_15 := Lib.hid (OwnL.kept Y1_14.out bl)
  clear Y1_14
  clear bl
  clear Y1_15
  obtain ⟨pK00, pK01, pK02, pK03, pK04, pK0l⟩ := tb5 K0_15.out
  obtain ⟨pXB00, pXB01, pXB02, pXB03, pXB04, pXB0l⟩ := tb5 XB0_15.out
  go_wp2_with fail
  clear pK00 pK01 pK02 pK03 pK04 pK0l pXB00 pXB01 pXB02 pXB03 pXB04 pXB0l
  refine (c_markLay k0 i0 o0 _ _ _ _ ws0 bs0 _ 1 m0 _ X0_15.out NDX0.out HM0.out hm0' HZ0.out).mono ?_
  rintro e w16 ⟨rfl, ho, hg⟩
  have B_16 := Lib.hid (hg.below' B_15.out (fun g h => (OwnL.lt _ X0_15.out g h).1))
  have K0_16 := Lib.hid (K0_15.out.inn hg D_X0_K0.out)
  have S_16 := Lib.hid (OwnL.apart hg _ S_15.out D_X0_S.out)
  have XB0_16 := Lib.hid (XB0_15.out.inn hg D_X0_XB0.out)
  have X1_16 := Lib.hid (OwnL.apart hg _ X1_15.out D_X0_X1.out)
  have G_16 := Lib.hid (OwnL.apart hg _ G_15.out D_X0_G.out)
  clear B_15
  clear K0_15
  clear S_15
  clear X0_15
  clear XB0_15
  clear X1_15
  clear G_15
  clear ho hg
  obtain ⟨pK00, pK01, pK02, pK03, pK04, pK0l⟩ := tb5 K0_16.out
  obtain ⟨pXB00, pXB01, pXB02, pXB03, pXB04, pXB0l⟩ := tb5 XB0_16.out
  go_wp2_with fail
  clear pK00 pK01 pK02 pK03 pK04 pK0l pXB00 pXB01 pXB02 pXB03 pXB04 pXB0l
  refine (c_markFl _ _ _ m0 m1 z1 _ X1_16.out HM1.out hm0' HZ1.out).mono ?_
  rintro e w17 ⟨rfl, ho, hg⟩
  have B_17 := Lib.hid (hg.below' B_16.out (fun g h => (OwnL.lt _ X1_16.out g h).1))
  have K0_17 := Lib.hid (K0_16.out.inn hg D_X1_K0.out)
  have S_17 := Lib.hid (OwnL.apart hg _ S_16.out D_X1_S.out)
  have XB0_17 := Lib.hid (XB0_16.out.inn hg D_X1_XB0.out)
  have G_17 := Lib.hid (OwnL.apart hg _ G_16.out D_X1_G.out)
  clear B_16
  clear K0_16
  clear S_16
  clear XB0_16
  clear X1_16
  clear G_16
  clear ho hg
  clear XB0_17
  obtain ⟨pK00, pK01, pK02, pK03, pK04, pK0l⟩ := tb5 K0_17.out
  go_wp2_with fail
  clear pK00 pK01 pK02 pK03 pK04 pK0l
  refine (c_eqFloats _ _ _ _ yG yS _ (flL_at.1 (OwnL.at _ G_17.out)) (flL_at.1 (OwnL.at _ S_17.out)) (HYG.out.trans HYS.out.symm)).mono ?_
  rintro e w18 ⟨rfl, dn⟩
  have bl : Below w17.heap.size w17 w18 := by first | exact dn.below | exact (below_drewN (Below.refl _ _) _).trans dn.below
  clear dn
  have B_18 := Lib.hid (Below.next B_17.out bl)
  clear B_17
  have K0_18 := Lib.hid (K0_17.out.below bl)
  clear K0_17
  have S_18 := Lib.hid (OwnL.kept S_17.out bl)
  clear S_17
  have G_18 := Lib.hid (OwnL.kept G_17.out bl)
  clear G_17
  clear bl
  obtain ⟨pK00, pK01, pK02, pK03, pK04, pK0l⟩ := tb5 K0_18.out
  go_wp2_with fail
  clear pK00 pK01 pK02 pK03 pK04 pK0l
  obtain ⟨q, hq⟩ : ∃ q, 1 + yG.length = q := ⟨_, rfl⟩
  have HQ := Lib.hid hq
  have hq' : q ≤ 4194304 := by have := LG.out; omega
  have hq0 : (0 : Int) ≤ (q : Int) := by omega
  clear hq
  refine (c_markFl _ _ _ 1 q yG _ G_18.out HQ.out (by decide) LG.out).mono ?_
  rintro e w19 ⟨rfl, ho, hg⟩
  have B_19 := Lib.hid (hg.below' B_18.out (fun g h => (OwnL.lt _ G_18.out g h).1))
  have K0_19 := Lib.hid (K0_18.out.inn hg D_G_K0.out)
  have S_19 := Lib.hid (OwnL.apart hg _ S_18.out D_G_S.out)
  have G_19 := Lib.hid (ho)
  clear B_18
  clear K0_18
  clear S_18
  clear G_18
  clear ho hg
  obtain ⟨pK00, pK01, pK02, pK03, pK04, pK0l⟩ := tb5 K0_19.out
  go_wp2_with fail
  clear pK00 pK01 pK02 pK03 pK04 pK0l
  refine (c_heldFloats' _ _ 1 q yG.length _ (held_fl G_19.out) HQ.out (by decide) LG.out).mono ?_
  rintro e w' ⟨rfl, rfl⟩
  obtain ⟨pK00, pK01, pK02, pK03, pK04, pK0l⟩ := tb5 K0_19.out
  go_wp2_with fail
  clear pK00 pK01 pK02 pK03 pK04 pK0l
  refine (c_toLay k0 i0 o0 _ _ _ _ ws0 bs0 _ (And.intro (HS0.out.1.kept B_19.out) (HS0.out.2.kept B_19.out)).1 (by have := HZ0.out; omega) (And.intro (HS0.out.1.kept B_19.out) (HS0.out.2.kept B_19.out)).2 (by have := HZ0.out; omega)).mono ?_
  rintro e w20 ⟨aU0, bU0, rfl, h0, h1, hap, bl⟩
  have ho := (LayA.own_iff (x := (⟨⟨k0, i0, o0, ws0, bs0⟩, aU0, ws0.length, bU0, bs0.length⟩ : LayA))).2 ⟨h0, h1⟩
  have U0_20 := Lib.hid (OwnL.base B_19.out.size _ ho)
  have B_20 := Lib.hid (Below.next B_19.out bl)
  clear B_19
  have K0_20 := Lib.hid (K0_19.out.below bl)
  clear K0_19
  have S_20 := Lib.hid (OwnL.kept S_19.out bl)
  clear S_19
  have G_20 := Lib.hid (OwnL.kept G_19.out bl)
  clear G_19
  clear h0 h1 hap ho
  clear bl
  obtain ⟨pK00, pK01, pK02, pK03, pK04, pK0l⟩ := tb5 K0_20.out
  go_wp2_with fail
  clear pK00 pK01 pK02 pK03 pK04 pK0l
  refine (c_toFloats _ _ _ z1 _ (HS1.out.kept B_20.out) HZ1.out).mono ?_
  rintro e w21 ⟨aU1, rfl, hf, bl⟩
  have ho := flL_own.2 hf
  have U1_21 := Lib.hid (OwnL.base B_20.out.size _ ho)
  have B_21 := Lib.hid (Below.next B_20.out bl)
  clear B_20
  have K0_21 := Lib.hid (K0_20.out.below bl)
  clear K0_20
  have S_21 := Lib.hid (OwnL.kept S_20.out bl)
  clear S_20
  have G_21 := Lib.hid (OwnL.kept G_20.out bl)
  clear G_20
  have U0_21 := Lib.hid (OwnL.kept U0_20.out bl)
  clear U0_20
  clear hf ho
  clear bl
  obtain ⟨pK00, pK01, pK02, pK03, pK04, pK0l⟩ := tb5 K0_21.out
  go_wp2_with fail
  clear pK00 pK01 pK02 pK03 pK04 pK0l
  refine (CI.out _ _ _ _ _ _ _ ((LayA.at_iff (x := (⟨⟨k0, i0, o0, ws0, bs0⟩, aU0, ws0.length, bU0, bs0.length⟩ : LayA))).1 (OwnL.at _ U0_21.out)) (flL_at.1 (OwnL.at _ U1_21.out))).mono ?_
  rintro e w22 ⟨aH, capH, yH, rfl, hf, hy, bl⟩
  have HYH := Lib.hid hy
  have ho := flL_own.2 hf
  have H_22 := Lib.hid (OwnL.base B_21.out.size _ ho)
  have B_22 := Lib.hid (Below.next B_21.out bl)
  clear B_21
  have K0_22 := Lib.hid (K0_21.out.below bl)
  clear K0_21
  have S_22 := Lib.hid (OwnL.kept S_21.out bl)
  clear S_21
  have G_22 := Lib.hid (OwnL.kept G_21.out bl)
  clear G_21
  have U0_22 := Lib.hid (OwnL.kept U0_21.out bl)
  clear U0_21
  have U1_22 := Lib.hid (OwnL.kept U1_21.out bl)
  clear U1_21
  clear hf hy ho
  clear bl
  clear U0_22
  clear U1_22
  obtain ⟨pK00, pK01, pK02, pK03, pK04, pK0l⟩ := tb5 K0_22.out
  go_wp2_with fail
  clear pK00 pK01 pK02 pK03 pK04 pK0l
  refine (c_eqFloats _ _ _ _ yH yS _ (flL_at.1 (OwnL.at _ H_22.out)) (flL_at.1 (OwnL.at _ S_22.out)) (HYH.out.trans HYS.out.symm)).mono ?_
  rintro e w23 ⟨rfl, dn⟩
  have bl : Below w22.heap.size w22 w23 := by first | exact dn.below | exact (below_drewN (Below.refl _ _) _).trans dn.below
  clear dn
  have B_23 := Lib.hid (Below.next B_22.out bl)
  clear B_22
  have K0_23 := Lib.hid (K0_22.out.below bl)
  clear K0_22
  have S_23 := Lib.hid (OwnL.kept S_22.out bl)
  clear S_22
  have G_23 := Lib.hid (OwnL.kept G_22.out bl)
  clear G_22
  have H_23 := Lib.hid (OwnL.kept H_22.out bl)
  clear H_22
  clear bl
  obtain ⟨pK00, pK01, pK02, pK03, pK04, pK0l⟩ := tb5 K0_23.out
  go_wp2_with fail
  clear pK00 pK01 pK02 pK03 pK04 pK0l
  refine (c_heldFloats' _ _ 1 q yG.length _ (held_fl G_23.out) HQ.out (by decide) LG.out).mono ?_
  rintro e w' ⟨rfl, rfl⟩
  obtain ⟨pK00, pK01, pK02, pK03, pK04, pK0l⟩ := tb5 K0_23.out
  go_wp2_with fail
  clear pK00 pK01 pK02 pK03 pK04 pK0l
  go_ret
  exact ⟨rfl, B_23.out⟩

theorem walk (v0 : Value) (a1 : Option Addr) (len1 cap1 : Nat) (z1 : List Nat) (w : World) (w0 : ∃ x : LayA, v0 = .agg x.cells ∧ AtL w x.cs) (w1 : IsFloats .f32 w a1 len1 cap1 z1) :
    Calls Try.prog 9 #[v0, .slice a1 len1 cap1] w fun e w' => e = .returned (.bool true) ∧ Below w.heap.size w w' := by
  obtain ⟨⟨⟨k0, i0, o0, ws0, bs0⟩, a0, c0, b0, d0⟩, rfl, w0⟩ := w0
  rw [LayA.at_iff] at w0
  dsimp only at w0
  dsimp only [LayA.cells]
  have n0 : ws0.length ≤ 9223372036854775807 := by have h1 := w0.1.1; have h2 := w0.1.2.1; unfold maxLen at h2; omega
  have n0' : bs0.length ≤ 9223372036854775807 := by have h1 := w0.2.1; have h2 := w0.2.2.1; unfold maxLen at h2; omega
  have hn1 : len1 ≤ 9223372036854775807 := by have h1 := w1.1; have h2 := w1.2.1; unfold maxLen at h2; omega
  obtain rfl : z1.length = len1 := w1.2.2.1
  obtain ⟨c1, rfl⟩ : ∃ c, c = cap1 := ⟨_, rfl⟩
  by_cases hL1 : z1.length ≤ 1048576
  case neg =>
    have hq : (1048576 : Int) < (z1.length : Int) := by omega
    clear hL1
    go_enter Try.func9, Try.ntmps9
    go_wp2
    go_ret
    exact ⟨rfl, ((Below.refl w.heap.size w).alloc (by simp) (.cells #[.int .i64 k0, .int .i64 i0, .int .i64 o0, .slice a0 ws0.length c0, .slice b0 bs0.length d0] 75))⟩
  case pos =>
    by_cases hL0 : (ws0.length + bs0.length) ≤ 1048576
    case neg =>
      have HN := Lib.hid (show 1048576 < ws0.length + bs0.length by omega)
      have HS := Lib.hid w0
      have hs1 : z1.length ≤ 1048576 := hL1
      have bl := Lib.hid (((Below.refl w.heap.size w).alloc (by simp) (.cells #[.int .i64 k0, .int .i64 i0, .int .i64 o0, .slice a0 ws0.length c0, .slice b0 bs0.length d0] 75)))
      clear hL0 w0
      go_enter Try.func9, Try.ntmps9
      go_wp2_with fail
      refine (c_szLay_no _ _ _ _ _ _ _ _ _ 1048576 _ HN.out (Nat.le_refl _) n0 n0').mono ?_
      rintro e w1 ⟨rfl, hb⟩
      have HB := Lib.hid (Below.next bl.out hb)
      clear hb bl
      go_wp2
      go_ret
      exact ⟨rfl, HB.out⟩
    case pos =>
      exact core k0 i0 o0 ws0 bs0 z1 a0 b0 c0 d0 a1 c1 w w0 w1 (vRunLayer k0 i0 o0 ws0 bs0 z1).1 (vRunLayer k0 i0 o0 ws0 bs0 z1).2 hL0 hL1 (vRunLayer_len k0 i0 o0 ws0 bs0 z1) (fun a0_ b0_ c0_ d0_ a1 c1 w h0 h1 => t_sRunLayer k0 i0 o0 ws0 bs0 a0_ b0_ c0_ d0_ z1 a1 c1 w h0 h1) (fun a0_ b0_ c0_ d0_ a1 c1 w h0 h1 => t_iRunLayer k0 i0 o0 ws0 bs0 a0_ b0_ c0_ d0_ z1 a1 c1 w h0 h1)

/-! the row's step -/
set_option maxRecDepth 100000 in
theorem lifted (os : Os) (started : os.Started) (H : Type) (enc : TypeId × Value → H) :
    ReturnsInHanded {} Try.checked os 9 .any (Rows.fnExactRunLayerSpec.pre6 enc Try.prog Try.f9 Rows.fnExactRunLayerRow.domain false) (Rows.fnExactRunLayerSpec.post enc Try.prog Try.f9 false true false false) := by
  refine returnsInHanded_of_change (C := Try.checked) own started (by kernel_rfl) Try.func9
    (ChangeSpec.witness6 (enc := enc) (C := Try.checked) false ⟨#[], #[.agg #[.int .i64 0, .int .i64 0, .int .i64 0, .slice none 0 0, .slice none 0 0], .slice none 0 0], []⟩ 8 (by kernel_rfl) (by kernel_rfl) (by kernel_rfl) (by kernel_rfl)) ?_
  intro W base args ds gs before hval0 hW hcnd _
  have hval : ∀ (j : Nat) t v, Try.f9.params[j]? = some t → args[j]? = some v → Value.okWide Try.prog W .any base t v := hval0
  have hW' := hW
  obtain ⟨p, q, hA0, hV, rfl, hfz, hnd⟩ := hW
  have hA : DataW.TrodAll enc Try.prog W 0 (fun _ => true) true Try.f9.params.toList args.toList ds p := hA0
  rw [Try.params9] at hA hval
  obtain ⟨v0, vs0, d0, ds0, p0, q0, hargs, rfl, rfl, h0, rest0⟩ := trodAll_cons hA
  obtain ⟨v1, vs1, d1, ds1, p1, q1, rfl, rfl, rfl, h1, rest1⟩ := trodAll_cons rest0
  obtain ⟨rfl, rfl, rfl⟩ := trodAll_nil rest1
  obtain rfl : args = #[v0, v1] := by cases args; simp_all
  obtain ⟨rfl, rfl⟩ := trodVars_none hV
  have k0 := h0
  have lt0 : ∀ x ∈ p0, x.block < W.heap.size := by obtain ⟨m, hm⟩ := k0; exact DataW.trod_lt m _ _ _ hm
  have w0 := open_Lay (hval 0 75 v0 rfl rfl) h0
  obtain ⟨a1, len1, cap1, rfl⟩ := okWide_slice Try.underlying50 (hval 1 50 v1 rfl rfl)
  have k1 := h1
  have lt1 : ∀ x ∈ p1, x.block < W.heap.size := by obtain ⟨m, hm⟩ := k1; exact DataW.trod_lt m _ _ _ hm
  obtain ⟨z1, w1⟩ := isFloats_of (k := .f32) Try.underlying50 Try.underlying72 (by kernel_rfl) h1
  clear hA0 hval0
  refine (walk _ a1 len1 cap1 z1 W w0 w1).mono fun e W' ⟨he, bel⟩ => ?_
  subst he
  exact ⟨_, rfl, _, _, _, [], _, [], hW', trodAll_mk1 (shut_bool Try.underlying4 _), (trodAll_cons_mk (Below.trod laidOut (by kernel_rfl) (of_decide_eq_true (by kernel_rfl)) k0 bel lt0) (trodAll_cons_mk (Below.trod laidOut (by kernel_rfl) (of_decide_eq_true (by kernel_rfl)) k1 bel lt1) trodAll_mk0)), rfl, bel.frame _, fun h => by cases h⟩

theorem named_ : Try.pinned.checked.prog.funcNamed Rows.fnExactRunLayerRow.func = some 9 := by kernel_rfl
theorem fk1 : (Rows.fnExactRunLayerRow.wf (OpenSpec.ofChange Rows.fnExactRunLayerSpec)) = true := by kernel_rfl
theorem fk4 : (Try.f9.params.all (Try.pinned.checked.prog.readableRec ·)) = true := by kernel_rfl
theorem fk5 : (namedTie Try.pinned.checked.prog Rows.fnExactRunLayerRow.named Rows.fnExactRunLayerSpec.vars) = true := by kernel_rfl
theorem fk6 : ((Rows.fnExactRunLayerRow.stops == [])) = true := by kernel_rfl
theorem fk8 : ((Rows.fnExactRunLayerRow.knobs == [])) = true := by kernel_rfl
theorem fk10 : ((Rows.fnExactRunLayerRow.inPlace == Try.pinned.checked.prog.inPlace 9)) = true := by kernel_rfl
theorem fk11 : ((Rows.fnExactRunLayerRow.unfollowed == Try.pinned.checked.prog.unfollowed 9)) = true := by kernel_rfl
theorem fk12 : ((Rows.fnExactRunLayerRow.recurses == Try.pinned.checked.prog.recurses 9)) = true := by kernel_rfl
theorem fk13 : ((Rows.fnExactRunLayerRow.named == Try.pinned.checked.prog.varsNamed 9)) = true := by kernel_rfl
theorem fk14 : ((Rows.fnExactRunLayerRow.maps == (Try.f9.params.toList ++ Rows.fnExactRunLayerSpec.plain.varTypes Try.pinned.checked.prog).any (Try.pinned.checked.prog.mapsRec ·))) = true := by kernel_rfl
theorem fk15 : ((Rows.fnExactRunLayerRow.ifaces == (Try.f9.params.toList ++ Rows.fnExactRunLayerSpec.plain.varTypes Try.pinned.checked.prog).any (Try.pinned.checked.prog.ifacesRec ·))) = true := by kernel_rfl
theorem fk16 : ((Rows.fnExactRunLayerRow.mapsOut == Try.pinned.checked.prog.mapsAmong Try.f9.resultTypes.toList)) = true := by kernel_rfl
theorem fk17 : ((Rows.fnExactRunLayerRow.loops == (Try.f9.params.toList ++ Rows.fnExactRunLayerSpec.plain.varTypes Try.pinned.checked.prog).any (Try.pinned.checked.prog.loopsFrom ·))) = true := by kernel_rfl
theorem fk18 : ((Rows.fnExactRunLayerRow.wideKeys == (Try.f9.params.toList ++ Rows.fnExactRunLayerSpec.plain.varTypes Try.pinned.checked.prog ++ Try.f9.resultTypes.toList).any (Try.pinned.checked.prog.wideKeysFrom ·))) = true := by kernel_rfl
theorem fk19 : (Rows.fnExactRunLayerSpec.vars.all (Try.pinned.checked.prog.varReadable ·)) = true := by kernel_rfl
theorem fk20 : (Try.f9.resultTypes.all (fun t => Try.pinned.checked.prog.readableRec t && decide (t < Try.pinned.checked.prog.types.size))) = true := by kernel_rfl
theorem fk21 : ((Rows.fnExactRunLayerRow.ifacesOut == Try.f9.resultTypes.toList.any (Try.pinned.checked.prog.ifacesRec ·))) = true := by kernel_rfl
theorem fk22 : ((Rows.fnExactRunLayerRow.loopsOut == Try.f9.resultTypes.toList.any (Try.pinned.checked.prog.loopsFrom ·))) = true := by kernel_rfl
theorem fk23 : (Rows.fnExactRunLayerRow.plainKeys == Try.pinned.checked.prog.plainKeys) = true := by rw [cls_keys]; kernel_rfl
theorem fk24 : (Rows.fnExactRunLayerRow.shortTexts.isNone) = true := by kernel_rfl
theorem fk27 : (Rows.fnExactRunLayerRow.lifted == Try.pinned.checked.prog.liftsFinal) = true := by rw [cls_lift]; kernel_rfl
theorem fk28 : (Try.pinned.checked.prog.make == some Rows.fnExactRunLayerRow.make) = true := by rw [cls_make]; kernel_rfl
theorem fk29 : ((Rows.fnExactRunLayerRow.kinds == (if Rows.fnExactRunLayerRow.domain.isEmpty then [] else Try.f9.params.toList.map fun t => match Try.pinned.checked.prog.underlying t with | some (.int k) => some k | _ => none))) = true := by kernel_rfl
theorem fk30 : ((Rows.fnExactRunLayerRow.pinned == Rows.fnExactRunLayerRow.pinnedBy)) = true := by kernel_rfl
theorem fk31 : ((Rows.fnExactRunLayerRow.veiled == (Try.f9.params.toList ++ Rows.fnExactRunLayerSpec.plain.varTypes Try.pinned.checked.prog ++ Try.f9.resultTypes.toList).any (Try.pinned.checked.prog.veiledRec ·))) = true := by kernel_rfl
theorem fk32 : (Rows.fnExactRunLayerRow.veiledFits Try.pinned.checked.prog Try.f9.params.toList (Try.f9.params.toList ++ Rows.fnExactRunLayerSpec.plain.varTypes Try.pinned.checked.prog ++ Try.f9.resultTypes.toList)) = true := by kernel_rfl
set_option maxRecDepth 100000 in
theorem closed : joinedFacts Try.pinned.checked.prog 9 Try.f9 Rows.fnExactRunLayerSpec Rows.fnExactRunLayerRow = true := (and2 (and2 (and2 (and2 (and2 (and2 (and2 (and2 (and2 (and2 (and2 (and2 (and2 (and2 (and2 (and2 (and2 (and2 (and2 (and2 (and2 (and2 (and2 (and2 (and2 (and2 (and2 (and2 (and2 (and2 (and2 fk1 cls_laid) cls_maps) fk4) fk5) fk6) cls_stops) fk8) cls_knobs) fk10) fk11) fk12) fk13) fk14) fk15) fk16) fk17) fk18) fk19) fk20) fk21) fk22) fk23) fk24) cls_heard) cls_enter) fk27) fk28) fk29) fk30) fk31) fk32)
theorem over : Rows.fnExactRunLayerRow.holds Try.pinned (OpenSpec.ofChange Rows.fnExactRunLayerSpec) :=
  OpenClaim.holds_of_wide 9 Try.f9 rfl rfl rfl rfl rfl rfl rfl ⟨rfl, rfl, rfl, rfl, rfl⟩ rfl rfl rfl rfl rfl named_ Try.func9 closed
    (of_decide_eq_true (by kernel_rfl)) (by unfold Func.isWrapper; first | (rw [if_pos (by decide +kernel)]; kernel_rfl) | (rw [if_neg (by decide +kernel)]; exact ⟨rfl, rfl⟩))
    (fun os started H enc _ => lifted os started H enc)

/-- the statement -/
theorem proved : Rows.FnExactRunLayerSaid := over
end Go.Proofs.Ytnkmgeiehhonkaa.fnExactRunLayer
