/-
  runs a model over the rows of a tensor as the model says
-/
import Derived.Test.YtnkmgeiehhonkaaCls
import Derived.Test.YtnkmgeiehhonkaaRmz
import Derived.Test.YtnkmgeiehhonkaaMark
import Derived.Test.YtnkmgeiehhonkaaCtl
import Derived.ChangeOld
import Derived.Below
namespace Go.Proofs.Ytnkmgeiehhonkaa.fnExactRunModel
open Go.ChangeShapes Go.WideShapes Go.ChangeAt Go.RowKit
open Go.ChangeMaps (open_string shut_string)
set_option linter.unusedVariables false

set_option maxHeartbeats 4000000 in
set_option maxRecDepth 100000 in
/-- for any contracts of the model and of the program that say the same -/
theorem core (ls0 : List LayA) (r1 t1 : Int) (z1 : List Nat) (g0 : Option Addr) (c0 : Nat) (a1 : Option Addr) (c1 : Nat) (w : World) (w0' : LaysAt w g0 ls0.length c0 ls0) (w1' : IsFloats .f32 w a1 z1.length c1 z1) (R C : Int) (b : Bool) (zs : List Nat) (hL0 : (ls0.length + laySum (ls0.map LayA.p)) ≤ 1048576) (hL1 : (ls0.length + laySum (ls0.map LayA.p)) + (z1.length) ≤ 1048576) (hz : zs.length ≤ 1048576)
    (CS' : ∀ (g0 : Option Addr) (c0 : Nat) (y0 : List LayA) (a1 : Option Addr) (c1 : Nat) (w : World), (y0.map LayA.p = ls0.map LayA.p) → (LaysAt w g0 ls0.length c0 y0) → (IsFloats .f32 w a1 z1.length c1 z1) → Calls Try.prog 69 #[.agg #[.slice g0 ls0.length c0], .agg #[.int .i64 r1, .int .i64 t1, .slice a1 z1.length c1]] w (RetT R C b zs w))
    (CI' : ∀ (g0 : Option Addr) (c0 : Nat) (y0 : List LayA) (a1 : Option Addr) (c1 : Nat) (w : World), (y0.map LayA.p = ls0.map LayA.p) → (LaysAt w g0 ls0.length c0 y0) → (IsFloats .f32 w a1 z1.length c1 z1) → Calls Try.prog 71 #[.agg #[.slice g0 ls0.length c0], .agg #[.int .i64 r1, .int .i64 t1, .slice a1 z1.length c1]] w (RetT R C b zs w)) :
    Calls Try.prog 11 #[.agg #[.slice g0 ls0.length c0], .agg #[.int .i64 r1, .int .i64 t1, .slice a1 z1.length c1]] w fun e w' => e = .returned (.bool true) ∧ Below w.heap.size w w' := by
  have HS0 := Lib.hid w0'
  have HZ0 := Lib.hid (show ls0.length + laySum (ls0.map LayA.p) ≤ 1048576 by omega)
  have HS1 := Lib.hid w1'
  have HZ1 := Lib.hid (show z1.length ≤ 1048576 by omega)
  have CS := Lib.hid CS'
  have CI := Lib.hid CI'
  obtain ⟨l0, hl0⟩ : ∃ l, 1048576 - (ls0.length + laySum (ls0.map LayA.p)) = l := ⟨_, rfl⟩
  have hl0' : l0 ≤ 1048576 := by omega
  have HQ0 := Lib.hid (show ls0.length + laySum (ls0.map LayA.p) ≤ 1048576 by omega)
  obtain ⟨l1, hl1⟩ : ∃ l, l0 - (z1.length) = l := ⟨_, rfl⟩
  have hl1' : l1 ≤ 1048576 := by omega
  have HQ1 := Lib.hid (show z1.length ≤ l0 by omega)
  have HE0 := Lib.hid hl0
  have hp0 : (0 : Int) ≤ (l0 : Int) := by omega
  have HE1 := Lib.hid hl1
  have hp1 : (0 : Int) ≤ (l1 : Int) := by omega
  obtain ⟨m0, hm0⟩ : ∃ m, 1 + (3 * ls0.length + laySum (ls0.map LayA.p)) = m := ⟨_, rfl⟩
  obtain ⟨m1, hm1⟩ : ∃ m, m0 + (z1.length) = m := ⟨_, rfl⟩
  have hm0' : m0 ≤ 4194304 := by omega
  have hn0' : (0 : Int) ≤ (m0 : Int) := by omega
  have HM0 := Lib.hid hm0
  have hm1' : m1 ≤ 4194304 := by omega
  have hn1' : (0 : Int) ≤ (m1 : Int) := by omega
  have HM1 := Lib.hid hm1
  clear hm1 hm0
  clear w0' w1' CS' CI' hl1 hl0 hL0 hL1
  go_enter Try.func11, Try.ntmps11
  go_wp2_with fail
  have B_0 := Lib.hid (Below.refl w.heap.size w)
  have bl := (Below.refl (w).heap.size (w)).alloc (Nat.le_refl _) (.cells #[.slice g0 ls0.length c0] 86)
  have K0_1 := Lib.hid (Blk.new (w) 86 #[.slice g0 ls0.length c0])
  have B_1 := Lib.hid (Below.next B_0.out bl)
  clear B_0
  clear bl
  have bl := (Below.refl ((w).alloc (.cells #[.slice g0 ls0.length c0] 86)).heap.size ((w).alloc (.cells #[.slice g0 ls0.length c0] 86))).alloc (Nat.le_refl _) (.cells #[.int .i64 r1, .int .i64 t1, .slice a1 z1.length c1] 97)
  have K1_2 := Lib.hid (Blk.new ((w).alloc (.cells #[.slice g0 ls0.length c0] 86)) 97 #[.int .i64 r1, .int .i64 t1, .slice a1 z1.length c1])
  have B_2 := Lib.hid (Below.next B_1.out bl)
  clear B_1
  have K0_2 := Lib.hid (K0_1.out.below bl)
  clear K0_1
  clear bl
  generalize ((w).alloc (.cells #[.slice g0 ls0.length c0] 86)).alloc (.cells #[.int .i64 r1, .int .i64 t1, .slice a1 z1.length c1] 97) = w2 at B_2 K0_2 K1_2 ⊢
  simp only [World.size_alloc] at K1_2
  refine (c_szMod _ _ _ _ _ ls0 _ (HS0.out.kept B_2.out) (Nat.le_refl _) HQ0.out HE0.out).mono ?_
  rintro e w3 ⟨rfl, bl⟩
  have B_3 := Lib.hid (Below.next B_2.out bl)
  clear B_2
  have K0_3 := Lib.hid (K0_2.out.below bl)
  clear K0_2
  have K1_3 := Lib.hid (K1_2.out.below bl)
  clear K1_2
  clear bl
  obtain ⟨pK00, pK0l⟩ := tb1 K0_3.out
  obtain ⟨pK10, pK11, pK12, pK1l⟩ := tb3 K1_3.out
  go_wp2_with fail
  clear pK00 pK0l pK10 pK11 pK12 pK1l
  refine (c_szTensor' _ _ _ _ _ _ _ _ HQ1.out hl0' HE1.out).mono ?_
  rintro e w4 ⟨rfl, bl⟩
  have B_4 := Lib.hid (Below.next B_3.out bl)
  clear B_3
  have K0_4 := Lib.hid (K0_3.out.below bl)
  clear K0_3
  have K1_4 := Lib.hid (K1_3.out.below bl)
  clear K1_3
  clear bl
  obtain ⟨pK00, pK0l⟩ := tb1 K0_4.out
  obtain ⟨pK10, pK11, pK12, pK1l⟩ := tb3 K1_4.out
  go_upto_region 8 with fail
  clear pK00 pK0l pK10 pK11 pK12 pK1l
  go_cut [6, 7] (fun s t wx => CutTl w R C b zs (fun wx => Blk wx (w.heap.size) 86 #[.slice g0 ls0.length c0] ∧ Blk wx (w.heap.size + 1) 97 #[.int .i64 r1, .int .i64 t1, .slice a1 z1.length c1]) s t wx)
  case first =>
    have ZL := Lib.hid B_4.out.size
    have Z_4 := Lib.hid (Nat.le_refl w4.heap.size)
    obtain ⟨pK00, pK0l⟩ := tb1 K0_4.out
    obtain ⟨pK10, pK11, pK12, pK1l⟩ := tb3 K1_4.out
    go_region_held3 (fun w' => w'.cell? ⟨w.heap.size, 0, none⟩ = some (.slice g0 ls0.length c0) ∧ w'.cell? ⟨w.heap.size + 1, 0, none⟩ = some (.int .i64 r1) ∧ w'.cell? ⟨w.heap.size + 1, 1, none⟩ = some (.int .i64 t1) ∧ w'.cell? ⟨w.heap.size + 1, 2, none⟩ = some (.slice a1 z1.length c1)) (go_keep)
      (first
        | (go_at_call 63
           clear pK00 pK0l pK10 pK11 pK12 pK1l
           have bl : Below w4.heap.size w4 w4.drew := (Below.refl _ _).drew
           have B_600 := Lib.hid (Below.next B_4.out bl)
           clear B_4
           have K0_600 := Lib.hid (K0_4.out.below bl)
           clear K0_4
           have K1_600 := Lib.hid (K1_4.out.below bl)
           clear K1_4
           have Z_600 := Lib.hid (Nat.le_trans Z_4.out bl.size)
           clear Z_4
           clear bl
           refine (c_toMod _ _ _ ls0 _ (HS0.out.kept B_600.out) HZ0.out).mono ?_
           rintro e w5 ⟨gT0, yT0, rfl, hl, hp, ho, hnd, bl⟩
           have HPT0 := Lib.hid hp
           have HLT0 := Lib.hid hl
           have T0_5 := Lib.hid (OwnL.base B_600.out.size _ ho)
           have B_5 := Lib.hid (Below.next B_600.out bl)
           clear B_600
           have K0_5 := Lib.hid (K0_600.out.below bl)
           clear K0_600
           have K1_5 := Lib.hid (K1_600.out.below bl)
           clear K1_600
           have Z_5 := Lib.hid (Nat.le_trans Z_600.out bl.size)
           clear Z_600
           clear hl hp ho hnd
           clear bl
           obtain ⟨pK00, pK0l⟩ := tb1 K0_5.out
           obtain ⟨pK10, pK11, pK12, pK1l⟩ := tb3 K1_5.out)
        | (go_at_call 63
           clear pK00 pK0l pK10 pK11 pK12 pK1l
           have NR_K0 : w.heap.size ≠ w4.heap.size := Nat.ne_of_lt K0_4.out.lt
           have MR_K0 : w4.heap.size ≠ w.heap.size := Nat.ne_of_gt K0_4.out.lt
           have NR_K1 : w.heap.size + 1 ≠ w4.heap.size := Nat.ne_of_lt K1_4.out.lt
           have MR_K1 : w4.heap.size ≠ w.heap.size + 1 := Nat.ne_of_gt K1_4.out.lt
           have LRB := Lib.hid Z_4.out
           have bl := (Below.refl w4.heap.size w4).alloc (Nat.le_refl _) (.cells #[.int .i64 0, .int .i64 0, .slice none 0 0] 69)
           have RB_500 := Lib.hid (Blk.new w4 69 #[.int .i64 0, .int .i64 0, .slice none 0 0])
           have B_500 := Lib.hid (Below.next B_4.out bl)
           clear B_4
           have K0_500 := Lib.hid (K0_4.out.below bl)
           clear K0_4
           have K1_500 := Lib.hid (K1_4.out.below bl)
           clear K1_4
           have Z_500 := Lib.hid (Nat.le_trans Z_4.out bl.size)
           clear Z_4
           clear bl
           generalize w4.alloc (.cells #[.int .i64 0, .int .i64 0, .slice none 0 0] 69) = w500 at B_500 K0_500 K1_500 Z_500 RB_500 ⊢
           have bl : Below w500.heap.size w500 w500.drew := (Below.refl _ _).drew
           have B_600 := Lib.hid (Below.next B_500.out bl)
           clear B_500
           have K0_600 := Lib.hid (K0_500.out.below bl)
           clear K0_500
           have K1_600 := Lib.hid (K1_500.out.below bl)
           clear K1_500
           have Z_600 := Lib.hid (Nat.le_trans Z_500.out bl.size)
           clear Z_500
           have RB_600 := Lib.hid (RB_500.out.below bl)
           clear RB_500
           clear bl
           refine (c_toMod _ _ _ ls0 _ (HS0.out.kept B_600.out) HZ0.out).mono ?_
           rintro e w5 ⟨gT0, yT0, rfl, hl, hp, ho, hnd, bl⟩
           have HPT0 := Lib.hid hp
           have HLT0 := Lib.hid hl
           have T0_5 := Lib.hid (OwnL.base B_600.out.size _ ho)
           have B_5 := Lib.hid (Below.next B_600.out bl)
           clear B_600
           have K0_5 := Lib.hid (K0_600.out.below bl)
           clear K0_600
           have K1_5 := Lib.hid (K1_600.out.below bl)
           clear K1_600
           have Z_5 := Lib.hid (Nat.le_trans Z_600.out bl.size)
           clear Z_600
           have RB_5 := Lib.hid (RB_600.out.below bl)
           clear RB_600
           clear hl hp ho hnd
           clear bl
           obtain ⟨pK00, pK0l⟩ := tb1 K0_5.out
           obtain ⟨pK10, pK11, pK12, pK1l⟩ := tb3 K1_5.out
           obtain ⟨pRB0, pRB1, pRB2, pRBl⟩ := tb3 RB_5.out)
        | (go_at_call 70
           clear pK00 pK0l pK10 pK11 pK12 pK1l pRB0 pRB1 pRB2 pRBl
           refine (c_toTensor r1 t1 _ _ _ z1 _ (HS1.out.kept B_5.out) HZ1.out).mono ?_
           rintro e w6 ⟨aT1, rfl, hf, bl⟩
           have ho := flL_own.2 hf
           have T1_6 := Lib.hid (OwnL.base B_5.out.size _ ho)
           have B_6 := Lib.hid (Below.next B_5.out bl)
           clear B_5
           have K0_6 := Lib.hid (K0_5.out.below bl)
           clear K0_5
           have K1_6 := Lib.hid (K1_5.out.below bl)
           clear K1_5
           have Z_6 := Lib.hid (Nat.le_trans Z_5.out bl.size)
           clear Z_5
           have T0_6 := Lib.hid (OwnL.kept T0_5.out bl)
           clear T0_5
           have RB_6 := Lib.hid (RB_5.out.below bl)
           clear RB_5
           clear hf ho
           clear bl
           obtain ⟨pK00, pK0l⟩ := tb1 K0_6.out
           obtain ⟨pK10, pK11, pK12, pK1l⟩ := tb3 K1_6.out
           obtain ⟨pRB0, pRB1, pRB2, pRBl⟩ := tb3 RB_6.out)
        | (go_at_call 70
           clear pK00 pK0l pK10 pK11 pK12 pK1l
           refine (c_toTensor r1 t1 _ _ _ z1 _ (HS1.out.kept B_5.out) HZ1.out).mono ?_
           rintro e w6 ⟨aT1, rfl, hf, bl⟩
           have ho := flL_own.2 hf
           have T1_6 := Lib.hid (OwnL.base B_5.out.size _ ho)
           have B_6 := Lib.hid (Below.next B_5.out bl)
           clear B_5
           have K0_6 := Lib.hid (K0_5.out.below bl)
           clear K0_5
           have K1_6 := Lib.hid (K1_5.out.below bl)
           clear K1_5
           have Z_6 := Lib.hid (Nat.le_trans Z_5.out bl.size)
           clear Z_5
           have T0_6 := Lib.hid (OwnL.kept T0_5.out bl)
           clear T0_5
           clear hf ho
           clear bl
           obtain ⟨pK00, pK0l⟩ := tb1 K0_6.out
           obtain ⟨pK10, pK11, pK12, pK1l⟩ := tb3 K1_6.out)
        | (go_at_call 70
           clear pK00 pK0l pK10 pK11 pK12 pK1l
           have NR_K0 : w.heap.size ≠ w5.heap.size := Nat.ne_of_lt K0_5.out.lt
           have MR_K0 : w5.heap.size ≠ w.heap.size := Nat.ne_of_gt K0_5.out.lt
           have NR_K1 : w.heap.size + 1 ≠ w5.heap.size := Nat.ne_of_lt K1_5.out.lt
           have MR_K1 : w5.heap.size ≠ w.heap.size + 1 := Nat.ne_of_gt K1_5.out.lt
           have LRB := Lib.hid Z_5.out
           have bl := (Below.refl w5.heap.size w5).alloc (Nat.le_refl _) (.cells #[.int .i64 0, .int .i64 0, .slice none 0 0] 69)
           have RB_501 := Lib.hid (Blk.new w5 69 #[.int .i64 0, .int .i64 0, .slice none 0 0])
           have B_501 := Lib.hid (Below.next B_5.out bl)
           clear B_5
           have K0_501 := Lib.hid (K0_5.out.below bl)
           clear K0_5
           have K1_501 := Lib.hid (K1_5.out.below bl)
           clear K1_5
           have Z_501 := Lib.hid (Nat.le_trans Z_5.out bl.size)
           clear Z_5
           have T0_501 := Lib.hid (OwnL.kept T0_5.out bl)
           clear T0_5
           clear bl
           generalize w5.alloc (.cells #[.int .i64 0, .int .i64 0, .slice none 0 0] 69) = w501 at B_501 K0_501 K1_501 Z_501 T0_501 RB_501 ⊢
           refine (c_toTensor r1 t1 _ _ _ z1 _ (HS1.out.kept B_501.out) HZ1.out).mono ?_
           rintro e w6 ⟨aT1, rfl, hf, bl⟩
           have ho := flL_own.2 hf
           have T1_6 := Lib.hid (OwnL.base B_501.out.size _ ho)
           have B_6 := Lib.hid (Below.next B_501.out bl)
           clear B_501
           have K0_6 := Lib.hid (K0_501.out.below bl)
           clear K0_501
           have K1_6 := Lib.hid (K1_501.out.below bl)
           clear K1_501
           have Z_6 := Lib.hid (Nat.le_trans Z_501.out bl.size)
           clear Z_501
           have T0_6 := Lib.hid (OwnL.kept T0_501.out bl)
           clear T0_501
           have RB_6 := Lib.hid (RB_501.out.below bl)
           clear RB_501
           clear hf ho
           clear bl
           obtain ⟨pK00, pK0l⟩ := tb1 K0_6.out
           obtain ⟨pK10, pK11, pK12, pK1l⟩ := tb3 K1_6.out
           obtain ⟨pRB0, pRB1, pRB2, pRBl⟩ := tb3 RB_6.out)
        | (go_at_call 69
           clear pK00 pK0l pK10 pK11 pK12 pK1l pRB0 pRB1 pRB2 pRBl
           have ZP := Lib.hid Z_6.out
           have SLT := Lib.hid RB_6.out.lt
           refine (CS.out _ _ yT0 _ _ _ HPT0.out (laysAt_own HLT0.out T0_6.out) (flL_at.1 (OwnL.at _ T1_6.out))).mono ?_
           rintro e w7 ⟨aS, capS, yS, rfl, ho, hy, bl⟩
           have HYS := Lib.hid hy
           have QO := Lib.hid (flL_own.2 ho)
           have B_7 := Lib.hid (Below.next B_6.out bl)
           clear B_6
           have K0_7 := Lib.hid (K0_6.out.below bl)
           clear K0_6
           have K1_7 := Lib.hid (K1_6.out.below bl)
           clear K1_6
           have Z_7 := Lib.hid (Nat.le_trans Z_6.out bl.size)
           clear Z_6
           have T0_7 := Lib.hid (OwnL.kept T0_6.out bl)
           clear T0_6
           have T1_7 := Lib.hid (OwnL.kept T1_6.out bl)
           clear T1_6
           have RB_7 := Lib.hid (RB_6.out.below bl)
           clear RB_6
           clear bl ho hy
           obtain ⟨pK00, pK0l⟩ := tb1 K0_7.out
           obtain ⟨pK10, pK11, pK12, pK1l⟩ := tb3 K1_7.out
           obtain ⟨pRB0, pRB1, pRB2, pRBl⟩ := tb3 RB_7.out
           have fzr0 := RB_7.out.frozen 0
           have fzr1 := RB_7.out.frozen 1
           have fzr2 := RB_7.out.frozen 2
           have st1 := store3 RB_7.out (x' := .int .i64 R) (y' := .int .i64 C) (z' := .slice aS yS.length capS))
        | (go_at_call 69
           clear pK00 pK0l pK10 pK11 pK12 pK1l
           have ZP := Lib.hid Z_6.out
           refine (CS.out _ _ yT0 _ _ _ HPT0.out (laysAt_own HLT0.out T0_6.out) (flL_at.1 (OwnL.at _ T1_6.out))).mono ?_
           rintro e w7 ⟨aS, capS, yS, rfl, ho, hy, bl⟩
           have HYS := Lib.hid hy
           have QO := Lib.hid (flL_own.2 ho)
           have B_7 := Lib.hid (Below.next B_6.out bl)
           clear B_6
           have K0_7 := Lib.hid (K0_6.out.below bl)
           clear K0_6
           have K1_7 := Lib.hid (K1_6.out.below bl)
           clear K1_6
           have Z_7 := Lib.hid (Nat.le_trans Z_6.out bl.size)
           clear Z_6
           have T0_7 := Lib.hid (OwnL.kept T0_6.out bl)
           clear T0_6
           have T1_7 := Lib.hid (OwnL.kept T1_6.out bl)
           clear T1_6
           clear bl ho hy
           obtain ⟨pK00, pK0l⟩ := tb1 K0_7.out
           obtain ⟨pK10, pK11, pK12, pK1l⟩ := tb3 K1_7.out
           have al := fun ob => (Below.refl w7.heap.size w7).alloc (Nat.le_refl _) ob)
        | (go_at_call 69
           clear pK00 pK0l pK10 pK11 pK12 pK1l
           have NR_K0 : w.heap.size ≠ w6.heap.size := Nat.ne_of_lt K0_6.out.lt
           have MR_K0 : w6.heap.size ≠ w.heap.size := Nat.ne_of_gt K0_6.out.lt
           have NR_K1 : w.heap.size + 1 ≠ w6.heap.size := Nat.ne_of_lt K1_6.out.lt
           have MR_K1 : w6.heap.size ≠ w.heap.size + 1 := Nat.ne_of_gt K1_6.out.lt
           have LRB := Lib.hid Z_6.out
           have bl := (Below.refl w6.heap.size w6).alloc (Nat.le_refl _) (.cells #[.int .i64 0, .int .i64 0, .slice none 0 0] 69)
           have RB_502 := Lib.hid (Blk.new w6 69 #[.int .i64 0, .int .i64 0, .slice none 0 0])
           have B_502 := Lib.hid (Below.next B_6.out bl)
           clear B_6
           have K0_502 := Lib.hid (K0_6.out.below bl)
           clear K0_6
           have K1_502 := Lib.hid (K1_6.out.below bl)
           clear K1_6
           have Z_502 := Lib.hid (Nat.le_trans Z_6.out bl.size)
           clear Z_6
           have T0_502 := Lib.hid (OwnL.kept T0_6.out bl)
           clear T0_6
           have T1_502 := Lib.hid (OwnL.kept T1_6.out bl)
           clear T1_6
           clear bl
           generalize w6.alloc (.cells #[.int .i64 0, .int .i64 0, .slice none 0 0] 69) = w502 at B_502 K0_502 K1_502 Z_502 T0_502 T1_502 RB_502 ⊢
           have ZP := Lib.hid Z_502.out
           have SLT := Lib.hid RB_502.out.lt
           refine (CS.out _ _ yT0 _ _ _ HPT0.out (laysAt_own HLT0.out T0_502.out) (flL_at.1 (OwnL.at _ T1_502.out))).mono ?_
           rintro e w7 ⟨aS, capS, yS, rfl, ho, hy, bl⟩
           have HYS := Lib.hid hy
           have QO := Lib.hid (flL_own.2 ho)
           have B_7 := Lib.hid (Below.next B_502.out bl)
           clear B_502
           have K0_7 := Lib.hid (K0_502.out.below bl)
           clear K0_502
           have K1_7 := Lib.hid (K1_502.out.below bl)
           clear K1_502
           have Z_7 := Lib.hid (Nat.le_trans Z_502.out bl.size)
           clear Z_502
           have T0_7 := Lib.hid (OwnL.kept T0_502.out bl)
           clear T0_502
           have T1_7 := Lib.hid (OwnL.kept T1_502.out bl)
           clear T1_502
           have RB_7 := Lib.hid (RB_502.out.below bl)
           clear RB_502
           clear bl ho hy
           obtain ⟨pK00, pK0l⟩ := tb1 K0_7.out
           obtain ⟨pK10, pK11, pK12, pK1l⟩ := tb3 K1_7.out
           obtain ⟨pRB0, pRB1, pRB2, pRBl⟩ := tb3 RB_7.out
           have fzr0 := RB_7.out.frozen 0
           have fzr1 := RB_7.out.frozen 1
           have fzr2 := RB_7.out.frozen 2
           have st1 := store3 RB_7.out (x' := .int .i64 R) (y' := .int .i64 C) (z' := .slice aS yS.length capS)))
    all_goals
      go_wp2_with fail
      go_meet
      first | exact ⟨_, aS, capS, yS, rfl, rfl, st1.1, OwnL.base (Nat.le_trans ZL.out ZP.out) _ (OwnL.upk QO.out st1.2 (fun x hx => Nat.ne_of_gt (Nat.lt_of_lt_of_le SLT.out (OwnL.lt _ QO.out x hx).1))), HYS.out, (fun x hx => Nat.ne_of_gt (Nat.lt_of_lt_of_le SLT.out (OwnL.lt _ QO.out x hx).1)), Below.at_ B_7.out st1.2 (Nat.le_trans ZL.out LRB.out), K0_7.out.off st1.2 NR_K0, K1_7.out.off st1.2 NR_K1⟩ | exact ⟨_, aS, capS, yS, rfl, rfl, Blk.new _ _ _, OwnL.base (Nat.le_trans ZL.out ZP.out) _ (OwnL.kept QO.out (al _)), HYS.out, (fun x hx => Nat.ne_of_lt (OwnL.lt _ QO.out x hx).2), Below.next B_7.out (al _), K0_7.out.below (al _), K1_7.out.below (al _)⟩
  case rest =>
  skip
  obtain ⟨w24, rfl⟩ : ∃ x : World, x = wc := ⟨_, rfl⟩
  obtain ⟨adS, aS, capS, yS, rfl, rfl, hk, ho, hy, hne, hb, h_K0, h_K1⟩ := hcut
  clear B_4 K0_4 K1_4
  have HYS := Lib.hid hy
  have K0_24 := Lib.hid h_K0
  have K1_24 := Lib.hid h_K1
  have B_24 := Lib.hid hb
  have S_24 := Lib.hid ho
  have SB_24 := Lib.hid hk
  clear hk ho hy hne hb h_K0 h_K1
  obtain ⟨pK00, pK0l⟩ := tb1 K0_24.out
  obtain ⟨pK10, pK11, pK12, pK1l⟩ := tb3 K1_24.out
  obtain ⟨pSB0, pSB1, pSB2, pSBl⟩ := tb3 SB_24.out
  go_wp2_with fail
  clear pK00 pK0l pK10 pK11 pK12 pK1l pSB0 pSB1 pSB2 pSBl
  refine (c_toMod _ _ _ ls0 _ (HS0.out.kept B_24.out) HZ0.out).mono ?_
  rintro e w25 ⟨gX0, yX0, rfl, hl, hp, ho, hnd, bl⟩
  have HPX0 := Lib.hid hp
  have HLX0 := Lib.hid hl
  have D_X0_K0 := Lib.hid (apart_box K0_24.out ho)
  have D_X0_K1 := Lib.hid (apart_box K1_24.out ho)
  have D_X0_S := Lib.hid (apart_new S_24.out ho)
  have D_X0_SB := Lib.hid (apart_box SB_24.out ho)
  have NDX0 := Lib.hid hnd
  have X0_25 := Lib.hid (OwnL.base B_24.out.size _ ho)
  have B_25 := Lib.hid (Below.next B_24.out bl)
  clear B_24
  have K0_25 := Lib.hid (K0_24.out.below bl)
  clear K0_24
  have K1_25 := Lib.hid (K1_24.out.below bl)
  clear K1_24
  have S_25 := Lib.hid (OwnL.kept S_24.out bl)
  clear S_24
  have SB_25 := Lib.hid (SB_24.out.below bl)
  clear SB_24
  clear hl hp ho hnd
  clear bl
  obtain ⟨pK00, pK0l⟩ := tb1 K0_25.out
  obtain ⟨pK10, pK11, pK12, pK1l⟩ := tb3 K1_25.out
  obtain ⟨pSB0, pSB1, pSB2, pSBl⟩ := tb3 SB_25.out
  go_wp2_with fail
  clear pK00 pK0l pK10 pK11 pK12 pK1l pSB0 pSB1 pSB2 pSBl
  have D_X0_XB0 := Lib.hid (apart_next X0_25.out)
  have bl := (Below.refl w25.heap.size w25).alloc (Nat.le_refl _) (.cells #[.slice (some ⟨gX0, 0, none⟩) ls0.length ls0.length] 92)
  have XB0_26 := Lib.hid (Blk.new w25 92 #[.slice (some ⟨gX0, 0, none⟩) ls0.length ls0.length])
  have B_26 := Lib.hid (Below.next B_25.out bl)
  clear B_25
  have K0_26 := Lib.hid (K0_25.out.below bl)
  clear K0_25
  have K1_26 := Lib.hid (K1_25.out.below bl)
  clear K1_25
  have S_26 := Lib.hid (OwnL.kept S_25.out bl)
  clear S_25
  have SB_26 := Lib.hid (SB_25.out.below bl)
  clear SB_25
  have X0_26 := Lib.hid (OwnL.kept X0_25.out bl)
  clear X0_25
  clear bl
  generalize w25.alloc (.cells #[.slice (some ⟨gX0, 0, none⟩) ls0.length ls0.length] 92) = w26 at B_26 K0_26 K1_26 S_26 SB_26 X0_26 XB0_26 ⊢
  obtain ⟨pK00, pK0l⟩ := tb1 K0_26.out
  obtain ⟨pK10, pK11, pK12, pK1l⟩ := tb3 K1_26.out
  obtain ⟨pSB0, pSB1, pSB2, pSBl⟩ := tb3 SB_26.out
  obtain ⟨pXB00, pXB0l⟩ := tb1 XB0_26.out
  try go_wp2_with fail
  clear pK00 pK0l pK10 pK11 pK12 pK1l pSB0 pSB1 pSB2 pSBl pXB00 pXB0l
  obtain ⟨pK00, pK0l⟩ := tb1 K0_26.out
  obtain ⟨pK10, pK11, pK12, pK1l⟩ := tb3 K1_26.out
  obtain ⟨pSB0, pSB1, pSB2, pSBl⟩ := tb3 SB_26.out
  obtain ⟨pXB00, pXB0l⟩ := tb1 XB0_26.out
  go_wp2_with fail
  clear pK00 pK0l pK10 pK11 pK12 pK1l pSB0 pSB1 pSB2 pSBl pXB00 pXB0l
  refine (c_toTensor r1 t1 _ _ _ z1 _ (HS1.out.kept B_26.out) HZ1.out).mono ?_
  rintro e w27 ⟨aX1, rfl, hf, bl⟩
  have ho := flL_own.2 hf
  have D_X1_K0 := Lib.hid (apart_box K0_26.out ho)
  have D_X1_K1 := Lib.hid (apart_box K1_26.out ho)
  have D_X1_S := Lib.hid (apart_new S_26.out ho)
  have D_X1_SB := Lib.hid (apart_box SB_26.out ho)
  have D_X0_X1 := Lib.hid (apart_symm (apart_new X0_26.out ho))
  have D_X1_X0 := Lib.hid (apart_new X0_26.out ho)
  have D_X1_XB0 := Lib.hid (apart_box XB0_26.out ho)
  have X1_27 := Lib.hid (OwnL.base B_26.out.size _ ho)
  have B_27 := Lib.hid (Below.next B_26.out bl)
  clear B_26
  have K0_27 := Lib.hid (K0_26.out.below bl)
  clear K0_26
  have K1_27 := Lib.hid (K1_26.out.below bl)
  clear K1_26
  have S_27 := Lib.hid (OwnL.kept S_26.out bl)
  clear S_26
  have SB_27 := Lib.hid (SB_26.out.below bl)
  clear SB_26
  have X0_27 := Lib.hid (OwnL.kept X0_26.out bl)
  clear X0_26
  have XB0_27 := Lib.hid (XB0_26.out.below bl)
  clear XB0_26
  clear hf ho
  clear bl
  obtain ⟨pK00, pK0l⟩ := tb1 K0_27.out
  obtain ⟨pK10, pK11, pK12, pK1l⟩ := tb3 K1_27.out
  obtain ⟨pSB0, pSB1, pSB2, pSBl⟩ := tb3 SB_27.out
  obtain ⟨pXB00, pXB0l⟩ := tb1 XB0_27.out
  go_wp2_with fail
  clear pK00 pK0l pK10 pK11 pK12 pK1l pSB0 pSB1 pSB2 pSBl pXB00 pXB0l
  have D_X0_XB1 := Lib.hid (apart_next X0_27.out)
  have D_X1_XB1 := Lib.hid (apart_next X1_27.out)
  have bl := (Below.refl w27.heap.size w27).alloc (Nat.le_refl _) (.cells #[.int .i64 r1, .int .i64 t1, .slice aX1 z1.length z1.length] 69)
  have XB1_28 := Lib.hid (Blk.new w27 69 #[.int .i64 r1, .int .i64 t1, .slice aX1 z1.length z1.length])
  have B_28 := Lib.hid (Below.next B_27.out bl)
  clear B_27
  have K0_28 := Lib.hid (K0_27.out.below bl)
  clear K0_27
  have K1_28 := Lib.hid (K1_27.out.below bl)
  clear K1_27
  have S_28 := Lib.hid (OwnL.kept S_27.out bl)
  clear S_27
  have SB_28 := Lib.hid (SB_27.out.below bl)
  clear SB_27
  have X0_28 := Lib.hid (OwnL.kept X0_27.out bl)
  clear X0_27
  have XB0_28 := Lib.hid (XB0_27.out.below bl)
  clear XB0_27
  have X1_28 := Lib.hid (OwnL.kept X1_27.out bl)
  clear X1_27
  clear bl
  generalize w27.alloc (.cells #[.int .i64 r1, .int .i64 t1, .slice aX1 z1.length z1.length] 69) = w28 at B_28 K0_28 K1_28 S_28 SB_28 X0_28 XB0_28 X1_28 XB1_28 ⊢
  obtain ⟨pK00, pK0l⟩ := tb1 K0_28.out
  obtain ⟨pK10, pK11, pK12, pK1l⟩ := tb3 K1_28.out
  obtain ⟨pSB0, pSB1, pSB2, pSBl⟩ := tb3 SB_28.out
  obtain ⟨pXB00, pXB0l⟩ := tb1 XB0_28.out
  obtain ⟨pXB10, pXB11, pXB12, pXB1l⟩ := tb3 XB1_28.out
  try go_wp2_with fail
  clear pK00 pK0l pK10 pK11 pK12 pK1l pSB0 pSB1 pSB2 pSBl pXB00 pXB0l pXB10 pXB11 pXB12 pXB1l
  refine (CI.out _ _ yX0 _ _ _ HPX0.out (laysAt_own HLX0.out X0_28.out) (flL_at.1 (OwnL.at _ X1_28.out))).mono ?_
  rintro e w29 ⟨aG, capG, yG, rfl, hf, hy, bl⟩
  have HYG := Lib.hid hy
  have ho := flL_own.2 hf
  have D_G_K0 := Lib.hid (apart_box K0_28.out ho)
  have D_G_K1 := Lib.hid (apart_box K1_28.out ho)
  have D_G_S := Lib.hid (apart_new S_28.out ho)
  have D_G_SB := Lib.hid (apart_box SB_28.out ho)
  have D_X0_G := Lib.hid (apart_symm (apart_new X0_28.out ho))
  have D_G_X0 := Lib.hid (apart_new X0_28.out ho)
  have D_G_XB0 := Lib.hid (apart_box XB0_28.out ho)
  have D_X1_G := Lib.hid (apart_symm (apart_new X1_28.out ho))
  have D_G_X1 := Lib.hid (apart_new X1_28.out ho)
  have D_G_XB1 := Lib.hid (apart_box XB1_28.out ho)
  have LG := Lib.hid (hf.lenle HYG.out hz)
  have G_29 := Lib.hid (OwnL.base B_28.out.size _ ho)
  have B_29 := Lib.hid (Below.next B_28.out bl)
  clear B_28
  have K0_29 := Lib.hid (K0_28.out.below bl)
  clear K0_28
  have K1_29 := Lib.hid (K1_28.out.below bl)
  clear K1_28
  have S_29 := Lib.hid (OwnL.kept S_28.out bl)
  clear S_28
  have SB_29 := Lib.hid (SB_28.out.below bl)
  clear SB_28
  have X0_29 := Lib.hid (OwnL.kept X0_28.out bl)
  clear X0_28
  have XB0_29 := Lib.hid (XB0_28.out.below bl)
  clear XB0_28
  have X1_29 := Lib.hid (OwnL.kept X1_28.out bl)
  clear X1_28
  have XB1_29 := Lib.hid (XB1_28.out.below bl)
  clear XB1_28
  clear hf hy ho
  clear bl
  obtain ⟨pK00, pK0l⟩ := tb1 K0_29.out
  obtain ⟨pK10, pK11, pK12, pK1l⟩ := tb3 K1_29.out
  obtain ⟨pSB0, pSB1, pSB2, pSBl⟩ := tb3 SB_29.out
  obtain ⟨pXB00, pXB0l⟩ := tb1 XB0_29.out
  obtain ⟨pXB10, pXB11, pXB12, pXB1l⟩ := tb3 XB1_29.out
  go_wp2_with fail
  clear pK00 pK0l pK10 pK11 pK12 pK1l pSB0 pSB1 pSB2 pSBl pXB00 pXB0l pXB10 pXB11 pXB12 pXB1l
  have D_X0_GB := Lib.hid (apart_next X0_29.out)
  have D_X1_GB := Lib.hid (apart_next X1_29.out)
  have D_G_GB := Lib.hid (apart_next G_29.out)
  have bl := (Below.refl w29.heap.size w29).alloc (Nat.le_refl _) (.cells #[.int .i64 R, .int .i64 C, .slice aG yG.length capG] 69)
  have GB_30 := Lib.hid (Blk.new w29 69 #[.int .i64 R, .int .i64 C, .slice aG yG.length capG])
  have B_30 := Lib.hid (Below.next B_29.out bl)
  clear B_29
  have K0_30 := Lib.hid (K0_29.out.below bl)
  clear K0_29
  have K1_30 := Lib.hid (K1_29.out.below bl)
  clear K1_29
  have S_30 := Lib.hid (OwnL.kept S_29.out bl)
  clear S_29
  have SB_30 := Lib.hid (SB_29.out.below bl)
  clear SB_29
  have X0_30 := Lib.hid (OwnL.kept X0_29.out bl)
  clear X0_29
  have XB0_30 := Lib.hid (XB0_29.out.below bl)
  clear XB0_29
  have X1_30 := Lib.hid (OwnL.kept X1_29.out bl)
  clear X1_29
  have XB1_30 := Lib.hid (XB1_29.out.below bl)
  clear XB1_29
  have G_30 := Lib.hid (OwnL.kept G_29.out bl)
  clear G_29
  clear bl
  generalize w29.alloc (.cells #[.int .i64 R, .int .i64 C, .slice aG yG.length capG] 69) = w30 at B_30 K0_30 K1_30 S_30 SB_30 X0_30 XB0_30 X1_30 XB1_30 G_30 GB_30 ⊢
  obtain ⟨pK00, pK0l⟩ := tb1 K0_30.out
  obtain ⟨pK10, pK11, pK12, pK1l⟩ := tb3 K1_30.out
  obtain ⟨pSB0, pSB1, pSB2, pSBl⟩ := tb3 SB_30.out
  obtain ⟨pXB00, pXB0l⟩ := tb1 XB0_30.out
  obtain ⟨pXB10, pXB11, pXB12, pXB1l⟩ := tb3 XB1_30.out
  obtain ⟨pGB0, pGB1, pGB2, pGBl⟩ := tb3 GB_30.out
  try go_wp2_with fail
  clear pK00 pK0l pK10 pK11 pK12 pK1l pSB0 pSB1 pSB2 pSBl pXB00 pXB0l pXB10 pXB11 pXB12 pXB1l pGB0 pGB1 pGB2 pGBl
  refine (c_eqTensor R C _ _ _ _ yG yS _ (flL_at.1 (OwnL.at _ G_30.out)) (flL_at.1 (OwnL.at _ S_30.out)) (HYG.out.trans HYS.out.symm)).mono ?_
  rintro e w31 ⟨rfl, bl⟩
  have B_31 := Lib.hid (Below.next B_30.out bl)
  clear B_30
  have K0_31 := Lib.hid (K0_30.out.below bl)
  clear K0_30
  have K1_31 := Lib.hid (K1_30.out.below bl)
  clear K1_30
  have S_31 := Lib.hid (OwnL.kept S_30.out bl)
  clear S_30
  have SB_31 := Lib.hid (SB_30.out.below bl)
  clear SB_30
  have X0_31 := Lib.hid (OwnL.kept X0_30.out bl)
  clear X0_30
  have XB0_31 := Lib.hid (XB0_30.out.below bl)
  clear XB0_30
  have X1_31 := Lib.hid (OwnL.kept X1_30.out bl)
  clear X1_30
  have XB1_31 := Lib.hid (XB1_30.out.below bl)
  clear XB1_30
  have G_31 := Lib.hid (OwnL.kept G_30.out bl)
  clear G_30
  have GB_31 := Lib.hid (GB_30.out.below bl)
  clear GB_30
  clear bl
  obtain ⟨pK00, pK0l⟩ := tb1 K0_31.out
  obtain ⟨pK10, pK11, pK12, pK1l⟩ := tb3 K1_31.out
  obtain ⟨pSB0, pSB1, pSB2, pSBl⟩ := tb3 SB_31.out
  obtain ⟨pXB00, pXB0l⟩ := tb1 XB0_31.out
  obtain ⟨pXB10, pXB11, pXB12, pXB1l⟩ := tb3 XB1_31.out
  obtain ⟨pGB0, pGB1, pGB2, pGBl⟩ := tb3 GB_31.out
  go_wp2_with fail
  clear pK00 pK0l pK10 pK11 pK12 pK1l pSB0 pSB1 pSB2 pSBl pXB00 pXB0l pXB10 pXB11 pXB12 pXB1l pGB0 pGB1 pGB2 pGBl
  have bl : Below w31.heap.size w31 w31.drew := (Below.refl _ _).drew
  have B_32 := Lib.hid (Below.next B_31.out bl)
  clear B_31
  have K0_32 := Lib.hid (K0_31.out.below bl)
  clear K0_31
  have K1_32 := Lib.hid (K1_31.out.below bl)
  clear K1_31
  have S_32 := Lib.hid (OwnL.kept S_31.out bl)
  clear S_31
  have SB_32 := Lib.hid (SB_31.out.below bl)
  clear SB_31
  have X0_32 := Lib.hid (OwnL.kept X0_31.out bl)
  clear X0_31
  have XB0_32 := Lib.hid (XB0_31.out.below bl)
  clear XB0_31
  have X1_32 := Lib.hid (OwnL.kept X1_31.out bl)
  clear X1_31
  have XB1_32 := Lib.hid (XB1_31.out.below bl)
  clear XB1_31
  have G_32 := Lib.hid (OwnL.kept G_31.out bl)
  clear G_31
  have GB_32 := Lib.hid (GB_31.out.below bl)
  clear GB_31
  clear bl
  obtain ⟨pK00, pK0l⟩ := tb1 K0_32.out
  obtain ⟨pK10, pK11, pK12, pK1l⟩ := tb3 K1_32.out
  obtain ⟨pSB0, pSB1, pSB2, pSBl⟩ := tb3 SB_32.out
  obtain ⟨pXB00, pXB0l⟩ := tb1 XB0_32.out
  obtain ⟨pXB10, pXB11, pXB12, pXB1l⟩ := tb3 XB1_32.out
  obtain ⟨pGB0, pGB1, pGB2, pGBl⟩ := tb3 GB_32.out
  go_region_held3 (fun w' => w'.cell? ⟨w.heap.size, 0, none⟩ = some (.slice g0 ls0.length c0) ∧ w'.cell? ⟨w.heap.size + 1, 0, none⟩ = some (.int .i64 r1) ∧ w'.cell? ⟨w.heap.size + 1, 1, none⟩ = some (.int .i64 t1) ∧ w'.cell? ⟨w.heap.size + 1, 2, none⟩ = some (.slice a1 z1.length c1) ∧ w'.cell? ⟨adS, 0, none⟩ = some (.int .i64 R) ∧ w'.cell? ⟨adS, 1, none⟩ = some (.int .i64 C) ∧ w'.cell? ⟨adS, 2, none⟩ = some (.slice aS yS.length capS) ∧ w'.cell? ⟨w25.heap.size, 0, none⟩ = some (.slice (some ⟨gX0, 0, none⟩) ls0.length ls0.length) ∧ w'.cell? ⟨w27.heap.size, 0, none⟩ = some (.int .i64 r1) ∧ w'.cell? ⟨w27.heap.size, 1, none⟩ = some (.int .i64 t1) ∧ w'.cell? ⟨w27.heap.size, 2, none⟩ = some (.slice aX1 z1.length z1.length) ∧ w'.cell? ⟨w29.heap.size, 0, none⟩ = some (.int .i64 R) ∧ w'.cell? ⟨w29.heap.size, 1, none⟩ = some (.int .i64 C) ∧ w'.cell? ⟨w29.heap.size, 2, none⟩ = some (.slice aG yG.length capG)) (go_keep)
    (first
      | (go_at_call 63
         clear pK00 pK0l pK10 pK11 pK12 pK1l pSB0 pSB1 pSB2 pSBl pXB00 pXB0l pXB10 pXB11 pXB12 pXB1l pGB0 pGB1 pGB2 pGBl
         refine (c_toMod _ _ _ ls0 _ (HS0.out.kept B_32.out) HZ0.out).mono ?_
         rintro e w33 ⟨gY0, yY0, rfl, hl, hp, ho, hnd, bl⟩
         have HPY0 := Lib.hid hp
         have HLY0 := Lib.hid hl
         have Y0_33 := Lib.hid (OwnL.base B_32.out.size _ ho)
         have B_33 := Lib.hid (Below.next B_32.out bl)
         clear B_32
         have K0_33 := Lib.hid (K0_32.out.below bl)
         clear K0_32
         have K1_33 := Lib.hid (K1_32.out.below bl)
         clear K1_32
         have S_33 := Lib.hid (OwnL.kept S_32.out bl)
         clear S_32
         have SB_33 := Lib.hid (SB_32.out.below bl)
         clear SB_32
         have X0_33 := Lib.hid (OwnL.kept X0_32.out bl)
         clear X0_32
         have XB0_33 := Lib.hid (XB0_32.out.below bl)
         clear XB0_32
         have X1_33 := Lib.hid (OwnL.kept X1_32.out bl)
         clear X1_32
         have XB1_33 := Lib.hid (XB1_32.out.below bl)
         clear XB1_32
         have G_33 := Lib.hid (OwnL.kept G_32.out bl)
         clear G_32
         have GB_33 := Lib.hid (GB_32.out.below bl)
         clear GB_32
         clear hl hp ho hnd
         clear bl
         obtain ⟨pK00, pK0l⟩ := tb1 K0_33.out
         obtain ⟨pK10, pK11, pK12, pK1l⟩ := tb3 K1_33.out
         obtain ⟨pSB0, pSB1, pSB2, pSBl⟩ := tb3 SB_33.out
         obtain ⟨pXB00, pXB0l⟩ := tb1 XB0_33.out
         obtain ⟨pXB10, pXB11, pXB12, pXB1l⟩ := tb3 XB1_33.out
         obtain ⟨pGB0, pGB1, pGB2, pGBl⟩ := tb3 GB_33.out)
      | (go_at_call 65
         clear pK00 pK0l pK10 pK11 pK12 pK1l pSB0 pSB1 pSB2 pSBl pXB00 pXB0l pXB10 pXB11 pXB12 pXB1l pGB0 pGB1 pGB2 pGBl
         refine (c_eqMod _ _ _ _ _ yX0 yY0 _ (laysAt_own HLX0.out X0_33.out) (laysAt_own HLY0.out Y0_33.out) (can_of (HPX0.out.trans HPY0.out.symm))).mono ?_
         rintro e w34 ⟨rfl, bl⟩
         have B_34 := Lib.hid (Below.next B_33.out bl)
         clear B_33
         have K0_34 := Lib.hid (K0_33.out.below bl)
         clear K0_33
         have K1_34 := Lib.hid (K1_33.out.below bl)
         clear K1_33
         have S_34 := Lib.hid (OwnL.kept S_33.out bl)
         clear S_33
         have SB_34 := Lib.hid (SB_33.out.below bl)
         clear SB_33
         have X0_34 := Lib.hid (OwnL.kept X0_33.out bl)
         clear X0_33
         have XB0_34 := Lib.hid (XB0_33.out.below bl)
         clear XB0_33
         have X1_34 := Lib.hid (OwnL.kept X1_33.out bl)
         clear X1_33
         have XB1_34 := Lib.hid (XB1_33.out.below bl)
         clear XB1_33
         have G_34 := Lib.hid (OwnL.kept G_33.out bl)
         clear G_33
         have GB_34 := Lib.hid (GB_33.out.below bl)
         clear GB_33
         have Y0_34 := Lib.hid (OwnL.kept Y0_33.out bl)
         clear Y0_33
         clear bl
         obtain ⟨pK00, pK0l⟩ := tb1 K0_34.out
         obtain ⟨pK10, pK11, pK12, pK1l⟩ := tb3 K1_34.out
         obtain ⟨pSB0, pSB1, pSB2, pSBl⟩ := tb3 SB_34.out
         obtain ⟨pXB00, pXB0l⟩ := tb1 XB0_34.out
         obtain ⟨pXB10, pXB11, pXB12, pXB1l⟩ := tb3 XB1_34.out
         obtain ⟨pGB0, pGB1, pGB2, pGBl⟩ := tb3 GB_34.out))
  clear pK00 pK0l pK10 pK11 pK12 pK1l pSB0 pSB1 pSB2 pSBl pXB00 pXB0l pXB10 pXB11 pXB12 pXB1l pGB0 pGB1 pGB2 pGBl
  clear Y0_34
  obtain ⟨pK00, pK0l⟩ := tb1 K0_34.out
  obtain ⟨pK10, pK11, pK12, pK1l⟩ := tb3 K1_34.out
  obtain ⟨pSB0, pSB1, pSB2, pSBl⟩ := tb3 SB_34.out
  obtain ⟨pXB00, pXB0l⟩ := tb1 XB0_34.out
  obtain ⟨pXB10, pXB11, pXB12, pXB1l⟩ := tb3 XB1_34.out
  obtain ⟨pGB0, pGB1, pGB2, pGBl⟩ := tb3 GB_34.out
  go_wp2_with fail
  clear pK00 pK0l pK10 pK11 pK12 pK1l pSB0 pSB1 pSB2 pSBl pXB00 pXB0l pXB10 pXB11 pXB12 pXB1l pGB0 pGB1 pGB2 pGBl
  have bl : Below w34.heap.size w34 w34.drew := (Below.refl _ _).drew
  have B_35 := Lib.hid (Below.next B_34.out bl)
  clear B_34
  have K0_35 := Lib.hid (K0_34.out.below bl)
  clear K0_34
  have K1_35 := Lib.hid (K1_34.out.below bl)
  clear K1_34
  have S_35 := Lib.hid (OwnL.kept S_34.out bl)
  clear S_34
  have SB_35 := Lib.hid (SB_34.out.below bl)
  clear SB_34
  have X0_35 := Lib.hid (OwnL.kept X0_34.out bl)
  clear X0_34
  have XB0_35 := Lib.hid (XB0_34.out.below bl)
  clear XB0_34
  have X1_35 := Lib.hid (OwnL.kept X1_34.out bl)
  clear X1_34
  have XB1_35 := Lib.hid (XB1_34.out.below bl)
  clear XB1_34
  have G_35 := Lib.hid (OwnL.kept G_34.out bl)
  clear G_34
  have GB_35 := Lib.hid (GB_34.out.below bl)
  clear GB_34
  clear bl
  obtain ⟨pK00, pK0l⟩ := tb1 K0_35.out
  obtain ⟨pK10, pK11, pK12, pK1l⟩ := tb3 K1_35.out
  obtain ⟨pSB0, pSB1, pSB2, pSBl⟩ := tb3 SB_35.out
  obtain ⟨pXB00, pXB0l⟩ := tb1 XB0_35.out
  obtain ⟨pXB10, pXB11, pXB12, pXB1l⟩ := tb3 XB1_35.out
  obtain ⟨pGB0, pGB1, pGB2, pGBl⟩ := tb3 GB_35.out
  go_region_held3 (fun w' => w'.cell? ⟨w.heap.size, 0, none⟩ = some (.slice g0 ls0.length c0) ∧ w'.cell? ⟨w.heap.size + 1, 0, none⟩ = some (.int .i64 r1) ∧ w'.cell? ⟨w.heap.size + 1, 1, none⟩ = some (.int .i64 t1) ∧ w'.cell? ⟨w.heap.size + 1, 2, none⟩ = some (.slice a1 z1.length c1) ∧ w'.cell? ⟨adS, 0, none⟩ = some (.int .i64 R) ∧ w'.cell? ⟨adS, 1, none⟩ = some (.int .i64 C) ∧ w'.cell? ⟨adS, 2, none⟩ = some (.slice aS yS.length capS) ∧ w'.cell? ⟨w25.heap.size, 0, none⟩ = some (.slice (some ⟨gX0, 0, none⟩) ls0.length ls0.length) ∧ w'.cell? ⟨w27.heap.size, 0, none⟩ = some (.int .i64 r1) ∧ w'.cell? ⟨w27.heap.size, 1, none⟩ = some (.int .i64 t1) ∧ w'.cell? ⟨w27.heap.size, 2, none⟩ = some (.slice aX1 z1.length z1.length) ∧ w'.cell? ⟨w29.heap.size, 0, none⟩ = some (.int .i64 R) ∧ w'.cell? ⟨w29.heap.size, 1, none⟩ = some (.int .i64 C) ∧ w'.cell? ⟨w29.heap.size, 2, none⟩ = some (.slice aG yG.length capG)) (go_keep)
    (first
      | (go_at_call 70
         clear pK00 pK0l pK10 pK11 pK12 pK1l pSB0 pSB1 pSB2 pSBl pXB00 pXB0l pXB10 pXB11 pXB12 pXB1l pGB0 pGB1 pGB2 pGBl
         refine (c_toTensor r1 t1 _ _ _ z1 _ (HS1.out.kept B_35.out) HZ1.out).mono ?_
         rintro e w36 ⟨aY1, rfl, hf, bl⟩
         have ho := flL_own.2 hf
         have Y1_36 := Lib.hid (OwnL.base B_35.out.size _ ho)
         have B_36 := Lib.hid (Below.next B_35.out bl)
         clear B_35
         have K0_36 := Lib.hid (K0_35.out.below bl)
         clear K0_35
         have K1_36 := Lib.hid (K1_35.out.below bl)
         clear K1_35
         have S_36 := Lib.hid (OwnL.kept S_35.out bl)
         clear S_35
         have SB_36 := Lib.hid (SB_35.out.below bl)
         clear SB_35
         have X0_36 := Lib.hid (OwnL.kept X0_35.out bl)
         clear X0_35
         have XB0_36 := Lib.hid (XB0_35.out.below bl)
         clear XB0_35
         have X1_36 := Lib.hid (OwnL.kept X1_35.out bl)
         clear X1_35
         have XB1_36 := Lib.hid (XB1_35.out.below bl)
         clear XB1_35
         have G_36 := Lib.hid (OwnL.kept G_35.out bl)
         clear G_35
         have GB_36 := Lib.hid (GB_35.out.below bl)
         clear GB_35
         clear hf ho
         clear bl
         obtain ⟨pK00, pK0l⟩ := tb1 K0_36.out
         obtain ⟨pK10, pK11, pK12, pK1l⟩ := tb3 K1_36.out
         obtain ⟨pSB0, pSB1, pSB2, pSBl⟩ := tb3 SB_36.out
         obtain ⟨pXB00, pXB0l⟩ := tb1 XB0_36.out
         obtain ⟨pXB10, pXB11, pXB12, pXB1l⟩ := tb3 XB1_36.out
         obtain ⟨pGB0, pGB1, pGB2, pGBl⟩ := tb3 GB_36.out)
      | (go_at_call 72
         clear pK00 pK0l pK10 pK11 pK12 pK1l pSB0 pSB1 pSB2 pSBl pXB00 pXB0l pXB10 pXB11 pXB12 pXB1l pGB0 pGB1 pGB2 pGBl
         refine (c_eqTensor r1 t1 _ _ _ _ z1 z1 _ (flL_at.1 (OwnL.at _ X1_36.out)) (flL_at.1 (OwnL.at _ Y1_36.out)) rfl).mono ?_
         rintro e w37 ⟨rfl, bl⟩
         have B_37 := Lib.hid (Below.next B_36.out bl)
         clear B_36
         have K0_37 := Lib.hid (K0_36.out.below bl)
         clear K0_36
         have K1_37 := Lib.hid (K1_36.out.below bl)
         clear K1_36
         have S_37 := Lib.hid (OwnL.kept S_36.out bl)
         clear S_36
         have SB_37 := Lib.hid (SB_36.out.below bl)
         clear SB_36
         have X0_37 := Lib.hid (OwnL.kept X0_36.out bl)
         clear X0_36
         have XB0_37 := Lib.hid (XB0_36.out.below bl)
         clear XB0_36
         have X1_37 := Lib.hid (OwnL.kept X1_36.out bl)
         clear X1_36
         have XB1_37 := Lib.hid (XB1_36.out.below bl)
         clear XB1_36
         have G_37 := Lib.hid (OwnL.kept G_36.out bl)
         clear G_36
         have GB_37 := Lib.hid (GB_36.out.below bl)
         clear GB_36
         have Y1_37 := Lib.hid (OwnL.kept Y1_36.out bl)
         clear Y1_36
         clear bl
         obtain ⟨pK00, pK0l⟩ := tb1 K0_37.out
         obtain ⟨pK10, pK11, pK12, pK1l⟩ := tb3 K1_37.out
         obtain ⟨pSB0, pSB1, pSB2, pSBl⟩ := tb3 SB_37.out
         obtain ⟨pXB00, pXB0l⟩ := tb1 XB0_37.out
         obtain ⟨pXB10, pXB11, pXB12, pXB1l⟩ := tb3 XB1_37.out
         obtain ⟨pGB0, pGB1, pGB2, pGBl⟩ := tb3 GB_37.out))
  clear pK00 pK0l pK10 pK11 pK12 pK1l pSB0 pSB1 pSB2 pSBl pXB00 pXB0l pXB10 pXB11 pXB12 pXB1l pGB0 pGB1 pGB2 pGBl
  clear Y1_37
  obtain ⟨pK00, pK0l⟩ := tb1 K0_37.out
  obtain ⟨pK10, pK11, pK12, pK1l⟩ := tb3 K1_37.out
  obtain ⟨pSB0, pSB1, pSB2, pSBl⟩ := tb3 SB_37.out
  obtain ⟨pXB00, pXB0l⟩ := tb1 XB0_37.out
  obtain ⟨pXB10, pXB11, pXB12, pXB1l⟩ := tb3 XB1_37.out
  obtain ⟨pGB0, pGB1, pGB2, pGBl⟩ := tb3 GB_37.out
  go_wp2_with fail
  clear pK00 pK0l pK10 pK11 pK12 pK1l pSB0 pSB1 pSB2 pSBl pXB00 pXB0l pXB10 pXB11 pXB12 pXB1l pGB0 pGB1 pGB2 pGBl
  refine (c_markMod _ _ _ 1 m0 _ yX0 _ HLX0.out X0_37.out NDX0.out (by rw [cnt_copy HLX0.out HPX0.out]; exact HM0.out) hm0' (by rw [HPX0.out]; have := HZ0.out; omega)).mono ?_
  rintro e w38 ⟨rfl, ho, hg⟩
  have B_38 := Lib.hid (hg.below' B_37.out (fun g h => (OwnL.lt _ X0_37.out g h).1))
  have K0_38 := Lib.hid (K0_37.out.inn hg D_X0_K0.out)
  have K1_38 := Lib.hid (K1_37.out.inn hg D_X0_K1.out)
  have S_38 := Lib.hid (OwnL.apart hg _ S_37.out D_X0_S.out)
  have SB_38 := Lib.hid (SB_37.out.inn hg D_X0_SB.out)
  have XB0_38 := Lib.hid (XB0_37.out.inn hg D_X0_XB0.out)
  have X1_38 := Lib.hid (OwnL.apart hg _ X1_37.out D_X0_X1.out)
  have XB1_38 := Lib.hid (XB1_37.out.inn hg D_X0_XB1.out)
  have G_38 := Lib.hid (OwnL.apart hg _ G_37.out D_X0_G.out)
  have GB_38 := Lib.hid (GB_37.out.inn hg D_X0_GB.out)
  clear B_37
  clear K0_37
  clear K1_37
  clear S_37
  clear SB_37
  clear X0_37
  clear XB0_37
  clear X1_37
  clear XB1_37
  clear G_37
  clear GB_37
  clear ho hg
  obtain ⟨pK00, pK0l⟩ := tb1 K0_38.out
  obtain ⟨pK10, pK11, pK12, pK1l⟩ := tb3 K1_38.out
  obtain ⟨pSB0, pSB1, pSB2, pSBl⟩ := tb3 SB_38.out
  obtain ⟨pXB00, pXB0l⟩ := tb1 XB0_38.out
  obtain ⟨pXB10, pXB11, pXB12, pXB1l⟩ := tb3 XB1_38.out
  obtain ⟨pGB0, pGB1, pGB2, pGBl⟩ := tb3 GB_38.out
  go_wp2_with fail
  clear pK00 pK0l pK10 pK11 pK12 pK1l pSB0 pSB1 pSB2 pSBl pXB00 pXB0l pXB10 pXB11 pXB12 pXB1l pGB0 pGB1 pGB2 pGBl
  refine (c_markTen r1 t1 _ _ _ m0 m1 z1 _ X1_38.out HM1.out hm0' HZ1.out).mono ?_
  rintro e w39 ⟨rfl, ho, hg⟩
  have B_39 := Lib.hid (hg.below' B_38.out (fun g h => (OwnL.lt _ X1_38.out g h).1))
  have K0_39 := Lib.hid (K0_38.out.inn hg D_X1_K0.out)
  have K1_39 := Lib.hid (K1_38.out.inn hg D_X1_K1.out)
  have S_39 := Lib.hid (OwnL.apart hg _ S_38.out D_X1_S.out)
  have SB_39 := Lib.hid (SB_38.out.inn hg D_X1_SB.out)
  have XB0_39 := Lib.hid (XB0_38.out.inn hg D_X1_XB0.out)
  have XB1_39 := Lib.hid (XB1_38.out.inn hg D_X1_XB1.out)
  have G_39 := Lib.hid (OwnL.apart hg _ G_38.out D_X1_G.out)
  have GB_39 := Lib.hid (GB_38.out.inn hg D_X1_GB.out)
  clear B_38
  clear K0_38
  clear K1_38
  clear S_38
  clear SB_38
  clear XB0_38
  clear X1_38
  clear XB1_38
  clear G_38
  clear GB_38
  clear ho hg
  clear XB0_39
  clear XB1_39
  obtain ⟨pK00, pK0l⟩ := tb1 K0_39.out
  obtain ⟨pK10, pK11, pK12, pK1l⟩ := tb3 K1_39.out
  obtain ⟨pSB0, pSB1, pSB2, pSBl⟩ := tb3 SB_39.out
  obtain ⟨pGB0, pGB1, pGB2, pGBl⟩ := tb3 GB_39.out
  go_wp2_with fail
  clear pK00 pK0l pK10 pK11 pK12 pK1l pSB0 pSB1 pSB2 pSBl pGB0 pGB1 pGB2 pGBl
  refine (c_eqTensor R C _ _ _ _ yG yS _ (flL_at.1 (OwnL.at _ G_39.out)) (flL_at.1 (OwnL.at _ S_39.out)) (HYG.out.trans HYS.out.symm)).mono ?_
  rintro e w40 ⟨rfl, bl⟩
  have B_40 := Lib.hid (Below.next B_39.out bl)
  clear B_39
  have K0_40 := Lib.hid (K0_39.out.below bl)
  clear K0_39
  have K1_40 := Lib.hid (K1_39.out.below bl)
  clear K1_39
  have S_40 := Lib.hid (OwnL.kept S_39.out bl)
  clear S_39
  have SB_40 := Lib.hid (SB_39.out.below bl)
  clear SB_39
  have G_40 := Lib.hid (OwnL.kept G_39.out bl)
  clear G_39
  have GB_40 := Lib.hid (GB_39.out.below bl)
  clear GB_39
  clear bl
  obtain ⟨pK00, pK0l⟩ := tb1 K0_40.out
  obtain ⟨pK10, pK11, pK12, pK1l⟩ := tb3 K1_40.out
  obtain ⟨pSB0, pSB1, pSB2, pSBl⟩ := tb3 SB_40.out
  obtain ⟨pGB0, pGB1, pGB2, pGBl⟩ := tb3 GB_40.out
  go_wp2_with fail
  clear pK00 pK0l pK10 pK11 pK12 pK1l pSB0 pSB1 pSB2 pSBl pGB0 pGB1 pGB2 pGBl
  obtain ⟨q, hq⟩ : ∃ q, 1 + yG.length = q := ⟨_, rfl⟩
  have HQ := Lib.hid hq
  have hq' : q ≤ 4194304 := by have := LG.out; omega
  have hq0 : (0 : Int) ≤ (q : Int) := by omega
  clear hq
  refine (c_markTen R C _ _ _ 1 q yG _ G_40.out HQ.out (by decide) LG.out).mono ?_
  rintro e w41 ⟨rfl, ho, hg⟩
  have B_41 := Lib.hid (hg.below' B_40.out (fun g h => (OwnL.lt _ G_40.out g h).1))
  have K0_41 := Lib.hid (K0_40.out.inn hg D_G_K0.out)
  have K1_41 := Lib.hid (K1_40.out.inn hg D_G_K1.out)
  have S_41 := Lib.hid (OwnL.apart hg _ S_40.out D_G_S.out)
  have SB_41 := Lib.hid (SB_40.out.inn hg D_G_SB.out)
  have G_41 := Lib.hid (ho)
  have GB_41 := Lib.hid (GB_40.out.inn hg D_G_GB.out)
  clear B_40
  clear K0_40
  clear K1_40
  clear S_40
  clear SB_40
  clear G_40
  clear GB_40
  clear ho hg
  obtain ⟨pK00, pK0l⟩ := tb1 K0_41.out
  obtain ⟨pK10, pK11, pK12, pK1l⟩ := tb3 K1_41.out
  obtain ⟨pSB0, pSB1, pSB2, pSBl⟩ := tb3 SB_41.out
  obtain ⟨pGB0, pGB1, pGB2, pGBl⟩ := tb3 GB_41.out
  go_wp2_with fail
  clear pK00 pK0l pK10 pK11 pK12 pK1l pSB0 pSB1 pSB2 pSBl pGB0 pGB1 pGB2 pGBl
  refine (c_heldTensor' R C _ _ 1 q yG.length _ (held_ten G_41.out) HQ.out (by decide) LG.out).mono ?_
  rintro e w42 ⟨rfl, bl⟩
  have B_42 := Lib.hid (Below.next B_41.out bl)
  clear B_41
  have K0_42 := Lib.hid (K0_41.out.below bl)
  clear K0_41
  have K1_42 := Lib.hid (K1_41.out.below bl)
  clear K1_41
  have S_42 := Lib.hid (OwnL.kept S_41.out bl)
  clear S_41
  have SB_42 := Lib.hid (SB_41.out.below bl)
  clear SB_41
  have G_42 := Lib.hid (OwnL.kept G_41.out bl)
  clear G_41
  have GB_42 := Lib.hid (GB_41.out.below bl)
  clear GB_41
  clear bl
  obtain ⟨pK00, pK0l⟩ := tb1 K0_42.out
  obtain ⟨pK10, pK11, pK12, pK1l⟩ := tb3 K1_42.out
  obtain ⟨pSB0, pSB1, pSB2, pSBl⟩ := tb3 SB_42.out
  obtain ⟨pGB0, pGB1, pGB2, pGBl⟩ := tb3 GB_42.out
  go_upto_region 31 with fail
  clear pK00 pK0l pK10 pK11 pK12 pK1l pSB0 pSB1 pSB2 pSBl pGB0 pGB1 pGB2 pGBl
  go_cut [15, 16] (fun s t wx => CutTl w R C b zs (fun wx => Blk wx (w.heap.size) 86 #[.slice g0 ls0.length c0] ∧ Blk wx (w.heap.size + 1) 97 #[.int .i64 r1, .int .i64 t1, .slice a1 z1.length c1] ∧ OwnL wx w.heap.size [flC aS capS yS] ∧ Blk wx (adS) 69 #[.int .i64 R, .int .i64 C, .slice aS yS.length capS] ∧ OwnL wx w.heap.size [flC aG capG (marks 1 yG.length)] ∧ Blk wx (w29.heap.size) 69 #[.int .i64 R, .int .i64 C, .slice aG yG.length capG]) s t wx)
  case first =>
    have ZL := Lib.hid B_42.out.size
    have LTS := Lib.hid (OwnL.lt _ S_42.out)
    have LTG := Lib.hid (OwnL.lt _ G_42.out)
    have Z_42 := Lib.hid (Nat.le_refl w42.heap.size)
    obtain ⟨pK00, pK0l⟩ := tb1 K0_42.out
    obtain ⟨pK10, pK11, pK12, pK1l⟩ := tb3 K1_42.out
    obtain ⟨pSB0, pSB1, pSB2, pSBl⟩ := tb3 SB_42.out
    obtain ⟨pGB0, pGB1, pGB2, pGBl⟩ := tb3 GB_42.out
    go_region_held3 (fun w' => w'.cell? ⟨w.heap.size, 0, none⟩ = some (.slice g0 ls0.length c0) ∧ w'.cell? ⟨w.heap.size + 1, 0, none⟩ = some (.int .i64 r1) ∧ w'.cell? ⟨w.heap.size + 1, 1, none⟩ = some (.int .i64 t1) ∧ w'.cell? ⟨w.heap.size + 1, 2, none⟩ = some (.slice a1 z1.length c1) ∧ w'.cell? ⟨adS, 0, none⟩ = some (.int .i64 R) ∧ w'.cell? ⟨adS, 1, none⟩ = some (.int .i64 C) ∧ w'.cell? ⟨adS, 2, none⟩ = some (.slice aS yS.length capS) ∧ w'.cell? ⟨w29.heap.size, 0, none⟩ = some (.int .i64 R) ∧ w'.cell? ⟨w29.heap.size, 1, none⟩ = some (.int .i64 C) ∧ w'.cell? ⟨w29.heap.size, 2, none⟩ = some (.slice aG yG.length capG)) (go_keep)
      (first
        | (go_at_call 63
           clear pK00 pK0l pK10 pK11 pK12 pK1l pSB0 pSB1 pSB2 pSBl pGB0 pGB1 pGB2 pGBl
           have bl : Below w42.heap.size w42 w42.drew := (Below.refl _ _).drew
           have B_600 := Lib.hid (Below.next B_42.out bl)
           clear B_42
           have K0_600 := Lib.hid (K0_42.out.below bl)
           clear K0_42
           have K1_600 := Lib.hid (K1_42.out.below bl)
           clear K1_42
           have S_600 := Lib.hid (OwnL.kept S_42.out bl)
           clear S_42
           have SB_600 := Lib.hid (SB_42.out.below bl)
           clear SB_42
           have G_600 := Lib.hid (OwnL.kept G_42.out bl)
           clear G_42
           have GB_600 := Lib.hid (GB_42.out.below bl)
           clear GB_42
           have Z_600 := Lib.hid (Nat.le_trans Z_42.out bl.size)
           clear Z_42
           clear bl
           refine (c_toMod _ _ _ ls0 _ (HS0.out.kept B_600.out) HZ0.out).mono ?_
           rintro e w43 ⟨gU0, yU0, rfl, hl, hp, ho, hnd, bl⟩
           have HPU0 := Lib.hid hp
           have HLU0 := Lib.hid hl
           have U0_43 := Lib.hid (OwnL.base B_600.out.size _ ho)
           have B_43 := Lib.hid (Below.next B_600.out bl)
           clear B_600
           have K0_43 := Lib.hid (K0_600.out.below bl)
           clear K0_600
           have K1_43 := Lib.hid (K1_600.out.below bl)
           clear K1_600
           have S_43 := Lib.hid (OwnL.kept S_600.out bl)
           clear S_600
           have SB_43 := Lib.hid (SB_600.out.below bl)
           clear SB_600
           have G_43 := Lib.hid (OwnL.kept G_600.out bl)
           clear G_600
           have GB_43 := Lib.hid (GB_600.out.below bl)
           clear GB_600
           have Z_43 := Lib.hid (Nat.le_trans Z_600.out bl.size)
           clear Z_600
           clear hl hp ho hnd
           clear bl
           obtain ⟨pK00, pK0l⟩ := tb1 K0_43.out
           obtain ⟨pK10, pK11, pK12, pK1l⟩ := tb3 K1_43.out
           obtain ⟨pSB0, pSB1, pSB2, pSBl⟩ := tb3 SB_43.out
           obtain ⟨pGB0, pGB1, pGB2, pGBl⟩ := tb3 GB_43.out)
        | (go_at_call 63
           clear pK00 pK0l pK10 pK11 pK12 pK1l pSB0 pSB1 pSB2 pSBl pGB0 pGB1 pGB2 pGBl
           have NR_K0 : w.heap.size ≠ w42.heap.size := Nat.ne_of_lt K0_42.out.lt
           have MR_K0 : w42.heap.size ≠ w.heap.size := Nat.ne_of_gt K0_42.out.lt
           have NR_K1 : w.heap.size + 1 ≠ w42.heap.size := Nat.ne_of_lt K1_42.out.lt
           have MR_K1 : w42.heap.size ≠ w.heap.size + 1 := Nat.ne_of_gt K1_42.out.lt
           have NR_SB : adS ≠ w42.heap.size := Nat.ne_of_lt SB_42.out.lt
           have MR_SB : w42.heap.size ≠ adS := Nat.ne_of_gt SB_42.out.lt
           have NR_GB : w29.heap.size ≠ w42.heap.size := Nat.ne_of_lt GB_42.out.lt
           have MR_GB : w42.heap.size ≠ w29.heap.size := Nat.ne_of_gt GB_42.out.lt
           have LRB := Lib.hid Z_42.out
           have bl := (Below.refl w42.heap.size w42).alloc (Nat.le_refl _) (.cells #[.int .i64 0, .int .i64 0, .slice none 0 0] 69)
           have RB_500 := Lib.hid (Blk.new w42 69 #[.int .i64 0, .int .i64 0, .slice none 0 0])
           have B_500 := Lib.hid (Below.next B_42.out bl)
           clear B_42
           have K0_500 := Lib.hid (K0_42.out.below bl)
           clear K0_42
           have K1_500 := Lib.hid (K1_42.out.below bl)
           clear K1_42
           have S_500 := Lib.hid (OwnL.kept S_42.out bl)
           clear S_42
           have SB_500 := Lib.hid (SB_42.out.below bl)
           clear SB_42
           have G_500 := Lib.hid (OwnL.kept G_42.out bl)
           clear G_42
           have GB_500 := Lib.hid (GB_42.out.below bl)
           clear GB_42
           have Z_500 := Lib.hid (Nat.le_trans Z_42.out bl.size)
           clear Z_42
           clear bl
           generalize w42.alloc (.cells #[.int .i64 0, .int .i64 0, .slice none 0 0] 69) = w500 at B_500 K0_500 K1_500 S_500 SB_500 G_500 GB_500 Z_500 RB_500 ⊢
           have bl : Below w500.heap.size w500 w500.drew := (Below.refl _ _).drew
           have B_600 := Lib.hid (Below.next B_500.out bl)
           clear B_500
           have K0_600 := Lib.hid (K0_500.out.below bl)
           clear K0_500
           have K1_600 := Lib.hid (K1_500.out.below bl)
           clear K1_500
           have S_600 := Lib.hid (OwnL.kept S_500.out bl)
           clear S_500
           have SB_600 := Lib.hid (SB_500.out.below bl)
           clear SB_500
           have G_600 := Lib.hid (OwnL.kept G_500.out bl)
           clear G_500
           have GB_600 := Lib.hid (GB_500.out.below bl)
           clear GB_500
           have Z_600 := Lib.hid (Nat.le_trans Z_500.out bl.size)
           clear Z_500
           have RB_600 := Lib.hid (RB_500.out.below bl)
           clear RB_500
           clear bl
           refine (c_toMod _ _ _ ls0 _ (HS0.out.kept B_600.out) HZ0.out).mono ?_
           rintro e w43 ⟨gU0, yU0, rfl, hl, hp, ho, hnd, bl⟩
           have HPU0 := Lib.hid hp
           have HLU0 := Lib.hid hl
           have U0_43 := Lib.hid (OwnL.base B_600.out.size _ ho)
           have B_43 := Lib.hid (Below.next B_600.out bl)
           clear B_600
           have K0_43 := Lib.hid (K0_600.out.below bl)
           clear K0_600
           have K1_43 := Lib.hid (K1_600.out.below bl)
           clear K1_600
           have S_43 := Lib.hid (OwnL.kept S_600.out bl)
           clear S_600
           have SB_43 := Lib.hid (SB_600.out.below bl)
           clear SB_600
           have G_43 := Lib.hid (OwnL.kept G_600.out bl)
           clear G_600
           have GB_43 := Lib.hid (GB_600.out.below bl)
           clear GB_600
           have Z_43 := Lib.hid (Nat.le_trans Z_600.out bl.size)
           clear Z_600
           have RB_43 := Lib.hid (RB_600.out.below bl)
           clear RB_600
           clear hl hp ho hnd
           clear bl
           obtain ⟨pK00, pK0l⟩ := tb1 K0_43.out
           obtain ⟨pK10, pK11, pK12, pK1l⟩ := tb3 K1_43.out
           obtain ⟨pSB0, pSB1, pSB2, pSBl⟩ := tb3 SB_43.out
           obtain ⟨pGB0, pGB1, pGB2, pGBl⟩ := tb3 GB_43.out
           obtain ⟨pRB0, pRB1, pRB2, pRBl⟩ := tb3 RB_43.out)
        | (go_at_call 70
           clear pK00 pK0l pK10 pK11 pK12 pK1l pSB0 pSB1 pSB2 pSBl pGB0 pGB1 pGB2 pGBl pRB0 pRB1 pRB2 pRBl
           refine (c_toTensor r1 t1 _ _ _ z1 _ (HS1.out.kept B_43.out) HZ1.out).mono ?_
           rintro e w44 ⟨aU1, rfl, hf, bl⟩
           have ho := flL_own.2 hf
           have U1_44 := Lib.hid (OwnL.base B_43.out.size _ ho)
           have B_44 := Lib.hid (Below.next B_43.out bl)
           clear B_43
           have K0_44 := Lib.hid (K0_43.out.below bl)
           clear K0_43
           have K1_44 := Lib.hid (K1_43.out.below bl)
           clear K1_43
           have S_44 := Lib.hid (OwnL.kept S_43.out bl)
           clear S_43
           have SB_44 := Lib.hid (SB_43.out.below bl)
           clear SB_43
           have G_44 := Lib.hid (OwnL.kept G_43.out bl)
           clear G_43
           have GB_44 := Lib.hid (GB_43.out.below bl)
           clear GB_43
           have Z_44 := Lib.hid (Nat.le_trans Z_43.out bl.size)
           clear Z_43
           have U0_44 := Lib.hid (OwnL.kept U0_43.out bl)
           clear U0_43
           have RB_44 := Lib.hid (RB_43.out.below bl)
           clear RB_43
           clear hf ho
           clear bl
           obtain ⟨pK00, pK0l⟩ := tb1 K0_44.out
           obtain ⟨pK10, pK11, pK12, pK1l⟩ := tb3 K1_44.out
           obtain ⟨pSB0, pSB1, pSB2, pSBl⟩ := tb3 SB_44.out
           obtain ⟨pGB0, pGB1, pGB2, pGBl⟩ := tb3 GB_44.out
           obtain ⟨pRB0, pRB1, pRB2, pRBl⟩ := tb3 RB_44.out)
        | (go_at_call 70
           clear pK00 pK0l pK10 pK11 pK12 pK1l pSB0 pSB1 pSB2 pSBl pGB0 pGB1 pGB2 pGBl
           refine (c_toTensor r1 t1 _ _ _ z1 _ (HS1.out.kept B_43.out) HZ1.out).mono ?_
           rintro e w44 ⟨aU1, rfl, hf, bl⟩
           have ho := flL_own.2 hf
           have U1_44 := Lib.hid (OwnL.base B_43.out.size _ ho)
           have B_44 := Lib.hid (Below.next B_43.out bl)
           clear B_43
           have K0_44 := Lib.hid (K0_43.out.below bl)
           clear K0_43
           have K1_44 := Lib.hid (K1_43.out.below bl)
           clear K1_43
           have S_44 := Lib.hid (OwnL.kept S_43.out bl)
           clear S_43
           have SB_44 := Lib.hid (SB_43.out.below bl)
           clear SB_43
           have G_44 := Lib.hid (OwnL.kept G_43.out bl)
           clear G_43
           have GB_44 := Lib.hid (GB_43.out.below bl)
           clear GB_43
           have Z_44 := Lib.hid (Nat.le_trans Z_43.out bl.size)
           clear Z_43
           have U0_44 := Lib.hid (OwnL.kept U0_43.out bl)
           clear U0_43
           clear hf ho
           clear bl
           obtain ⟨pK00, pK0l⟩ := tb1 K0_44.out
           obtain ⟨pK10, pK11, pK12, pK1l⟩ := tb3 K1_44.out
           obtain ⟨pSB0, pSB1, pSB2, pSBl⟩ := tb3 SB_44.out
           obtain ⟨pGB0, pGB1, pGB2, pGBl⟩ := tb3 GB_44.out)
        | (go_at_call 70
           clear pK00 pK0l pK10 pK11 pK12 pK1l pSB0 pSB1 pSB2 pSBl pGB0 pGB1 pGB2 pGBl
           have NR_K0 : w.heap.size ≠ w43.heap.size := Nat.ne_of_lt K0_43.out.lt
           have MR_K0 : w43.heap.size ≠ w.heap.size := Nat.ne_of_gt K0_43.out.lt
           have NR_K1 : w.heap.size + 1 ≠ w43.heap.size := Nat.ne_of_lt K1_43.out.lt
           have MR_K1 : w43.heap.size ≠ w.heap.size + 1 := Nat.ne_of_gt K1_43.out.lt
           have NR_SB : adS ≠ w43.heap.size := Nat.ne_of_lt SB_43.out.lt
           have MR_SB : w43.heap.size ≠ adS := Nat.ne_of_gt SB_43.out.lt
           have NR_GB : w29.heap.size ≠ w43.heap.size := Nat.ne_of_lt GB_43.out.lt
           have MR_GB : w43.heap.size ≠ w29.heap.size := Nat.ne_of_gt GB_43.out.lt
           have LRB := Lib.hid Z_43.out
           have bl := (Below.refl w43.heap.size w43).alloc (Nat.le_refl _) (.cells #[.int .i64 0, .int .i64 0, .slice none 0 0] 69)
           have RB_501 := Lib.hid (Blk.new w43 69 #[.int .i64 0, .int .i64 0, .slice none 0 0])
           have B_501 := Lib.hid (Below.next B_43.out bl)
           clear B_43
           have K0_501 := Lib.hid (K0_43.out.below bl)
           clear K0_43
           have K1_501 := Lib.hid (K1_43.out.below bl)
           clear K1_43
           have S_501 := Lib.hid (OwnL.kept S_43.out bl)
           clear S_43
           have SB_501 := Lib.hid (SB_43.out.below bl)
           clear SB_43
           have G_501 := Lib.hid (OwnL.kept G_43.out bl)
           clear G_43
           have GB_501 := Lib.hid (GB_43.out.below bl)
           clear GB_43
           have Z_501 := Lib.hid (Nat.le_trans Z_43.out bl.size)
           clear Z_43
           have U0_501 := Lib.hid (OwnL.kept U0_43.out bl)
           clear U0_43
           clear bl
           generalize w43.alloc (.cells #[.int .i64 0, .int .i64 0, .slice none 0 0] 69) = w501 at B_501 K0_501 K1_501 S_501 SB_501 G_501 GB_501 Z_501 U0_501 RB_501 ⊢
           refine (c_toTensor r1 t1 _ _ _ z1 _ (HS1.out.kept B_501.out) HZ1.out).mono ?_
           rintro e w44 ⟨aU1, rfl, hf, bl⟩
           have ho := flL_own.2 hf
           have U1_44 := Lib.hid (OwnL.base B_501.out.size _ ho)
           have B_44 := Lib.hid (Below.next B_501.out bl)
           clear B_501
           have K0_44 := Lib.hid (K0_501.out.below bl)
           clear K0_501
           have K1_44 := Lib.hid (K1_501.out.below bl)
           clear K1_501
           have S_44 := Lib.hid (OwnL.kept S_501.out bl)
           clear S_501
           have SB_44 := Lib.hid (SB_501.out.below bl)
           clear SB_501
           have G_44 := Lib.hid (OwnL.kept G_501.out bl)
           clear G_501
           have GB_44 := Lib.hid (GB_501.out.below bl)
           clear GB_501
           have Z_44 := Lib.hid (Nat.le_trans Z_501.out bl.size)
           clear Z_501
           have U0_44 := Lib.hid (OwnL.kept U0_501.out bl)
           clear U0_501
           have RB_44 := Lib.hid (RB_501.out.below bl)
           clear RB_501
           clear hf ho
           clear bl
           obtain ⟨pK00, pK0l⟩ := tb1 K0_44.out
           obtain ⟨pK10, pK11, pK12, pK1l⟩ := tb3 K1_44.out
           obtain ⟨pSB0, pSB1, pSB2, pSBl⟩ := tb3 SB_44.out
           obtain ⟨pGB0, pGB1, pGB2, pGBl⟩ := tb3 GB_44.out
           obtain ⟨pRB0, pRB1, pRB2, pRBl⟩ := tb3 RB_44.out)
        | (go_at_call 71
           clear pK00 pK0l pK10 pK11 pK12 pK1l pSB0 pSB1 pSB2 pSBl pGB0 pGB1 pGB2 pGBl pRB0 pRB1 pRB2 pRBl
           have ZP := Lib.hid Z_44.out
           have SLT := Lib.hid RB_44.out.lt
           refine (CI.out _ _ yU0 _ _ _ HPU0.out (laysAt_own HLU0.out U0_44.out) (flL_at.1 (OwnL.at _ U1_44.out))).mono ?_
           rintro e w45 ⟨aH, capH, yH, rfl, ho, hy, bl⟩
           have HYH := Lib.hid hy
           have QO := Lib.hid (flL_own.2 ho)
           have B_45 := Lib.hid (Below.next B_44.out bl)
           clear B_44
           have K0_45 := Lib.hid (K0_44.out.below bl)
           clear K0_44
           have K1_45 := Lib.hid (K1_44.out.below bl)
           clear K1_44
           have S_45 := Lib.hid (OwnL.kept S_44.out bl)
           clear S_44
           have SB_45 := Lib.hid (SB_44.out.below bl)
           clear SB_44
           have G_45 := Lib.hid (OwnL.kept G_44.out bl)
           clear G_44
           have GB_45 := Lib.hid (GB_44.out.below bl)
           clear GB_44
           have Z_45 := Lib.hid (Nat.le_trans Z_44.out bl.size)
           clear Z_44
           have U0_45 := Lib.hid (OwnL.kept U0_44.out bl)
           clear U0_44
           have U1_45 := Lib.hid (OwnL.kept U1_44.out bl)
           clear U1_44
           have RB_45 := Lib.hid (RB_44.out.below bl)
           clear RB_44
           clear bl ho hy
           obtain ⟨pK00, pK0l⟩ := tb1 K0_45.out
           obtain ⟨pK10, pK11, pK12, pK1l⟩ := tb3 K1_45.out
           obtain ⟨pSB0, pSB1, pSB2, pSBl⟩ := tb3 SB_45.out
           obtain ⟨pGB0, pGB1, pGB2, pGBl⟩ := tb3 GB_45.out
           obtain ⟨pRB0, pRB1, pRB2, pRBl⟩ := tb3 RB_45.out
           have fzr0 := RB_45.out.frozen 0
           have fzr1 := RB_45.out.frozen 1
           have fzr2 := RB_45.out.frozen 2
           have st1 := store3 RB_45.out (x' := .int .i64 R) (y' := .int .i64 C) (z' := .slice aH yH.length capH))
        | (go_at_call 71
           clear pK00 pK0l pK10 pK11 pK12 pK1l pSB0 pSB1 pSB2 pSBl pGB0 pGB1 pGB2 pGBl
           have ZP := Lib.hid Z_44.out
           refine (CI.out _ _ yU0 _ _ _ HPU0.out (laysAt_own HLU0.out U0_44.out) (flL_at.1 (OwnL.at _ U1_44.out))).mono ?_
           rintro e w45 ⟨aH, capH, yH, rfl, ho, hy, bl⟩
           have HYH := Lib.hid hy
           have QO := Lib.hid (flL_own.2 ho)
           have B_45 := Lib.hid (Below.next B_44.out bl)
           clear B_44
           have K0_45 := Lib.hid (K0_44.out.below bl)
           clear K0_44
           have K1_45 := Lib.hid (K1_44.out.below bl)
           clear K1_44
           have S_45 := Lib.hid (OwnL.kept S_44.out bl)
           clear S_44
           have SB_45 := Lib.hid (SB_44.out.below bl)
           clear SB_44
           have G_45 := Lib.hid (OwnL.kept G_44.out bl)
           clear G_44
           have GB_45 := Lib.hid (GB_44.out.below bl)
           clear GB_44
           have Z_45 := Lib.hid (Nat.le_trans Z_44.out bl.size)
           clear Z_44
           have U0_45 := Lib.hid (OwnL.kept U0_44.out bl)
           clear U0_44
           have U1_45 := Lib.hid (OwnL.kept U1_44.out bl)
           clear U1_44
           clear bl ho hy
           obtain ⟨pK00, pK0l⟩ := tb1 K0_45.out
           obtain ⟨pK10, pK11, pK12, pK1l⟩ := tb3 K1_45.out
           obtain ⟨pSB0, pSB1, pSB2, pSBl⟩ := tb3 SB_45.out
           obtain ⟨pGB0, pGB1, pGB2, pGBl⟩ := tb3 GB_45.out
           have al := fun ob => (Below.refl w45.heap.size w45).alloc (Nat.le_refl _) ob)
        | (go_at_call 71
           clear pK00 pK0l pK10 pK11 pK12 pK1l pSB0 pSB1 pSB2 pSBl pGB0 pGB1 pGB2 pGBl
           have NR_K0 : w.heap.size ≠ w44.heap.size := Nat.ne_of_lt K0_44.out.lt
           have MR_K0 : w44.heap.size ≠ w.heap.size := Nat.ne_of_gt K0_44.out.lt
           have NR_K1 : w.heap.size + 1 ≠ w44.heap.size := Nat.ne_of_lt K1_44.out.lt
           have MR_K1 : w44.heap.size ≠ w.heap.size + 1 := Nat.ne_of_gt K1_44.out.lt
           have NR_SB : adS ≠ w44.heap.size := Nat.ne_of_lt SB_44.out.lt
           have MR_SB : w44.heap.size ≠ adS := Nat.ne_of_gt SB_44.out.lt
           have NR_GB : w29.heap.size ≠ w44.heap.size := Nat.ne_of_lt GB_44.out.lt
           have MR_GB : w44.heap.size ≠ w29.heap.size := Nat.ne_of_gt GB_44.out.lt
           have LRB := Lib.hid Z_44.out
           have bl := (Below.refl w44.heap.size w44).alloc (Nat.le_refl _) (.cells #[.int .i64 0, .int .i64 0, .slice none 0 0] 69)
           have RB_502 := Lib.hid (Blk.new w44 69 #[.int .i64 0, .int .i64 0, .slice none 0 0])
           have B_502 := Lib.hid (Below.next B_44.out bl)
           clear B_44
           have K0_502 := Lib.hid (K0_44.out.below bl)
           clear K0_44
           have K1_502 := Lib.hid (K1_44.out.below bl)
           clear K1_44
           have S_502 := Lib.hid (OwnL.kept S_44.out bl)
           clear S_44
           have SB_502 := Lib.hid (SB_44.out.below bl)
           clear SB_44
           have G_502 := Lib.hid (OwnL.kept G_44.out bl)
           clear G_44
           have GB_502 := Lib.hid (GB_44.out.below bl)
           clear GB_44
           have Z_502 := Lib.hid (Nat.le_trans Z_44.out bl.size)
           clear Z_44
           have U0_502 := Lib.hid (OwnL.kept U0_44.out bl)
           clear U0_44
           have U1_502 := Lib.hid (OwnL.kept U1_44.out bl)
           clear U1_44
           clear bl
           generalize w44.alloc (.cells #[.int .i64 0, .int .i64 0, .slice none 0 0] 69) = w502 at B_502 K0_502 K1_502 S_502 SB_502 G_502 GB_502 Z_502 U0_502 U1_502 RB_502 ⊢
           have ZP := Lib.hid Z_502.out
           have SLT := Lib.hid RB_502.out.lt
           refine (CI.out _ _ yU0 _ _ _ HPU0.out (laysAt_own HLU0.out U0_502.out) (flL_at.1 (OwnL.at _ U1_502.out))).mono ?_
           rintro e w45 ⟨aH, capH, yH, rfl, ho, hy, bl⟩
           have HYH := Lib.hid hy
           have QO := Lib.hid (flL_own.2 ho)
           have B_45 := Lib.hid (Below.next B_502.out bl)
           clear B_502
           have K0_45 := Lib.hid (K0_502.out.below bl)
           clear K0_502
           have K1_45 := Lib.hid (K1_502.out.below bl)
           clear K1_502
           have S_45 := Lib.hid (OwnL.kept S_502.out bl)
           clear S_502
           have SB_45 := Lib.hid (SB_502.out.below bl)
           clear SB_502
           have G_45 := Lib.hid (OwnL.kept G_502.out bl)
           clear G_502
           have GB_45 := Lib.hid (GB_502.out.below bl)
           clear GB_502
           have Z_45 := Lib.hid (Nat.le_trans Z_502.out bl.size)
           clear Z_502
           have U0_45 := Lib.hid (OwnL.kept U0_502.out bl)
           clear U0_502
           have U1_45 := Lib.hid (OwnL.kept U1_502.out bl)
           clear U1_502
           have RB_45 := Lib.hid (RB_502.out.below bl)
           clear RB_502
           clear bl ho hy
           obtain ⟨pK00, pK0l⟩ := tb1 K0_45.out
           obtain ⟨pK10, pK11, pK12, pK1l⟩ := tb3 K1_45.out
           obtain ⟨pSB0, pSB1, pSB2, pSBl⟩ := tb3 SB_45.out
           obtain ⟨pGB0, pGB1, pGB2, pGBl⟩ := tb3 GB_45.out
           obtain ⟨pRB0, pRB1, pRB2, pRBl⟩ := tb3 RB_45.out
           have fzr0 := RB_45.out.frozen 0
           have fzr1 := RB_45.out.frozen 1
           have fzr2 := RB_45.out.frozen 2
           have st1 := store3 RB_45.out (x' := .int .i64 R) (y' := .int .i64 C) (z' := .slice aH yH.length capH)))
    all_goals
      go_wp2_with fail
      go_meet
      first | exact ⟨_, aH, capH, yH, rfl, rfl, st1.1, OwnL.base (Nat.le_trans ZL.out ZP.out) _ (OwnL.upk QO.out st1.2 (fun x hx => Nat.ne_of_gt (Nat.lt_of_lt_of_le SLT.out (OwnL.lt _ QO.out x hx).1))), HYH.out, (fun x hx => Nat.ne_of_gt (Nat.lt_of_lt_of_le SLT.out (OwnL.lt _ QO.out x hx).1)), Below.at_ B_45.out st1.2 (Nat.le_trans ZL.out LRB.out), K0_45.out.off st1.2 NR_K0, K1_45.out.off st1.2 NR_K1, OwnL.upk S_45.out st1.2 (fun x hx => by have := (LTS.out x hx).2; have := LRB.out; omega), SB_45.out.off st1.2 NR_SB, OwnL.upk G_45.out st1.2 (fun x hx => by have := (LTG.out x hx).2; have := LRB.out; omega), GB_45.out.off st1.2 NR_GB⟩ | exact ⟨_, aH, capH, yH, rfl, rfl, Blk.new _ _ _, OwnL.base (Nat.le_trans ZL.out ZP.out) _ (OwnL.kept QO.out (al _)), HYH.out, (fun x hx => Nat.ne_of_lt (OwnL.lt _ QO.out x hx).2), Below.next B_45.out (al _), K0_45.out.below (al _), K1_45.out.below (al _), OwnL.kept S_45.out (al _), SB_45.out.below (al _), OwnL.kept G_45.out (al _), GB_45.out.below (al _)⟩
  case rest =>
  skip
  obtain ⟨w62, rfl⟩ : ∃ x : World, x = wc := ⟨_, rfl⟩
  obtain ⟨adH, aH, capH, yH, rfl, rfl, hk, ho, hy, hne, hb, h_K0, h_K1, h_S, h_SB, h_G, h_GB⟩ := hcut
  clear B_42 K0_42 K1_42 S_42 SB_42 G_42 GB_42
  have HYH := Lib.hid hy
  have K0_62 := Lib.hid h_K0
  have K1_62 := Lib.hid h_K1
  have S_62 := Lib.hid h_S
  have SB_62 := Lib.hid h_SB
  have G_62 := Lib.hid h_G
  have GB_62 := Lib.hid h_GB
  have B_62 := Lib.hid hb
  have H_62 := Lib.hid ho
  have HB_62 := Lib.hid hk
  clear hk ho hy hne hb h_K0 h_K1 h_S h_SB h_G h_GB
  obtain ⟨pK00, pK0l⟩ := tb1 K0_62.out
  obtain ⟨pK10, pK11, pK12, pK1l⟩ := tb3 K1_62.out
  obtain ⟨pSB0, pSB1, pSB2, pSBl⟩ := tb3 SB_62.out
  obtain ⟨pGB0, pGB1, pGB2, pGBl⟩ := tb3 GB_62.out
  obtain ⟨pHB0, pHB1, pHB2, pHBl⟩ := tb3 HB_62.out
  go_wp2_with fail
  clear pK00 pK0l pK10 pK11 pK12 pK1l pSB0 pSB1 pSB2 pSBl pGB0 pGB1 pGB2 pGBl pHB0 pHB1 pHB2 pHBl
  refine (c_eqTensor R C _ _ _ _ yH yS _ (flL_at.1 (OwnL.at _ H_62.out)) (flL_at.1 (OwnL.at _ S_62.out)) (HYH.out.trans HYS.out.symm)).mono ?_
  rintro e w63 ⟨rfl, bl⟩
  have B_63 := Lib.hid (Below.next B_62.out bl)
  clear B_62
  have K0_63 := Lib.hid (K0_62.out.below bl)
  clear K0_62
  have K1_63 := Lib.hid (K1_62.out.below bl)
  clear K1_62
  have S_63 := Lib.hid (OwnL.kept S_62.out bl)
  clear S_62
  have SB_63 := Lib.hid (SB_62.out.below bl)
  clear SB_62
  have G_63 := Lib.hid (OwnL.kept G_62.out bl)
  clear G_62
  have GB_63 := Lib.hid (GB_62.out.below bl)
  clear GB_62
  have H_63 := Lib.hid (OwnL.kept H_62.out bl)
  clear H_62
  have HB_63 := Lib.hid (HB_62.out.below bl)
  clear HB_62
  clear bl
  obtain ⟨pK00, pK0l⟩ := tb1 K0_63.out
  obtain ⟨pK10, pK11, pK12, pK1l⟩ := tb3 K1_63.out
  obtain ⟨pSB0, pSB1, pSB2, pSBl⟩ := tb3 SB_63.out
  obtain ⟨pGB0, pGB1, pGB2, pGBl⟩ := tb3 GB_63.out
  obtain ⟨pHB0, pHB1, pHB2, pHBl⟩ := tb3 HB_63.out
  go_wp2_with fail
  clear pK00 pK0l pK10 pK11 pK12 pK1l pSB0 pSB1 pSB2 pSBl pGB0 pGB1 pGB2 pGBl pHB0 pHB1 pHB2 pHBl
  refine (c_heldTensor' R C _ _ 1 q yG.length _ (held_ten G_63.out) HQ.out (by decide) LG.out).mono ?_
  rintro e w64 ⟨rfl, bl⟩
  have B_64 := Lib.hid (Below.next B_63.out bl)
  clear B_63
  have K0_64 := Lib.hid (K0_63.out.below bl)
  clear K0_63
  have K1_64 := Lib.hid (K1_63.out.below bl)
  clear K1_63
  have S_64 := Lib.hid (OwnL.kept S_63.out bl)
  clear S_63
  have SB_64 := Lib.hid (SB_63.out.below bl)
  clear SB_63
  have G_64 := Lib.hid (OwnL.kept G_63.out bl)
  clear G_63
  have GB_64 := Lib.hid (GB_63.out.below bl)
  clear GB_63
  have H_64 := Lib.hid (OwnL.kept H_63.out bl)
  clear H_63
  have HB_64 := Lib.hid (HB_63.out.below bl)
  clear HB_63
  clear bl
  obtain ⟨pK00, pK0l⟩ := tb1 K0_64.out
  obtain ⟨pK10, pK11, pK12, pK1l⟩ := tb3 K1_64.out
  obtain ⟨pSB0, pSB1, pSB2, pSBl⟩ := tb3 SB_64.out
  obtain ⟨pGB0, pGB1, pGB2, pGBl⟩ := tb3 GB_64.out
  obtain ⟨pHB0, pHB1, pHB2, pHBl⟩ := tb3 HB_64.out
  go_wp2_with fail
  clear pK00 pK0l pK10 pK11 pK12 pK1l pSB0 pSB1 pSB2 pSBl pGB0 pGB1 pGB2 pGBl pHB0 pHB1 pHB2 pHBl
  go_ret
  exact ⟨rfl, B_64.out⟩

theorem walk (v0 : Value) (r1 c1 : Int) (a1 : Option Addr) (len1 cap1 : Nat) (z1 : List Nat) (w : World) (w0 : ∃ x : ModA, v0 = .agg #[.slice x.g x.ls.length x.c] ∧ LaysAt w x.g x.ls.length x.c x.ls) (w1 : IsFloats .f32 w a1 len1 cap1 z1) (wr1 : (Lit.int .i64 r1).wf = true) (wc1 : (Lit.int .i64 c1).wf = true) :
    Calls Try.prog 11 #[v0, .agg #[.int .i64 r1, .int .i64 c1, .slice a1 len1 cap1]] w fun e w' => e = .returned (.bool true) ∧ Below w.heap.size w w' := by
  obtain ⟨⟨g0, c0, ls0⟩, rfl, w0⟩ := w0
  have hn1 : len1 ≤ 9223372036854775807 := by have h1 := w1.1; have h2 := w1.2.1; unfold maxLen at h2; omega
  obtain rfl : z1.length = len1 := w1.2.2.1
  obtain ⟨t1, rfl⟩ : ∃ t, t = c1 := ⟨_, rfl⟩
  obtain ⟨c1, rfl⟩ : ∃ c, c = cap1 := ⟨_, rfl⟩
  by_cases hL0 : (ls0.length + laySum (ls0.map LayA.p)) ≤ 1048576
  case neg =>
    have HN := Lib.hid (show 1048576 < ls0.length + laySum (ls0.map LayA.p) by omega)
    have HS := Lib.hid w0
    have bl := Lib.hid ((((Below.refl w.heap.size w).alloc (by simp) (.cells #[.slice g0 ls0.length c0] 86)).alloc (by simp) (.cells #[.int .i64 r1, .int .i64 t1, .slice a1 z1.length c1] 97)))
    clear hL0 w0
    go_enter Try.func11, Try.ntmps11
    go_wp2_with fail
    refine (c_szMod_no _ _ _ 1048576 ls0 _ (HS.out.kept bl.out) (Nat.le_refl _) HN.out).mono ?_
    rintro e w1 ⟨rfl, hb⟩
    have HB := Lib.hid (Below.next bl.out hb)
    clear hb bl
    go_wp2
    go_ret
    exact ⟨rfl, HB.out⟩
  case pos =>
    by_cases hL1 : (ls0.length + laySum (ls0.map LayA.p)) + (z1.length) ≤ 1048576
    case neg =>
      have HS0 := Lib.hid w0
      have HS1 := Lib.hid w1
      obtain ⟨l0, hl0⟩ : ∃ l, 1048576 - (ls0.length + laySum (ls0.map LayA.p)) = l := ⟨_, rfl⟩
      have hl0' : l0 ≤ 1048576 := by omega
      have HQ0 := Lib.hid (show ls0.length + laySum (ls0.map LayA.p) ≤ 1048576 by omega)
      have HE0 := Lib.hid hl0
      have hp0 : (0 : Int) ≤ (l0 : Int) := by omega
      have HN := Lib.hid (show l0 < z1.length by omega)
      clear hl0 hL1 hL0 w0 w1
      go_enter Try.func11, Try.ntmps11
      go_wp2_with fail
      have B_0 := Lib.hid (Below.refl w.heap.size w)
      have bl := (Below.refl (w).heap.size (w)).alloc (Nat.le_refl _) (.cells #[.slice g0 ls0.length c0] 86)
      have K0_1 := Lib.hid (Blk.new (w) 86 #[.slice g0 ls0.length c0])
      have B_1 := Lib.hid (Below.next B_0.out bl)
      clear B_0
      clear bl
      have bl := (Below.refl ((w).alloc (.cells #[.slice g0 ls0.length c0] 86)).heap.size ((w).alloc (.cells #[.slice g0 ls0.length c0] 86))).alloc (Nat.le_refl _) (.cells #[.int .i64 r1, .int .i64 t1, .slice a1 z1.length c1] 97)
      have K1_2 := Lib.hid (Blk.new ((w).alloc (.cells #[.slice g0 ls0.length c0] 86)) 97 #[.int .i64 r1, .int .i64 t1, .slice a1 z1.length c1])
      have B_2 := Lib.hid (Below.next B_1.out bl)
      clear B_1
      have K0_2 := Lib.hid (K0_1.out.below bl)
      clear K0_1
      clear bl
      generalize ((w).alloc (.cells #[.slice g0 ls0.length c0] 86)).alloc (.cells #[.int .i64 r1, .int .i64 t1, .slice a1 z1.length c1] 97) = w2 at B_2 K0_2 K1_2 ⊢
      simp only [World.size_alloc] at K1_2
      refine (c_szMod _ _ _ _ _ ls0 _ (HS0.out.kept B_2.out) (Nat.le_refl _) HQ0.out HE0.out).mono ?_
      rintro e w3 ⟨rfl, bl⟩
      have B_3 := Lib.hid (Below.next B_2.out bl)
      clear B_2
      have K0_3 := Lib.hid (K0_2.out.below bl)
      clear K0_2
      have K1_3 := Lib.hid (K1_2.out.below bl)
      clear K1_2
      clear bl
      obtain ⟨pK00, pK0l⟩ := tb1 K0_3.out
      obtain ⟨pK10, pK11, pK12, pK1l⟩ := tb3 K1_3.out
      go_wp2_with fail
      clear pK00 pK0l pK10 pK11 pK12 pK1l
      refine (c_szTensor_no _ _ _ _ _ l0 _ HN.out hl0' hn1).mono ?_
      rintro e w4 ⟨rfl, bl⟩
      have B_4 := Lib.hid (Below.next B_3.out bl)
      clear B_3
      have K0_4 := Lib.hid (K0_3.out.below bl)
      clear K0_3
      have K1_4 := Lib.hid (K1_3.out.below bl)
      clear K1_3
      clear bl
      go_wp2
      go_ret
      exact ⟨rfl, B_4.out⟩
    case pos =>
      exact core ls0 r1 t1 z1 g0 c0 a1 c1 w w0 w1 (vRunModel (ls0.map LayA.p) r1 t1 z1).1 (vRunModel (ls0.map LayA.p) r1 t1 z1).2.1 (vRunModel (ls0.map LayA.p) r1 t1 z1).2.2.1 (vRunModel (ls0.map LayA.p) r1 t1 z1).2.2.2 hL0 hL1 (vRunModel_len (ls0.map LayA.p) r1 t1 z1) (fun g0_ c0_ y0_ a1 c1 w hp0 h0 h1 => t_sRunModel (ls0.map LayA.p) ls0.length g0_ c0_ y0_ r1 t1 z1 a1 c1 w hp0 h0 h1) (fun g0_ c0_ y0_ a1 c1 w hp0 h0 h1 => t_iRunModel (ls0.map LayA.p) ls0.length g0_ c0_ y0_ r1 t1 z1 a1 c1 w hp0 h0 h1)

/-! the row's step -/
set_option maxRecDepth 100000 in
theorem lifted (os : Os) (started : os.Started) (H : Type) (enc : TypeId × Value → H) :
    ReturnsInHanded {} Try.checked os 11 .any (Rows.fnExactRunModelSpec.pre6 enc Try.prog Try.f11 Rows.fnExactRunModelRow.domain false) (Rows.fnExactRunModelSpec.post enc Try.prog Try.f11 false true false false) := by
  refine returnsInHanded_of_change (C := Try.checked) own started (by kernel_rfl) Try.func11
    (ChangeSpec.witness6 (enc := enc) (C := Try.checked) false ⟨#[], #[.agg #[.slice none 0 0], .agg #[.int .i64 0, .int .i64 0, .slice none 0 0]], []⟩ 8 (by kernel_rfl) (by kernel_rfl) (by kernel_rfl) (by kernel_rfl)) ?_
  intro W base args ds gs before hval0 hW hcnd _
  have hval : ∀ (j : Nat) t v, Try.f11.params[j]? = some t → args[j]? = some v → Value.okWide Try.prog W .any base t v := hval0
  have hW' := hW
  obtain ⟨p, q, hA0, hV, rfl, hfz, hnd⟩ := hW
  have hA : DataW.TrodAll enc Try.prog W 0 (fun _ => true) true Try.f11.params.toList args.toList ds p := hA0
  rw [Try.params11] at hA hval
  obtain ⟨v0, vs0, d0, ds0, p0, q0, hargs, rfl, rfl, h0, rest0⟩ := trodAll_cons hA
  obtain ⟨v1, vs1, d1, ds1, p1, q1, rfl, rfl, rfl, h1, rest1⟩ := trodAll_cons rest0
  obtain ⟨rfl, rfl, rfl⟩ := trodAll_nil rest1
  obtain rfl : args = #[v0, v1] := by cases args; simp_all
  obtain ⟨rfl, rfl⟩ := trodVars_none hV
  have k0 := h0
  have lt0 : ∀ x ∈ p0, x.block < W.heap.size := by obtain ⟨m, hm⟩ := k0; exact DataW.trod_lt m _ _ _ hm
  have w0 := open_Mod (hval 0 86 v0 rfl rfl) h0
  have k1 := h1
  have lt1 : ∀ x ∈ p1, x.block < W.heap.size := by obtain ⟨m, hm⟩ := k1; exact DataW.trod_lt m _ _ _ hm
  obtain ⟨r1, c1, a1, len1, cap1, z1, rfl, w1, wr1, wc1⟩ := open_tensor (hval 1 97 v1 rfl rfl) h1
  clear hA0 hval0
  refine (walk _ r1 c1 a1 len1 cap1 z1 W w0 w1 wr1 wc1).mono fun e W' ⟨he, bel⟩ => ?_
  subst he
  exact ⟨_, rfl, _, _, _, [], _, [], hW', trodAll_mk1 (shut_bool Try.underlying4 _), (trodAll_cons_mk (Below.trod laidOut (by kernel_rfl) (of_decide_eq_true (by kernel_rfl)) k0 bel lt0) (trodAll_cons_mk (Below.trod laidOut (by kernel_rfl) (of_decide_eq_true (by kernel_rfl)) k1 bel lt1) trodAll_mk0)), rfl, bel.frame _, fun h => by cases h⟩

theorem named_ : Try.pinned.checked.prog.funcNamed Rows.fnExactRunModelRow.func = some 11 := by kernel_rfl
theorem fk1 : (Rows.fnExactRunModelRow.wf (OpenSpec.ofChange Rows.fnExactRunModelSpec)) = true := by kernel_rfl
theorem fk4 : (Try.f11.params.all (Try.pinned.checked.prog.readableRec ·)) = true := by kernel_rfl
theorem fk5 : (namedTie Try.pinned.checked.prog Rows.fnExactRunModelRow.named Rows.fnExactRunModelSpec.vars) = true := by kernel_rfl
theorem fk6 : ((Rows.fnExactRunModelRow.stops == [])) = true := by kernel_rfl
theorem fk8 : ((Rows.fnExactRunModelRow.knobs == [])) = true := by kernel_rfl
theorem fk10 : ((Rows.fnExactRunModelRow.inPlace == Try.pinned.checked.prog.inPlace 11)) = true := by kernel_rfl
theorem fk11 : ((Rows.fnExactRunModelRow.unfollowed == Try.pinned.checked.prog.unfollowed 11)) = true := by kernel_rfl
theorem fk12 : ((Rows.fnExactRunModelRow.recurses == Try.pinned.checked.prog.recurses 11)) = true := by kernel_rfl
theorem fk13 : ((Rows.fnExactRunModelRow.named == Try.pinned.checked.prog.varsNamed 11)) = true := by kernel_rfl
theorem fk14 : ((Rows.fnExactRunModelRow.maps == (Try.f11.params.toList ++ Rows.fnExactRunModelSpec.plain.varTypes Try.pinned.checked.prog).any (Try.pinned.checked.prog.mapsRec ·))) = true := by kernel_rfl
theorem fk15 : ((Rows.fnExactRunModelRow.ifaces == (Try.f11.params.toList ++ Rows.fnExactRunModelSpec.plain.varTypes Try.pinned.checked.prog).any (Try.pinned.checked.prog.ifacesRec ·))) = true := by kernel_rfl
theorem fk16 : ((Rows.fnExactRunModelRow.mapsOut == Try.pinned.checked.prog.mapsAmong Try.f11.resultTypes.toList)) = true := by kernel_rfl
theorem fk17 : ((Rows.fnExactRunModelRow.loops == (Try.f11.params.toList ++ Rows.fnExactRunModelSpec.plain.varTypes Try.pinned.checked.prog).any (Try.pinned.checked.prog.loopsFrom ·))) = true := by kernel_rfl
theorem fk18 : ((Rows.fnExactRunModelRow.wideKeys == (Try.f11.params.toList ++ Rows.fnExactRunModelSpec.plain.varTypes Try.pinned.checked.prog ++ Try.f11.resultTypes.toList).any (Try.pinned.checked.prog.wideKeysFrom ·))) = true := by kernel_rfl
theorem fk19 : (Rows.fnExactRunModelSpec.vars.all (Try.pinned.checked.prog.varReadable ·)) = true := by kernel_rfl
theorem fk20 : (Try.f11.resultTypes.all (fun t => Try.pinned.checked.prog.readableRec t && decide (t < Try.pinned.checked.prog.types.size))) = true := by kernel_rfl
theorem fk21 : ((Rows.fnExactRunModelRow.ifacesOut == Try.f11.resultTypes.toList.any (Try.pinned.checked.prog.ifacesRec ·))) = true := by kernel_rfl
theorem fk22 : ((Rows.fnExactRunModelRow.loopsOut == Try.f11.resultTypes.toList.any (Try.pinned.checked.prog.loopsFrom ·))) = true := by kernel_rfl
theorem fk23 : (Rows.fnExactRunModelRow.plainKeys == Try.pinned.checked.prog.plainKeys) = true := by rw [cls_keys]; kernel_rfl
theorem fk24 : (Rows.fnExactRunModelRow.shortTexts.isNone) = true := by kernel_rfl
theorem fk27 : (Rows.fnExactRunModelRow.lifted == Try.pinned.checked.prog.liftsFinal) = true := by rw [cls_lift]; kernel_rfl
theorem fk28 : (Try.pinned.checked.prog.make == some Rows.fnExactRunModelRow.make) = true := by rw [cls_make]; kernel_rfl
theorem fk29 : ((Rows.fnExactRunModelRow.kinds == (if Rows.fnExactRunModelRow.domain.isEmpty then [] else Try.f11.params.toList.map fun t => match Try.pinned.checked.prog.underlying t with | some (.int k) => some k | _ => none))) = true := by kernel_rfl
theorem fk30 : ((Rows.fnExactRunModelRow.pinned == Rows.fnExactRunModelRow.pinnedBy)) = true := by kernel_rfl
theorem fk31 : ((Rows.fnExactRunModelRow.veiled == (Try.f11.params.toList ++ Rows.fnExactRunModelSpec.plain.varTypes Try.pinned.checked.prog ++ Try.f11.resultTypes.toList).any (Try.pinned.checked.prog.veiledRec ·))) = true := by kernel_rfl
theorem fk32 : (Rows.fnExactRunModelRow.veiledFits Try.pinned.checked.prog Try.f11.params.toList (Try.f11.params.toList ++ Rows.fnExactRunModelSpec.plain.varTypes Try.pinned.checked.prog ++ Try.f11.resultTypes.toList)) = true := by kernel_rfl
set_option maxRecDepth 100000 in
theorem closed : joinedFacts Try.pinned.checked.prog 11 Try.f11 Rows.fnExactRunModelSpec Rows.fnExactRunModelRow = true := (and2 (and2 (and2 (and2 (and2 (and2 (and2 (and2 (and2 (and2 (and2 (and2 (and2 (and2 (and2 (and2 (and2 (and2 (and2 (and2 (and2 (and2 (and2 (and2 (and2 (and2 (and2 (and2 (and2 (and2 (and2 fk1 cls_laid) cls_maps) fk4) fk5) fk6) cls_stops) fk8) cls_knobs) fk10) fk11) fk12) fk13) fk14) fk15) fk16) fk17) fk18) fk19) fk20) fk21) fk22) fk23) fk24) cls_heard) cls_enter) fk27) fk28) fk29) fk30) fk31) fk32)
theorem over : Rows.fnExactRunModelRow.holds Try.pinned (OpenSpec.ofChange Rows.fnExactRunModelSpec) :=
  OpenClaim.holds_of_wide 11 Try.f11 rfl rfl rfl rfl rfl rfl rfl ⟨rfl, rfl, rfl, rfl, rfl⟩ rfl rfl rfl rfl rfl named_ Try.func11 closed
    (of_decide_eq_true (by kernel_rfl)) (by unfold Func.isWrapper; first | (rw [if_pos (by decide +kernel)]; kernel_rfl) | (rw [if_neg (by decide +kernel)]; exact ⟨rfl, rfl⟩))
    (fun os started H enc _ => lifted os started H enc)

/-- the statement -/
theorem proved : Rows.FnExactRunModelSaid := over
end Go.Proofs.Ytnkmgeiehhonkaa.fnExactRunModel
