/-
  AllNumbers answers as its model says, for all states of trainings, changes none of them, and what it returns is its own. Conditions: none.
-/
import Derived.Test.YtpobdigmjfapbaaAlu
import Derived.ChangeOld
import Derived.Below
namespace Go.Proofs.Ytpobdigmjfapbaa.fnExactAllNumbers
open Go.ChangeShapes Go.WideShapes Go.ChangeAt Go.RowKit
open Go.ChangeMaps (open_string shut_string)
set_option linter.unusedVariables false

set_option maxHeartbeats 4000000 in
set_option maxRecDepth 100000 in
/-- for any contracts of the model and of the program that say the same -/
theorem core (q0 : TrsA)  (w : World) (w0' : TrsAt w q0) (b : Bool) (zs : List Nat) (hL0 : (trsSum q0) ≤ 1048576) (hz : zs.length ≤ 1048576)
    (CS' : ∀ (p0 : TrsA) (w : World), (TrsEq p0 q0) → (TrsAt w p0) → Calls Try.prog 14 #[.agg p0.cells] w (RetL b zs w))
    (CI' : ∀ (p0 : TrsA) (w : World), (TrsEq p0 q0) → (TrsAt w p0) → Calls Try.prog 15 #[.agg p0.cells] w (RetL b zs w)) :
    Calls Try.prog 5 #[.agg q0.cells] w fun e w' => e = .returned (.bool true) ∧ Below w.heap.size w w' := by
  have HS0 := Lib.hid w0'
  have HZ0 := Lib.hid (show trsSum q0 ≤ 1048576 by omega)
  have CS := Lib.hid CS'
  have CI := Lib.hid CI'
  obtain ⟨l0, hl0⟩ : ∃ l, 1048576 - (trsSum q0) = l := ⟨_, rfl⟩
  have hl0' : l0 ≤ 1048576 := by omega
  have HQ0 := Lib.hid (show trsSum q0 ≤ 1048576 by omega)
  have HE0 := Lib.hid hl0
  have hp0 : (0 : Int) ≤ (l0 : Int) := by omega
  have hct0 := cntTrs_le q0
  obtain ⟨m0, hm0⟩ : ∃ m, 1 + (cntTrs q0) = m := ⟨_, rfl⟩
  have hm0' : m0 ≤ 4194304 := by omega
  have hn0' : (0 : Int) ≤ (m0 : Int) := by omega
  have HM0 := Lib.hid hm0
  clear hm0 hct0
  clear w0' CS' CI' hl0 hL0
  obtain ⟨u0_0, u0_1, u0_2, u0_3, u0_4, u0_5, u0_6, u0_7, u0_8, hc0⟩ := cells5 q0
  rw [hc0]
  have CQ0 := Lib.hid hc0
  have HA0 := Lib.hid (fun W (h : TrsAt W q0) => c_toTrsN q0 W h HZ0.out)
  have HX0 := Lib.hid (fun W (l r : Nat) (h : TrsAt W q0) hl hs hr => c_szTrs q0 l r W h hl hs hr)
  simp only [hc0] at HA0 HX0
  clear hc0
  go_enter Try.func5, Try.ntmps5
  go_wp2_with fail
  have B_0 := Lib.hid (Below.refl w.heap.size w)
  have bl := (Below.refl (w).heap.size (w)).alloc (Nat.le_refl _) (.cells #[.slice u0_0 u0_1 u0_2, .slice u0_3 u0_4 u0_5, .int .i64 u0_6, .int .i64 u0_7, .float .f32 u0_8] 28)
  have K0_1 := Lib.hid (Blk.new (w) 28 #[.slice u0_0 u0_1 u0_2, .slice u0_3 u0_4 u0_5, .int .i64 u0_6, .int .i64 u0_7, .float .f32 u0_8])
  have B_1 := Lib.hid (Below.next B_0.out bl)
  clear B_0
  clear bl
  generalize (w).alloc (.cells #[.slice u0_0 u0_1 u0_2, .slice u0_3 u0_4 u0_5, .int .i64 u0_6, .int .i64 u0_7, .float .f32 u0_8] 28) = w1 at B_1 K0_1 ⊢
  refine (HX0.out _ _ _ (HS0.out.kept B_1.out) (Nat.le_refl _) HQ0.out HE0.out).mono ?_
  rintro e w2 ⟨rfl, bl⟩
  have B_2 := Lib.hid (Below.next B_1.out bl)
  clear B_1
  have K0_2 := Lib.hid (K0_1.out.below bl)
  clear K0_1
  clear bl
  obtain ⟨pK00, pK01, pK02, pK03, pK04, pK0l⟩ := tb5 K0_2.out
  go_wp2_with fail
  clear pK00 pK01 pK02 pK03 pK04 pK0l
  refine (HA0.out _ (HS0.out.kept B_2.out)).mono ?_
  rintro e w3 ⟨qT0, rfl, ht, ho, hsc, hnd, bl⟩
  obtain ⟨uT0_0, uT0_1, uT0_2, uT0_3, uT0_4, uT0_5, uT0_6, uT0_7, uT0_8, hcc⟩ := cells5 qT0
  have CQT0 := Lib.hid hcc
  have HPT0 := Lib.hid ht
  have SCT0 := Lib.hid hsc
  rw [hcc]
  clear hcc
  have T0_3 := Lib.hid (OwnL.base B_2.out.size _ ho)
  have B_3 := Lib.hid (Below.next B_2.out bl)
  clear B_2
  have K0_3 := Lib.hid (K0_2.out.below bl)
  clear K0_2
  clear ht hsc ho hnd
  clear bl
  obtain ⟨pK00, pK01, pK02, pK03, pK04, pK0l⟩ := tb5 K0_3.out
  go_wp2_with fail
  clear pK00 pK01 pK02 pK03 pK04 pK0l
  have hc := CS.out qT0 _ HPT0.out (TrsOwn.at ⟨T0_3.out, SCT0.out⟩)
  rw [CQT0.out] at hc
  refine hc.mono ?_
  clear hc
  rintro e w4 ⟨aS, capS, yS, rfl, hf, hy, bl⟩
  have HYS := Lib.hid hy
  have ho := flL_own.2 hf
  have S_4 := Lib.hid (OwnL.base B_3.out.size _ ho)
  have B_4 := Lib.hid (Below.next B_3.out bl)
  clear B_3
  have K0_4 := Lib.hid (K0_3.out.below bl)
  clear K0_3
  have T0_4 := Lib.hid (OwnL.kept T0_3.out bl)
  clear T0_3
  clear hf hy ho
  clear bl
  clear T0_4
  obtain ⟨pK00, pK01, pK02, pK03, pK04, pK0l⟩ := tb5 K0_4.out
  go_wp2_with fail
  clear pK00 pK01 pK02 pK03 pK04 pK0l
  refine (HA0.out _ (HS0.out.kept B_4.out)).mono ?_
  rintro e w5 ⟨qX0, rfl, ht, ho, hsc, hnd, bl⟩
  obtain ⟨uX0_0, uX0_1, uX0_2, uX0_3, uX0_4, uX0_5, uX0_6, uX0_7, uX0_8, hcc⟩ := cells5 qX0
  have CQX0 := Lib.hid hcc
  have HPX0 := Lib.hid ht
  have SCX0 := Lib.hid hsc
  rw [hcc]
  clear hcc
  have D_X0_K0 := Lib.hid (apart_box K0_4.out ho)
  have D_X0_S := Lib.hid (apart_new S_4.out ho)
  have NDX0 := Lib.hid hnd
  have X0_5 := Lib.hid (OwnL.base B_4.out.size _ ho)
  have B_5 := Lib.hid (Below.next B_4.out bl)
  clear B_4
  have K0_5 := Lib.hid (K0_4.out.below bl)
  clear K0_4
  have S_5 := Lib.hid (OwnL.kept S_4.out bl)
  clear S_4
  clear ht hsc ho hnd
  clear bl
  obtain ⟨pK00, pK01, pK02, pK03, pK04, pK0l⟩ := tb5 K0_5.out
  go_wp2_with fail
  clear pK00 pK01 pK02 pK03 pK04 pK0l
  have D_X0_XB0 := Lib.hid (apart_next X0_5.out)
  have bl := (Below.refl w5.heap.size w5).alloc (Nat.le_refl _) (.cells #[.slice uX0_0 uX0_1 uX0_2, .slice uX0_3 uX0_4 uX0_5, .int .i64 uX0_6, .int .i64 uX0_7, .float .f32 uX0_8] 35)
  have XB0_6 := Lib.hid (Blk.new w5 35 #[.slice uX0_0 uX0_1 uX0_2, .slice uX0_3 uX0_4 uX0_5, .int .i64 uX0_6, .int .i64 uX0_7, .float .f32 uX0_8])
  have B_6 := Lib.hid (Below.next B_5.out bl)
  clear B_5
  have K0_6 := Lib.hid (K0_5.out.below bl)
  clear K0_5
  have S_6 := Lib.hid (OwnL.kept S_5.out bl)
  clear S_5
  have X0_6 := Lib.hid (OwnL.kept X0_5.out bl)
  clear X0_5
  clear bl
  generalize w5.alloc (.cells #[.slice uX0_0 uX0_1 uX0_2, .slice uX0_3 uX0_4 uX0_5, .int .i64 uX0_6, .int .i64 uX0_7, .float .f32 uX0_8] 35) = w6 at B_6 K0_6 S_6 X0_6 XB0_6 ⊢
  obtain ⟨pK00, pK01, pK02, pK03, pK04, pK0l⟩ := tb5 K0_6.out
  obtain ⟨pXB00, pXB01, pXB02, pXB03, pXB04, pXB0l⟩ := tb5 XB0_6.out
  try go_wp2_with fail
  clear pK00 pK01 pK02 pK03 pK04 pK0l pXB00 pXB01 pXB02 pXB03 pXB04 pXB0l
  have hc := CI.out qX0 _ HPX0.out (TrsOwn.at ⟨X0_6.out, SCX0.out⟩)
  rw [CQX0.out] at hc
  refine hc.mono ?_
  clear hc
  rintro e w7 ⟨aG, capG, yG, rfl, hf, hy, bl⟩
  have HYG := Lib.hid hy
  have ho := flL_own.2 hf
  have D_G_K0 := Lib.hid (apart_box K0_6.out ho)
  have D_G_S := Lib.hid (apart_new S_6.out ho)
  have D_X0_G := Lib.hid (apart_symm (apart_new X0_6.out ho))
  have D_G_X0 := Lib.hid (apart_new X0_6.out ho)
  have D_G_XB0 := Lib.hid (apart_box XB0_6.out ho)
  have LG := Lib.hid (hf.lenle HYG.out hz)
  have G_7 := Lib.hid (OwnL.base B_6.out.size _ ho)
  have B_7 := Lib.hid (Below.next B_6.out bl)
  clear B_6
  have K0_7 := Lib.hid (K0_6.out.below bl)
  clear K0_6
  have S_7 := Lib.hid (OwnL.kept S_6.out bl)
  clear S_6
  have X0_7 := Lib.hid (OwnL.kept X0_6.out bl)
  clear X0_6
  have XB0_7 := Lib.hid (XB0_6.out.below bl)
  clear XB0_6
  clear hf hy ho
  clear bl
  obtain ⟨pK00, pK01, pK02, pK03, pK04, pK0l⟩ := tb5 K0_7.out
  obtain ⟨pXB00, pXB01, pXB02, pXB03, pXB04, pXB0l⟩ := tb5 XB0_7.out
  go_wp2_with fail
  clear pK00 pK01 pK02 pK03 pK04 pK0l pXB00 pXB01 pXB02 pXB03 pXB04 pXB0l
  refine (c_eqFloats _ _ _ _ yG yS _ (flL_at.1 (OwnL.at _ G_7.out)) (flL_at.1 (OwnL.at _ S_7.out)) (HYG.out.trans HYS.out.symm)).mono ?_
  rintro e w8 ⟨rfl, dn⟩
  have bl : Below w7.heap.size w7 w8 := by first | exact dn.below | exact (below_drewN (Below.refl _ _) _).trans dn.below
  clear dn
  have B_8 := Lib.hid (Below.next B_7.out bl)
  clear B_7
  have K0_8 := Lib.hid (K0_7.out.below bl)
  clear K0_7
  have S_8 := Lib.hid (OwnL.kept S_7.out bl)
  clear S_7
  have X0_8 := Lib.hid (OwnL.kept X0_7.out bl)
  clear X0_7
  have XB0_8 := Lib.hid (XB0_7.out.below bl)
  clear XB0_7
  have G_8 := Lib.hid (OwnL.kept G_7.out bl)
  clear G_7
  clear bl
  obtain ⟨pK00, pK01, pK02, pK03, pK04, pK0l⟩ := tb5 K0_8.out
  obtain ⟨pXB00, pXB01, pXB02, pXB03, pXB04, pXB0l⟩ := tb5 XB0_8.out
  go_wp2_with fail
  clear pK00 pK01 pK02 pK03 pK04 pK0l pXB00 pXB01 pXB02 pXB03 pXB04 pXB0l
  have bl : Below w8.heap.size w8 w8.drew := (Below.refl _ _).drew
  have B_9 := Lib.hid (Below.next B_8.out bl)
  clear B_8
  have K0_9 := Lib.hid (K0_8.out.below bl)
  clear K0_8
  have S_9 := Lib.hid (OwnL.kept S_8.out bl)
  clear S_8
  have X0_9 := Lib.hid (OwnL.kept X0_8.out bl)
  clear X0_8
  have XB0_9 := Lib.hid (XB0_8.out.below bl)
  clear XB0_8
  have G_9 := Lib.hid (OwnL.kept G_8.out bl)
  clear G_8
  clear bl
  obtain ⟨pK00, pK01, pK02, pK03, pK04, pK0l⟩ := tb5 K0_9.out
  obtain ⟨pXB00, pXB01, pXB02, pXB03, pXB04, pXB0l⟩ := tb5 XB0_9.out
  go_region_held3 (fun w' => w'.cell? ⟨w.heap.size, 0, none⟩ = some (.slice u0_0 u0_1 u0_2) ∧ w'.cell? ⟨w.heap.size, 1, none⟩ = some (.slice u0_3 u0_4 u0_5) ∧ w'.cell? ⟨w.heap.size, 2, none⟩ = some (.int .i64 u0_6) ∧ w'.cell? ⟨w.heap.size, 3, none⟩ = some (.int .i64 u0_7) ∧ w'.cell? ⟨w.heap.size, 4, none⟩ = some (.float .f32 u0_8) ∧ w'.cell? ⟨w5.heap.size, 0, none⟩ = some (.slice uX0_0 uX0_1 uX0_2) ∧ w'.cell? ⟨w5.heap.size, 1, none⟩ = some (.slice uX0_3 uX0_4 uX0_5) ∧ w'.cell? ⟨w5.heap.size, 2, none⟩ = some (.int .i64 uX0_6) ∧ w'.cell? ⟨w5.heap.size, 3, none⟩ = some (.int .i64 uX0_7) ∧ w'.cell? ⟨w5.heap.size, 4, none⟩ = some (.float .f32 uX0_8)) (go_keep)
    (first
      | (go_at_call 9
         clear pK00 pK01 pK02 pK03 pK04 pK0l pXB00 pXB01 pXB02 pXB03 pXB04 pXB0l
         refine (HA0.out _ (HS0.out.kept B_9.out)).mono ?_
         rintro e w10 ⟨qY0, rfl, ht, ho, hsc, hnd, bl⟩
         obtain ⟨uY0_0, uY0_1, uY0_2, uY0_3, uY0_4, uY0_5, uY0_6, uY0_7, uY0_8, hcc⟩ := cells5 qY0
         have CQY0 := Lib.hid hcc
         have HPY0 := Lib.hid ht
         have SCY0 := Lib.hid hsc
         rw [hcc]
         clear hcc
         have Y0_10 := Lib.hid (OwnL.base B_9.out.size _ ho)
         have B_10 := Lib.hid (Below.next B_9.out bl)
         clear B_9
         have K0_10 := Lib.hid (K0_9.out.below bl)
         clear K0_9
         have S_10 := Lib.hid (OwnL.kept S_9.out bl)
         clear S_9
         have X0_10 := Lib.hid (OwnL.kept X0_9.out bl)
         clear X0_9
         have XB0_10 := Lib.hid (XB0_9.out.below bl)
         clear XB0_9
         have G_10 := Lib.hid (OwnL.kept G_9.out bl)
         clear G_9
         clear ht hsc ho hnd
         clear bl
         obtain ⟨pK00, pK01, pK02, pK03, pK04, pK0l⟩ := tb5 K0_10.out
         obtain ⟨pXB00, pXB01, pXB02, pXB03, pXB04, pXB0l⟩ := tb5 XB0_10.out)
      | (go_at_call 11
         clear pK00 pK01 pK02 pK03 pK04 pK0l pXB00 pXB01 pXB02 pXB03 pXB04 pXB0l
         have hc := c_eqTrs' qX0 qY0 _ (TrsOwn.at ⟨X0_10.out, SCX0.out⟩) (TrsOwn.at ⟨Y0_10.out, SCY0.out⟩) (HPX0.out.trans HPY0.out.symm)
         rw [CQX0.out, CQY0.out] at hc
         refine hc.mono ?_
         clear hc
         rintro e w11 ⟨rfl, bl⟩
         have B_11 := Lib.hid (Below.next B_10.out bl)
         clear B_10
         have K0_11 := Lib.hid (K0_10.out.below bl)
         clear K0_10
         have S_11 := Lib.hid (OwnL.kept S_10.out bl)
         clear S_10
         have X0_11 := Lib.hid (OwnL.kept X0_10.out bl)
         clear X0_10
         have XB0_11 := Lib.hid (XB0_10.out.below bl)
         clear XB0_10
         have G_11 := Lib.hid (OwnL.kept G_10.out bl)
         clear G_10
         have Y0_11 := Lib.hid (OwnL.kept Y0_10.out bl)
         clear Y0_10
         clear bl
         obtain ⟨pK00, pK01, pK02, pK03, pK04, pK0l⟩ := tb5 K0_11.out
         obtain ⟨pXB00, pXB01, pXB02, pXB03, pXB04, pXB0l⟩ := tb5 XB0_11.out))
  clear pK00 pK01 pK02 pK03 pK04 pK0l pXB00 pXB01 pXB02 pXB03 pXB04 pXB0l
  clear Y0_11
  obtain ⟨pK00, pK01, pK02, pK03, pK04, pK0l⟩ := tb5 K0_11.out
  obtain ⟨pXB00, pXB01, pXB02, pXB03, pXB04, pXB0l⟩ := tb5 XB0_11.out
  go_wp2_with fail
  clear pK00 pK01 pK02 pK03 pK04 pK0l pXB00 pXB01 pXB02 pXB03 pXB04 pXB0l
  have hc := c_markTrsX q0 qX0 _ 1 m0 _ HPX0.out X0_11.out SCX0.out NDX0.out HM0.out hm0' HZ0.out
  rw [CQX0.out] at hc
  refine hc.mono ?_
  clear hc
  rintro e w12 ⟨rfl, ho, hg⟩
  have B_12 := Lib.hid (hg.below' B_11.out (fun g h => (OwnL.lt _ X0_11.out g h).1))
  have K0_12 := Lib.hid (K0_11.out.inn hg D_X0_K0.out)
  have S_12 := Lib.hid (OwnL.apart hg _ S_11.out D_X0_S.out)
  have XB0_12 := Lib.hid (XB0_11.out.inn hg D_X0_XB0.out)
  have G_12 := Lib.hid (OwnL.apart hg _ G_11.out D_X0_G.out)
  clear B_11
  clear K0_11
  clear S_11
  clear X0_11
  clear XB0_11
  clear G_11
  clear ho hg
  clear XB0_12
  obtain ⟨pK00, pK01, pK02, pK03, pK04, pK0l⟩ := tb5 K0_12.out
  go_wp2_with fail
  clear pK00 pK01 pK02 pK03 pK04 pK0l
  refine (c_eqFloats _ _ _ _ yG yS _ (flL_at.1 (OwnL.at _ G_12.out)) (flL_at.1 (OwnL.at _ S_12.out)) (HYG.out.trans HYS.out.symm)).mono ?_
  rintro e w13 ⟨rfl, dn⟩
  have bl : Below w12.heap.size w12 w13 := by first | exact dn.below | exact (below_drewN (Below.refl _ _) _).trans dn.below
  clear dn
  have B_13 := Lib.hid (Below.next B_12.out bl)
  clear B_12
  have K0_13 := Lib.hid (K0_12.out.below bl)
  clear K0_12
  have S_13 := Lib.hid (OwnL.kept S_12.out bl)
  clear S_12
  have G_13 := Lib.hid (OwnL.kept G_12.out bl)
  clear G_12
  clear bl
  obtain ⟨pK00, pK01, pK02, pK03, pK04, pK0l⟩ := tb5 K0_13.out
  go_wp2_with fail
  clear pK00 pK01 pK02 pK03 pK04 pK0l
  obtain ⟨q, hq⟩ : ∃ q, 1 + yG.length = q := ⟨_, rfl⟩
  have HQ := Lib.hid hq
  have hq' : q ≤ 4194304 := by have := LG.out; omega
  have hq0 : (0 : Int) ≤ (q : Int) := by omega
  clear hq
  refine (c_markFl _ _ _ 1 q yG _ G_13.out HQ.out (by decide) LG.out).mono ?_
  rintro e w14 ⟨rfl, ho, hg⟩
  have B_14 := Lib.hid (hg.below' B_13.out (fun g h => (OwnL.lt _ G_13.out g h).1))
  have K0_14 := Lib.hid (K0_13.out.inn hg D_G_K0.out)
  have S_14 := Lib.hid (OwnL.apart hg _ S_13.out D_G_S.out)
  have G_14 := Lib.hid (ho)
  clear B_13
  clear K0_13
  clear S_13
  clear G_13
  clear ho hg
  obtain ⟨pK00, pK01, pK02, pK03, pK04, pK0l⟩ := tb5 K0_14.out
  go_wp2_with fail
  clear pK00 pK01 pK02 pK03 pK04 pK0l
  refine (c_heldFloats' _ _ 1 q yG.length _ (held_fl G_14.out) HQ.out (by decide) LG.out).mono ?_
  rintro e w' ⟨rfl, rfl⟩
  obtain ⟨pK00, pK01, pK02, pK03, pK04, pK0l⟩ := tb5 K0_14.out
  go_wp2_with fail
  clear pK00 pK01 pK02 pK03 pK04 pK0l
  refine (HA0.out _ (HS0.out.kept B_14.out)).mono ?_
  rintro e w15 ⟨qU0, rfl, ht, ho, hsc, hnd, bl⟩
  obtain ⟨uU0_0, uU0_1, uU0_2, uU0_3, uU0_4, uU0_5, uU0_6, uU0_7, uU0_8, hcc⟩ := cells5 qU0
  have CQU0 := Lib.hid hcc
  have HPU0 := Lib.hid ht
  have SCU0 := Lib.hid hsc
  rw [hcc]
  clear hcc
  have U0_15 := Lib.hid (OwnL.base B_14.out.size _ ho)
  have B_15 := Lib.hid (Below.next B_14.out bl)
  clear B_14
  have K0_15 := Lib.hid (K0_14.out.below bl)
  clear K0_14
  have S_15 := Lib.hid (OwnL.kept S_14.out bl)
  clear S_14
  have G_15 := Lib.hid (OwnL.kept G_14.out bl)
  clear G_14
  clear ht hsc ho hnd
  clear bl
  obtain ⟨pK00, pK01, pK02, pK03, pK04, pK0l⟩ := tb5 K0_15.out
  go_wp2_with fail
  clear pK00 pK01 pK02 pK03 pK04 pK0l
  have hc := CI.out qU0 _ HPU0.out (TrsOwn.at ⟨U0_15.out, SCU0.out⟩)
  rw [CQU0.out] at hc
  refine hc.mono ?_
  clear hc
  rintro e w16 ⟨aH, capH, yH, rfl, hf, hy, bl⟩
  have HYH := Lib.hid hy
  have ho := flL_own.2 hf
  have H_16 := Lib.hid (OwnL.base B_15.out.size _ ho)
  have B_16 := Lib.hid (Below.next B_15.out bl)
  clear B_15
  have K0_16 := Lib.hid (K0_15.out.below bl)
  clear K0_15
  have S_16 := Lib.hid (OwnL.kept S_15.out bl)
  clear S_15
  have G_16 := Lib.hid (OwnL.kept G_15.out bl)
  clear G_15
  have U0_16 := Lib.hid (OwnL.kept U0_15.out bl)
  clear U0_15
  clear hf hy ho
  clear bl
  clear U0_16
  obtain ⟨pK00, pK01, pK02, pK03, pK04, pK0l⟩ := tb5 K0_16.out
  go_wp2_with fail
  clear pK00 pK01 pK02 pK03 pK04 pK0l
  refine (c_eqFloats _ _ _ _ yH yS _ (flL_at.1 (OwnL.at _ H_16.out)) (flL_at.1 (OwnL.at _ S_16.out)) (HYH.out.trans HYS.out.symm)).mono ?_
  rintro e w17 ⟨rfl, dn⟩
  have bl : Below w16.heap.size w16 w17 := by first | exact dn.below | exact (below_drewN (Below.refl _ _) _).trans dn.below
  clear dn
  have B_17 := Lib.hid (Below.next B_16.out bl)
  clear B_16
  have K0_17 := Lib.hid (K0_16.out.below bl)
  clear K0_16
  have S_17 := Lib.hid (OwnL.kept S_16.out bl)
  clear S_16
  have G_17 := Lib.hid (OwnL.kept G_16.out bl)
  clear G_16
  have H_17 := Lib.hid (OwnL.kept H_16.out bl)
  clear H_16
  clear bl
  obtain ⟨pK00, pK01, pK02, pK03, pK04, pK0l⟩ := tb5 K0_17.out
  go_wp2_with fail
  clear pK00 pK01 pK02 pK03 pK04 pK0l
  refine (c_heldFloats' _ _ 1 q yG.length _ (held_fl G_17.out) HQ.out (by decide) LG.out).mono ?_
  rintro e w' ⟨rfl, rfl⟩
  obtain ⟨pK00, pK01, pK02, pK03, pK04, pK0l⟩ := tb5 K0_17.out
  go_wp2_with fail
  clear pK00 pK01 pK02 pK03 pK04 pK0l
  go_ret
  exact ⟨rfl, B_17.out⟩

theorem walk (v0 : Value) (w : World) (w0 : ∃ q : TrsA, v0 = .agg q.cells ∧ TrsAt w q) :
    Calls Try.prog 5 #[v0] w fun e w' => e = .returned (.bool true) ∧ Below w.heap.size w w' := by
  obtain ⟨q0, rfl, w0⟩ := w0
  by_cases hL0 : (trsSum q0) ≤ 1048576
  case neg =>
    obtain ⟨u0_0, u0_1, u0_2, u0_3, u0_4, u0_5, u0_6, u0_7, u0_8, hc0⟩ := cells5 q0
    have bb := (Below.refl w.heap.size w).alloc (by simp) (.cells #[.slice u0_0 u0_1 u0_2, .slice u0_3 u0_4 u0_5, .int .i64 u0_6, .int .i64 u0_7, .float .f32 u0_8] 28)
    have k0 := Blk.new w 28 #[.slice u0_0 u0_1 u0_2, .slice u0_3 u0_4 u0_5, .int .i64 u0_6, .int .i64 u0_7, .float .f32 u0_8]
    have B := Lib.hid bb
    have K0 := Lib.hid k0
    have HN := Lib.hid (fun W (hb : Below w.heap.size w W) => c_szTrs_no q0 1048576 W (w0.kept hb) (Nat.le_refl _) (by omega))
    simp only [hc0] at HN
    simp only [hc0]
    clear bb k0 hc0
    clear hL0
    go_enter Try.func5, Try.ntmps5
    go_wp2_with fail
    generalize w.alloc (.cells #[.slice u0_0 u0_1 u0_2, .slice u0_3 u0_4 u0_5, .int .i64 u0_6, .int .i64 u0_7, .float .f32 u0_8] 28) = w1 at B K0 ⊢
    refine (HN.out _ B.out).mono ?_
    rintro e w3 ⟨rfl, hb⟩
    have B3 := Lib.hid (Below.next B.out hb)
    clear hb
    go_wp2_with fail
    go_ret
    exact ⟨rfl, B3.out⟩
  case pos =>
    have Hs := fun (p0 : TrsA) (w : World) (hp0 : TrsEq p0 q0) (h0 : TrsAt w p0) => t_sAllNumbers p0 w h0
    have Hi := fun (p0 : TrsA) (w : World) (hp0 : TrsEq p0 q0) (h0 : TrsAt w p0) => t_iAllNumbers p0 w h0
    have Hs' := fun (p0 : TrsA) (w : World) (hp0 : TrsEq p0 q0) (h0 : TrsAt w p0) => by have h := Hs p0 w hp0 h0; rw [vAllNumbers_of hp0] at h; exact h
    have Hi' := fun (p0 : TrsA) (w : World) (hp0 : TrsEq p0 q0) (h0 : TrsAt w p0) => by have h := Hi p0 w hp0 h0; rw [vAllNumbers_of hp0] at h; exact h
    exact core q0  w w0 (vAllNumbers q0).1 (vAllNumbers q0).2 hL0 (vAllNumbers_len q0) Hs' Hi'

/-! the row's step -/
set_option maxRecDepth 100000 in
theorem lifted (os : Os) (started : os.Started) (H : Type) (enc : TypeId × Value → H) :
    ReturnsInHanded {} Try.checked os 5 .any (Rows.fnExactAllNumbersSpec.pre6 enc Try.prog Try.f5 Rows.fnExactAllNumbersRow.domain false) (Rows.fnExactAllNumbersSpec.post enc Try.prog Try.f5 false true false false) := by
  refine returnsInHanded_of_change (C := Try.checked) own started (by kernel_rfl) Try.func5
    (ChangeSpec.witness6 (enc := enc) (C := Try.checked) false ⟨#[], #[.agg #[.slice none 0 0, .slice none 0 0, .int .i64 0, .int .i64 0, .float .f32 0]], []⟩ 8 (by kernel_rfl) (by kernel_rfl) (by kernel_rfl) (by kernel_rfl)) ?_
  intro W base args ds gs before hval0 hW hcnd _
  have hval : ∀ (j : Nat) t v, Try.f5.params[j]? = some t → args[j]? = some v → Value.okWide Try.prog W .any base t v := hval0
  have hW' := hW
  obtain ⟨p, q, hA0, hV, rfl, hfz, hnd⟩ := hW
  have hA : DataW.TrodAll enc Try.prog W 0 (fun _ => true) true Try.f5.params.toList args.toList ds p := hA0
  rw [Try.params5] at hA hval
  obtain ⟨v0, vs0, d0, ds0, p0, q0, hargs, rfl, rfl, h0, rest0⟩ := trodAll_cons hA
  obtain ⟨rfl, rfl, rfl⟩ := trodAll_nil rest0
  obtain rfl : args = #[v0] := by cases args; simp_all
  obtain ⟨rfl, rfl⟩ := trodVars_none hV
  have k0 := h0
  have lt0 : ∀ x ∈ p0, x.block < W.heap.size := by obtain ⟨m, hm⟩ := k0; exact DataW.trod_lt m _ _ _ hm
  have w0 := open_Trs (hval 0 28 v0 rfl rfl) h0
  clear hA0 hval0
  refine (walk _ W w0).mono fun e W' ⟨he, bel⟩ => ?_
  subst he
  exact ⟨_, rfl, _, _, _, [], _, [], hW', trodAll_mk1 (shut_bool Try.underlying4 _), (trodAll_cons_mk (Below.trod laidOut (by kernel_rfl) (of_decide_eq_true (by kernel_rfl)) k0 bel lt0) trodAll_mk0), rfl, bel.frame _, fun h => by cases h⟩

theorem over : Rows.fnExactAllNumbersRow.holds Try.pinned (OpenSpec.ofChange Rows.fnExactAllNumbersSpec) :=
  OpenClaim.holds_of_wide 5 Try.f5 rfl rfl rfl rfl rfl rfl rfl ⟨rfl, rfl, rfl, rfl, rfl⟩ rfl rfl rfl rfl rfl (by kernel_rfl) Try.func5 (by kernel_rfl)
    (of_decide_eq_true (by kernel_rfl)) (by unfold Func.isWrapper; first | (rw [if_pos (by decide +kernel)]; kernel_rfl) | (rw [if_neg (by decide +kernel)]; exact ⟨rfl, rfl⟩))
    (fun os started H enc _ => lifted os started H enc)

/-- the statement -/
theorem proved : Rows.FnExactAllNumbersSaid := over
end Go.Proofs.Ytpobdigmjfapbaa.fnExactAllNumbers
