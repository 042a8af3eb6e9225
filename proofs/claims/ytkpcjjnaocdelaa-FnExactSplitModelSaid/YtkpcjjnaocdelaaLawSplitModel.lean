/-
  SplitModel answers what the model says, of any model and place, changes nothing of it, and gives new memory.
-/
import Derived.Test.YtkpcjjnaocdelaaMspl
import Derived.ChangeOld
import Derived.Below
namespace Go.Proofs.Ytkpcjjnaocdelaa.fnExactSplitModel
open Go.ChangeShapes Go.WideShapes Go.ChangeAt Go.RowKit
open Go.ChangeMaps (open_string shut_string)
set_option linter.unusedVariables false

set_option maxHeartbeats 4000000 in
set_option maxRecDepth 100000 in
/-- for any contracts of the model and of the program that say the same -/
theorem core (ls0 : List LayA) (v1 : Int) (g0 : Option Addr) (c0 : Nat)  (w : World) (w0' : LaysAt w g0 ls0.length c0 ls0) (b : Bool) (zs zt : List LayP) (hL0 : (ls0.length + laySum (ls0.map LayA.p)) ≤ 1048576) (hz : 3 * zs.length + laySum zs + (3 * zt.length + laySum zt) ≤ 1048576)
    (CS' : ∀ (g0 : Option Addr) (c0 : Nat) (y0 : List LayA) (w : World), (y0.map LayA.p = ls0.map LayA.p) → (LaysAt w g0 ls0.length c0 y0) → Calls Try.prog 45 #[.agg #[.slice g0 ls0.length c0], .int .i64 v1] w (RetW b zs zt w))
    (CI' : ∀ (g0 : Option Addr) (c0 : Nat) (y0 : List LayA) (w : World), (y0.map LayA.p = ls0.map LayA.p) → (LaysAt w g0 ls0.length c0 y0) → Calls Try.prog 46 #[.agg #[.slice g0 ls0.length c0], .int .i64 v1] w (RetW b zs zt w)) :
    Calls Try.prog 10 #[.agg #[.slice g0 ls0.length c0], .int .i64 v1] w fun e w' => e = .returned (.bool true) ∧ Below w.heap.size w w' := by
  have HS0 := Lib.hid w0'
  have HZ0 := Lib.hid (show ls0.length + laySum (ls0.map LayA.p) ≤ 1048576 by omega)
  have CS := Lib.hid CS'
  have CI := Lib.hid CI'
  obtain ⟨l0, hl0⟩ : ∃ l, 1048576 - (ls0.length + laySum (ls0.map LayA.p)) = l := ⟨_, rfl⟩
  have hl0' : l0 ≤ 1048576 := by omega
  have HQ0 := Lib.hid (show ls0.length + laySum (ls0.map LayA.p) ≤ 1048576 by omega)
  have HE0 := Lib.hid hl0
  have hp0 : (0 : Int) ≤ (l0 : Int) := by omega
  obtain ⟨m0, hm0⟩ : ∃ m, 1 + (3 * ls0.length + laySum (ls0.map LayA.p)) = m := ⟨_, rfl⟩
  have hm0' : m0 ≤ 4194304 := by omega
  have hn0' : (0 : Int) ≤ (m0 : Int) := by omega
  have HM0 := Lib.hid hm0
  clear hm0
  clear w0' CS' CI' hl0 hL0
  go_enter Try.func10, Try.ntmps10
  go_wp2_with fail
  have B_0 := Lib.hid (Below.refl w.heap.size w)
  have bl := (Below.refl (w).heap.size (w)).alloc (Nat.le_refl _) (.cells #[.slice g0 ls0.length c0] 35)
  have K0_1 := Lib.hid (Blk.new (w) 35 #[.slice g0 ls0.length c0])
  have B_1 := Lib.hid (Below.next B_0.out bl)
  clear B_0
  clear bl
  generalize (w).alloc (.cells #[.slice g0 ls0.length c0] 35) = w1 at B_1 K0_1 ⊢
  refine (c_szMod _ _ _ _ _ ls0 _ (HS0.out.kept B_1.out) (Nat.le_refl _) HQ0.out HE0.out).mono ?_
  rintro e w2 ⟨rfl, bl⟩
  have B_2 := Lib.hid (Below.next B_1.out bl)
  clear B_1
  have K0_2 := Lib.hid (K0_1.out.below bl)
  clear K0_1
  clear bl
  obtain ⟨pK00, pK0l⟩ := tb1 K0_2.out
  go_wp2_with fail
  clear pK00 pK0l
  refine (c_toMod _ _ _ ls0 _ (HS0.out.kept B_2.out) HZ0.out).mono ?_
  rintro e w3 ⟨gT0, yT0, rfl, hl, hp, ho, hnd, bl⟩
  have HPT0 := Lib.hid hp
  have HLT0 := Lib.hid hl
  have T0_3 := Lib.hid (OwnL.base B_2.out.size _ ho)
  have B_3 := Lib.hid (Below.next B_2.out bl)
  clear B_2
  have K0_3 := Lib.hid (K0_2.out.below bl)
  clear K0_2
  clear hl hp ho hnd
  clear bl
  obtain ⟨pK00, pK0l⟩ := tb1 K0_3.out
  go_wp2_with fail
  clear pK00 pK0l
  refine (CS.out _ _ yT0 _ HPT0.out (laysAt_own HLT0.out T0_3.out)).mono ?_
  rintro e w4 ⟨gSa, capSa, ySa, gSb, capSb, ySb, rfl, hoo, hnd, hy, hy', bl⟩
  have HYSa := Lib.hid hy
  have HYSb := Lib.hid hy'
  have hoa := hoo.1
  have hob := hoo.2
  have Sa_4 := Lib.hid (OwnL.base B_3.out.size _ hoa)
  have Sb_4 := Lib.hid (OwnL.base B_3.out.size _ hob)
  have B_4 := Lib.hid (Below.next B_3.out bl)
  clear B_3
  have K0_4 := Lib.hid (K0_3.out.below bl)
  clear K0_3
  have T0_4 := Lib.hid (OwnL.kept T0_3.out bl)
  clear T0_3
  clear hoo hoa hob hnd hy hy'
  clear bl
  clear T0_4
  obtain ⟨pK00, pK0l⟩ := tb1 K0_4.out
  go_wp2_with fail
  clear pK00 pK0l
  have bl := (Below.refl w4.heap.size w4).alloc (Nat.le_refl _) (.cells #[.slice gSa ySa.length capSa] 41)
  have SBa_5 := Lib.hid (Blk.new w4 41 #[.slice gSa ySa.length capSa])
  have B_5 := Lib.hid (Below.next B_4.out bl)
  clear B_4
  have K0_5 := Lib.hid (K0_4.out.below bl)
  clear K0_4
  have Sa_5 := Lib.hid (OwnL.kept Sa_4.out bl)
  clear Sa_4
  have Sb_5 := Lib.hid (OwnL.kept Sb_4.out bl)
  clear Sb_4
  clear bl
  have bl := (Below.refl (w4.alloc (.cells #[.slice gSa ySa.length capSa] 41)).heap.size (w4.alloc (.cells #[.slice gSa ySa.length capSa] 41))).alloc (Nat.le_refl _) (.cells #[.slice gSb ySb.length capSb] 41)
  have SBb_6 := Lib.hid (Blk.new (w4.alloc (.cells #[.slice gSa ySa.length capSa] 41)) 41 #[.slice gSb ySb.length capSb])
  have B_6 := Lib.hid (Below.next B_5.out bl)
  clear B_5
  have K0_6 := Lib.hid (K0_5.out.below bl)
  clear K0_5
  have Sa_6 := Lib.hid (OwnL.kept Sa_5.out bl)
  clear Sa_5
  have Sb_6 := Lib.hid (OwnL.kept Sb_5.out bl)
  clear Sb_5
  have SBa_6 := Lib.hid (SBa_5.out.below bl)
  clear SBa_5
  clear bl
  simp only [World.size_alloc] at SBb_6
  generalize (w4.alloc (.cells #[.slice gSa ySa.length capSa] 41)).alloc (.cells #[.slice gSb ySb.length capSb] 41) = w6 at B_6 K0_6 Sa_6 Sb_6 SBa_6 SBb_6 ⊢
  obtain ⟨pK00, pK0l⟩ := tb1 K0_6.out
  obtain ⟨pSBa0, pSBal⟩ := tb1 SBa_6.out
  obtain ⟨pSBb0, pSBbl⟩ := tb1 SBb_6.out
  try go_wp2_with fail
  clear pK00 pK0l pSBa0 pSBal pSBb0 pSBbl
  obtain ⟨pK00, pK0l⟩ := tb1 K0_6.out
  obtain ⟨pSBa0, pSBal⟩ := tb1 SBa_6.out
  obtain ⟨pSBb0, pSBbl⟩ := tb1 SBb_6.out
  go_wp2_with fail
  clear pK00 pK0l pSBa0 pSBal pSBb0 pSBbl
  refine (c_toMod _ _ _ ls0 _ (HS0.out.kept B_6.out) HZ0.out).mono ?_
  rintro e w7 ⟨gX0, yX0, rfl, hl, hp, ho, hnd, bl⟩
  have HPX0 := Lib.hid hp
  have HLX0 := Lib.hid hl
  have D_X0_K0 := Lib.hid (apart_box K0_6.out ho)
  have D_X0_Sa := Lib.hid (apart_new Sa_6.out ho)
  have D_X0_Sb := Lib.hid (apart_new Sb_6.out ho)
  have D_X0_SBa := Lib.hid (apart_box SBa_6.out ho)
  have D_X0_SBb := Lib.hid (apart_box SBb_6.out ho)
  have NDX0 := Lib.hid hnd
  have X0_7 := Lib.hid (OwnL.base B_6.out.size _ ho)
  have B_7 := Lib.hid (Below.next B_6.out bl)
  clear B_6
  have K0_7 := Lib.hid (K0_6.out.below bl)
  clear K0_6
  have Sa_7 := Lib.hid (OwnL.kept Sa_6.out bl)
  clear Sa_6
  have Sb_7 := Lib.hid (OwnL.kept Sb_6.out bl)
  clear Sb_6
  have SBa_7 := Lib.hid (SBa_6.out.below bl)
  clear SBa_6
  have SBb_7 := Lib.hid (SBb_6.out.below bl)
  clear SBb_6
  clear hl hp ho hnd
  clear bl
  obtain ⟨pK00, pK0l⟩ := tb1 K0_7.out
  obtain ⟨pSBa0, pSBal⟩ := tb1 SBa_7.out
  obtain ⟨pSBb0, pSBbl⟩ := tb1 SBb_7.out
  go_wp2_with fail
  clear pK00 pK0l pSBa0 pSBal pSBb0 pSBbl
  have D_X0_XB0 := Lib.hid (apart_next X0_7.out)
  have bl := (Below.refl w7.heap.size w7).alloc (Nat.le_refl _) (.cells #[.slice (some ⟨gX0, 0, none⟩) ls0.length ls0.length] 41)
  have XB0_8 := Lib.hid (Blk.new w7 41 #[.slice (some ⟨gX0, 0, none⟩) ls0.length ls0.length])
  have B_8 := Lib.hid (Below.next B_7.out bl)
  clear B_7
  have K0_8 := Lib.hid (K0_7.out.below bl)
  clear K0_7
  have Sa_8 := Lib.hid (OwnL.kept Sa_7.out bl)
  clear Sa_7
  have Sb_8 := Lib.hid (OwnL.kept Sb_7.out bl)
  clear Sb_7
  have SBa_8 := Lib.hid (SBa_7.out.below bl)
  clear SBa_7
  have SBb_8 := Lib.hid (SBb_7.out.below bl)
  clear SBb_7
  have X0_8 := Lib.hid (OwnL.kept X0_7.out bl)
  clear X0_7
  clear bl
  generalize w7.alloc (.cells #[.slice (some ⟨gX0, 0, none⟩) ls0.length ls0.length] 41) = w8 at B_8 K0_8 Sa_8 Sb_8 SBa_8 SBb_8 X0_8 XB0_8 ⊢
  obtain ⟨pK00, pK0l⟩ := tb1 K0_8.out
  obtain ⟨pSBa0, pSBal⟩ := tb1 SBa_8.out
  obtain ⟨pSBb0, pSBbl⟩ := tb1 SBb_8.out
  obtain ⟨pXB00, pXB0l⟩ := tb1 XB0_8.out
  try go_wp2_with fail
  clear pK00 pK0l pSBa0 pSBal pSBb0 pSBbl pXB00 pXB0l
  refine (CI.out _ _ yX0 _ HPX0.out (laysAt_own HLX0.out X0_8.out)).mono ?_
  rintro e w9 ⟨gGa, capGa, yGa, gGb, capGb, yGb, rfl, hoo, hnd, hy, hy', bl⟩
  have HYGa := Lib.hid hy
  have HYGb := Lib.hid hy'
  have hoa := hoo.1
  have hob := hoo.2
  have D_Ga_K0 := Lib.hid (apart_box K0_8.out hoa)
  have D_Ga_Sa := Lib.hid (apart_new Sa_8.out hoa)
  have D_Ga_Sb := Lib.hid (apart_new Sb_8.out hoa)
  have D_Ga_SBa := Lib.hid (apart_box SBa_8.out hoa)
  have D_Ga_SBb := Lib.hid (apart_box SBb_8.out hoa)
  have D_X0_Ga := Lib.hid (apart_symm (apart_new X0_8.out hoa))
  have D_Ga_X0 := Lib.hid (apart_new X0_8.out hoa)
  have D_Ga_XB0 := Lib.hid (apart_box XB0_8.out hoa)
  have D_Gb_K0 := Lib.hid (apart_box K0_8.out hob)
  have D_Gb_Sa := Lib.hid (apart_new Sa_8.out hob)
  have D_Gb_Sb := Lib.hid (apart_new Sb_8.out hob)
  have D_Gb_SBa := Lib.hid (apart_box SBa_8.out hob)
  have D_Gb_SBb := Lib.hid (apart_box SBb_8.out hob)
  have D_X0_Gb := Lib.hid (apart_symm (apart_new X0_8.out hob))
  have D_Gb_X0 := Lib.hid (apart_new X0_8.out hob)
  have D_Gb_XB0 := Lib.hid (apart_box XB0_8.out hob)
  have NDGa := Lib.hid (List.nodup_append.1 hnd).1
  have NDGb := Lib.hid (List.nodup_append.1 hnd).2.1
  have D_Ga_Gb := Lib.hid (fun g (h1 : g ∈ blL _) (h2 : g ∈ blL _) => (List.nodup_append.1 hnd).2.2 g h2 g h1 rfl)
  have D_Gb_Ga := Lib.hid (fun g (h1 : g ∈ blL _) (h2 : g ∈ blL _) => (List.nodup_append.1 hnd).2.2 g h1 g h2 rfl)
  have LG := Lib.hid (retW_bound hy hy' hz)
  have Ga_9 := Lib.hid (OwnL.base B_8.out.size _ hoa)
  have Gb_9 := Lib.hid (OwnL.base B_8.out.size _ hob)
  have B_9 := Lib.hid (Below.next B_8.out bl)
  clear B_8
  have K0_9 := Lib.hid (K0_8.out.below bl)
  clear K0_8
  have Sa_9 := Lib.hid (OwnL.kept Sa_8.out bl)
  clear Sa_8
  have Sb_9 := Lib.hid (OwnL.kept Sb_8.out bl)
  clear Sb_8
  have SBa_9 := Lib.hid (SBa_8.out.below bl)
  clear SBa_8
  have SBb_9 := Lib.hid (SBb_8.out.below bl)
  clear SBb_8
  have X0_9 := Lib.hid (OwnL.kept X0_8.out bl)
  clear X0_8
  have XB0_9 := Lib.hid (XB0_8.out.below bl)
  clear XB0_8
  clear hoo hoa hob hnd hy hy'
  clear bl
  obtain ⟨pK00, pK0l⟩ := tb1 K0_9.out
  obtain ⟨pSBa0, pSBal⟩ := tb1 SBa_9.out
  obtain ⟨pSBb0, pSBbl⟩ := tb1 SBb_9.out
  obtain ⟨pXB00, pXB0l⟩ := tb1 XB0_9.out
  go_wp2_with fail
  clear pK00 pK0l pSBa0 pSBal pSBb0 pSBbl pXB00 pXB0l
  have D_X0_GBa := Lib.hid (apart_next X0_9.out)
  have D_Ga_GBa := Lib.hid (apart_next Ga_9.out)
  have D_Gb_GBa := Lib.hid (apart_next Gb_9.out)
  have bl := (Below.refl w9.heap.size w9).alloc (Nat.le_refl _) (.cells #[.slice gGa yGa.length capGa] 41)
  have GBa_10 := Lib.hid (Blk.new w9 41 #[.slice gGa yGa.length capGa])
  have B_10 := Lib.hid (Below.next B_9.out bl)
  clear B_9
  have K0_10 := Lib.hid (K0_9.out.below bl)
  clear K0_9
  have Sa_10 := Lib.hid (OwnL.kept Sa_9.out bl)
  clear Sa_9
  have Sb_10 := Lib.hid (OwnL.kept Sb_9.out bl)
  clear Sb_9
  have SBa_10 := Lib.hid (SBa_9.out.below bl)
  clear SBa_9
  have SBb_10 := Lib.hid (SBb_9.out.below bl)
  clear SBb_9
  have X0_10 := Lib.hid (OwnL.kept X0_9.out bl)
  clear X0_9
  have XB0_10 := Lib.hid (XB0_9.out.below bl)
  clear XB0_9
  have Ga_10 := Lib.hid (OwnL.kept Ga_9.out bl)
  clear Ga_9
  have Gb_10 := Lib.hid (OwnL.kept Gb_9.out bl)
  clear Gb_9
  clear bl
  have D_X0_GBb := Lib.hid (apart_next X0_10.out)
  have D_Ga_GBb := Lib.hid (apart_next Ga_10.out)
  have D_Gb_GBb := Lib.hid (apart_next Gb_10.out)
  have bl := (Below.refl (w9.alloc (.cells #[.slice gGa yGa.length capGa] 41)).heap.size (w9.alloc (.cells #[.slice gGa yGa.length capGa] 41))).alloc (Nat.le_refl _) (.cells #[.slice gGb yGb.length capGb] 41)
  have GBb_11 := Lib.hid (Blk.new (w9.alloc (.cells #[.slice gGa yGa.length capGa] 41)) 41 #[.slice gGb yGb.length capGb])
  have B_11 := Lib.hid (Below.next B_10.out bl)
  clear B_10
  have K0_11 := Lib.hid (K0_10.out.below bl)
  clear K0_10
  have Sa_11 := Lib.hid (OwnL.kept Sa_10.out bl)
  clear Sa_10
  have Sb_11 := Lib.hid (OwnL.kept Sb_10.out bl)
  clear Sb_10
  have SBa_11 := Lib.hid (SBa_10.out.below bl)
  clear SBa_10
  have SBb_11 := Lib.hid (SBb_10.out.below bl)
  clear SBb_10
  have X0_11 := Lib.hid (OwnL.kept X0_10.out bl)
  clear X0_10
  have XB0_11 := Lib.hid (XB0_10.out.below bl)
  clear XB0_10
  have Ga_11 := Lib.hid (OwnL.kept Ga_10.out bl)
  clear Ga_10
  have Gb_11 := Lib.hid (OwnL.kept Gb_10.out bl)
  clear Gb_10
  have GBa_11 := Lib.hid (GBa_10.out.below bl)
  clear GBa_10
  clear bl
  simp only [World.size_alloc] at GBb_11 D_X0_GBb D_Ga_GBb D_Gb_GBb
  generalize (w9.alloc (.cells #[.slice gGa yGa.length capGa] 41)).alloc (.cells #[.slice gGb yGb.length capGb] 41) = w11 at B_11 K0_11 Sa_11 Sb_11 SBa_11 SBb_11 X0_11 XB0_11 Ga_11 Gb_11 GBa_11 GBb_11 ⊢
  obtain ⟨pK00, pK0l⟩ := tb1 K0_11.out
  obtain ⟨pSBa0, pSBal⟩ := tb1 SBa_11.out
  obtain ⟨pSBb0, pSBbl⟩ := tb1 SBb_11.out
  obtain ⟨pXB00, pXB0l⟩ := tb1 XB0_11.out
  obtain ⟨pGBa0, pGBal⟩ := tb1 GBa_11.out
  obtain ⟨pGBb0, pGBbl⟩ := tb1 GBb_11.out
  try go_wp2_with fail
  clear pK00 pK0l pSBa0 pSBal pSBb0 pSBbl pXB00 pXB0l pGBa0 pGBal pGBb0 pGBbl
  refine (c_eqMod' _ _ _ _ yGa ySa _ (laysAt_own rfl Ga_11.out) (laysAt_own rfl Sa_11.out) (HYGa.out.trans HYSa.out.symm)).mono ?_
  rintro e w12 ⟨rfl, bl⟩
  have B_12 := Lib.hid (Below.next B_11.out bl)
  clear B_11
  have K0_12 := Lib.hid (K0_11.out.below bl)
  clear K0_11
  have Sa_12 := Lib.hid (OwnL.kept Sa_11.out bl)
  clear Sa_11
  have Sb_12 := Lib.hid (OwnL.kept Sb_11.out bl)
  clear Sb_11
  have SBa_12 := Lib.hid (SBa_11.out.below bl)
  clear SBa_11
  have SBb_12 := Lib.hid (SBb_11.out.below bl)
  clear SBb_11
  have X0_12 := Lib.hid (OwnL.kept X0_11.out bl)
  clear X0_11
  have XB0_12 := Lib.hid (XB0_11.out.below bl)
  clear XB0_11
  have Ga_12 := Lib.hid (OwnL.kept Ga_11.out bl)
  clear Ga_11
  have Gb_12 := Lib.hid (OwnL.kept Gb_11.out bl)
  clear Gb_11
  have GBa_12 := Lib.hid (GBa_11.out.below bl)
  clear GBa_11
  have GBb_12 := Lib.hid (GBb_11.out.below bl)
  clear GBb_11
  clear bl
  obtain ⟨pK00, pK0l⟩ := tb1 K0_12.out
  obtain ⟨pSBa0, pSBal⟩ := tb1 SBa_12.out
  obtain ⟨pSBb0, pSBbl⟩ := tb1 SBb_12.out
  obtain ⟨pXB00, pXB0l⟩ := tb1 XB0_12.out
  obtain ⟨pGBa0, pGBal⟩ := tb1 GBa_12.out
  obtain ⟨pGBb0, pGBbl⟩ := tb1 GBb_12.out
  go_wp2_with fail
  clear pK00 pK0l pSBa0 pSBal pSBb0 pSBbl pXB00 pXB0l pGBa0 pGBal pGBb0 pGBbl
  refine (c_eqMod' _ _ _ _ yGb ySb _ (laysAt_own rfl Gb_12.out) (laysAt_own rfl Sb_12.out) (HYGb.out.trans HYSb.out.symm)).mono ?_
  rintro e w13 ⟨rfl, bl⟩
  have B_13 := Lib.hid (Below.next B_12.out bl)
  clear B_12
  have K0_13 := Lib.hid (K0_12.out.below bl)
  clear K0_12
  have Sa_13 := Lib.hid (OwnL.kept Sa_12.out bl)
  clear Sa_12
  have Sb_13 := Lib.hid (OwnL.kept Sb_12.out bl)
  clear Sb_12
  have SBa_13 := Lib.hid (SBa_12.out.below bl)
  clear SBa_12
  have SBb_13 := Lib.hid (SBb_12.out.below bl)
  clear SBb_12
  have X0_13 := Lib.hid (OwnL.kept X0_12.out bl)
  clear X0_12
  have XB0_13 := Lib.hid (XB0_12.out.below bl)
  clear XB0_12
  have Ga_13 := Lib.hid (OwnL.kept Ga_12.out bl)
  clear Ga_12
  have Gb_13 := Lib.hid (OwnL.kept Gb_12.out bl)
  clear Gb_12
  have GBa_13 := Lib.hid (GBa_12.out.below bl)
  clear GBa_12
  have GBb_13 := Lib.hid (GBb_12.out.below bl)
  clear GBb_12
  clear bl
  obtain ⟨pK00, pK0l⟩ := tb1 K0_13.out
  obtain ⟨pSBa0, pSBal⟩ := tb1 SBa_13.out
  obtain ⟨pSBb0, pSBbl⟩ := tb1 SBb_13.out
  obtain ⟨pXB00, pXB0l⟩ := tb1 XB0_13.out
  obtain ⟨pGBa0, pGBal⟩ := tb1 GBa_13.out
  obtain ⟨pGBb0, pGBbl⟩ := tb1 GBb_13.out
  go_wp2_with fail
  clear pK00 pK0l pSBa0 pSBal pSBb0 pSBbl pXB00 pXB0l pGBa0 pGBal pGBb0 pGBbl
  have bl : Below w13.heap.size w13 w13.drew := (Below.refl _ _).drew
  have B_14 := Lib.hid (Below.next B_13.out bl)
  clear B_13
  have K0_14 := Lib.hid (K0_13.out.below bl)
  clear K0_13
  have Sa_14 := Lib.hid (OwnL.kept Sa_13.out bl)
  clear Sa_13
  have Sb_14 := Lib.hid (OwnL.kept Sb_13.out bl)
  clear Sb_13
  have SBa_14 := Lib.hid (SBa_13.out.below bl)
  clear SBa_13
  have SBb_14 := Lib.hid (SBb_13.out.below bl)
  clear SBb_13
  have X0_14 := Lib.hid (OwnL.kept X0_13.out bl)
  clear X0_13
  have XB0_14 := Lib.hid (XB0_13.out.below bl)
  clear XB0_13
  have Ga_14 := Lib.hid (OwnL.kept Ga_13.out bl)
  clear Ga_13
  have Gb_14 := Lib.hid (OwnL.kept Gb_13.out bl)
  clear Gb_13
  have GBa_14 := Lib.hid (GBa_13.out.below bl)
  clear GBa_13
  have GBb_14 := Lib.hid (GBb_13.out.below bl)
  clear GBb_13
  clear bl
  obtain ⟨pK00, pK0l⟩ := tb1 K0_14.out
  obtain ⟨pSBa0, pSBal⟩ := tb1 SBa_14.out
  obtain ⟨pSBb0, pSBbl⟩ := tb1 SBb_14.out
  obtain ⟨pXB00, pXB0l⟩ := tb1 XB0_14.out
  obtain ⟨pGBa0, pGBal⟩ := tb1 GBa_14.out
  obtain ⟨pGBb0, pGBbl⟩ := tb1 GBb_14.out
  go_region_held3 (fun w' => w'.cell? ⟨w.heap.size, 0, none⟩ = some (.slice g0 ls0.length c0) ∧ w'.cell? ⟨w4.heap.size, 0, none⟩ = some (.slice gSa ySa.length capSa) ∧ w'.cell? ⟨w4.heap.size + 1, 0, none⟩ = some (.slice gSb ySb.length capSb) ∧ w'.cell? ⟨w7.heap.size, 0, none⟩ = some (.slice (some ⟨gX0, 0, none⟩) ls0.length ls0.length) ∧ w'.cell? ⟨w9.heap.size, 0, none⟩ = some (.slice gGa yGa.length capGa) ∧ w'.cell? ⟨w9.heap.size + 1, 0, none⟩ = some (.slice gGb yGb.length capGb)) (go_keep)
    (first
      | (go_at_call 20
         clear pK00 pK0l pSBa0 pSBal pSBb0 pSBbl pXB00 pXB0l pGBa0 pGBal pGBb0 pGBbl
         refine (c_toMod _ _ _ ls0 _ (HS0.out.kept B_14.out) HZ0.out).mono ?_
         rintro e w15 ⟨gY0, yY0, rfl, hl, hp, ho, hnd, bl⟩
         have HPY0 := Lib.hid hp
         have HLY0 := Lib.hid hl
         have Y0_15 := Lib.hid (OwnL.base B_14.out.size _ ho)
         have B_15 := Lib.hid (Below.next B_14.out bl)
         clear B_14
         have K0_15 := Lib.hid (K0_14.out.below bl)
         clear K0_14
         have Sa_15 := Lib.hid (OwnL.kept Sa_14.out bl)
         clear Sa_14
         have Sb_15 := Lib.hid (OwnL.kept Sb_14.out bl)
         clear Sb_14
         have SBa_15 := Lib.hid (SBa_14.out.below bl)
         clear SBa_14
         have SBb_15 := Lib.hid (SBb_14.out.below bl)
         clear SBb_14
         have X0_15 := Lib.hid (OwnL.kept X0_14.out bl)
         clear X0_14
         have XB0_15 := Lib.hid (XB0_14.out.below bl)
         clear XB0_14
         have Ga_15 := Lib.hid (OwnL.kept Ga_14.out bl)
         clear Ga_14
         have Gb_15 := Lib.hid (OwnL.kept Gb_14.out bl)
         clear Gb_14
         have GBa_15 := Lib.hid (GBa_14.out.below bl)
         clear GBa_14
         have GBb_15 := Lib.hid (GBb_14.out.below bl)
         clear GBb_14
         clear hl hp ho hnd
         clear bl
         obtain ⟨pK00, pK0l⟩ := tb1 K0_15.out
         obtain ⟨pSBa0, pSBal⟩ := tb1 SBa_15.out
         obtain ⟨pSBb0, pSBbl⟩ := tb1 SBb_15.out
         obtain ⟨pXB00, pXB0l⟩ := tb1 XB0_15.out
         obtain ⟨pGBa0, pGBal⟩ := tb1 GBa_15.out
         obtain ⟨pGBb0, pGBbl⟩ := tb1 GBb_15.out)
      | (go_at_call 22
         clear pK00 pK0l pSBa0 pSBal pSBb0 pSBbl pXB00 pXB0l pGBa0 pGBal pGBb0 pGBbl
         refine (c_eqMod _ _ _ _ _ yX0 yY0 _ (laysAt_own HLX0.out X0_15.out) (laysAt_own HLY0.out Y0_15.out) (can_of (HPX0.out.trans HPY0.out.symm))).mono ?_
         rintro e w16 ⟨rfl, bl⟩
         have B_16 := Lib.hid (Below.next B_15.out bl)
         clear B_15
         have K0_16 := Lib.hid (K0_15.out.below bl)
         clear K0_15
         have Sa_16 := Lib.hid (OwnL.kept Sa_15.out bl)
         clear Sa_15
         have Sb_16 := Lib.hid (OwnL.kept Sb_15.out bl)
         clear Sb_15
         have SBa_16 := Lib.hid (SBa_15.out.below bl)
         clear SBa_15
         have SBb_16 := Lib.hid (SBb_15.out.below bl)
         clear SBb_15
         have X0_16 := Lib.hid (OwnL.kept X0_15.out bl)
         clear X0_15
         have XB0_16 := Lib.hid (XB0_15.out.below bl)
         clear XB0_15
         have Ga_16 := Lib.hid (OwnL.kept Ga_15.out bl)
         clear Ga_15
         have Gb_16 := Lib.hid (OwnL.kept Gb_15.out bl)
         clear Gb_15
         have GBa_16 := Lib.hid (GBa_15.out.below bl)
         clear GBa_15
         have GBb_16 := Lib.hid (GBb_15.out.below bl)
         clear GBb_15
         have Y0_16 := Lib.hid (OwnL.kept Y0_15.out bl)
         clear Y0_15
         clear bl
         obtain ⟨pK00, pK0l⟩ := tb1 K0_16.out
         obtain ⟨pSBa0, pSBal⟩ := tb1 SBa_16.out
         obtain ⟨pSBb0, pSBbl⟩ := tb1 SBb_16.out
         obtain ⟨pXB00, pXB0l⟩ := tb1 XB0_16.out
         obtain ⟨pGBa0, pGBal⟩ := tb1 GBa_16.out
         obtain ⟨pGBb0, pGBbl⟩ := tb1 GBb_16.out))
  clear pK00 pK0l pSBa0 pSBal pSBb0 pSBbl pXB00 pXB0l pGBa0 pGBal pGBb0 pGBbl
  clear Y0_16
  obtain ⟨pK00, pK0l⟩ := tb1 K0_16.out
  obtain ⟨pSBa0, pSBal⟩ := tb1 SBa_16.out
  obtain ⟨pSBb0, pSBbl⟩ := tb1 SBb_16.out
  obtain ⟨pXB00, pXB0l⟩ := tb1 XB0_16.out
  obtain ⟨pGBa0, pGBal⟩ := tb1 GBa_16.out
  obtain ⟨pGBb0, pGBbl⟩ := tb1 GBb_16.out
  go_wp2_with fail
  clear pK00 pK0l pSBa0 pSBal pSBb0 pSBbl pXB00 pXB0l pGBa0 pGBal pGBb0 pGBbl
  refine (c_markMod _ _ _ 1 m0 _ yX0 _ HLX0.out X0_16.out NDX0.out (by rw [cnt_copy HLX0.out HPX0.out]; exact HM0.out) hm0' (by rw [HPX0.out]; have := HZ0.out; omega)).mono ?_
  rintro e w17 ⟨rfl, ho, hg⟩
  have B_17 := Lib.hid (hg.below' B_16.out (fun g h => (OwnL.lt _ X0_16.out g h).1))
  have K0_17 := Lib.hid (K0_16.out.inn hg D_X0_K0.out)
  have Sa_17 := Lib.hid (OwnL.apart hg _ Sa_16.out D_X0_Sa.out)
  have Sb_17 := Lib.hid (OwnL.apart hg _ Sb_16.out D_X0_Sb.out)
  have SBa_17 := Lib.hid (SBa_16.out.inn hg D_X0_SBa.out)
  have SBb_17 := Lib.hid (SBb_16.out.inn hg D_X0_SBb.out)
  have XB0_17 := Lib.hid (XB0_16.out.inn hg D_X0_XB0.out)
  have Ga_17 := Lib.hid (OwnL.apart hg _ Ga_16.out D_X0_Ga.out)
  have Gb_17 := Lib.hid (OwnL.apart hg _ Gb_16.out D_X0_Gb.out)
  have GBa_17 := Lib.hid (GBa_16.out.inn hg D_X0_GBa.out)
  have GBb_17 := Lib.hid (GBb_16.out.inn hg D_X0_GBb.out)
  clear B_16
  clear K0_16
  clear Sa_16
  clear Sb_16
  clear SBa_16
  clear SBb_16
  clear X0_16
  clear XB0_16
  clear Ga_16
  clear Gb_16
  clear GBa_16
  clear GBb_16
  clear ho hg
  clear XB0_17
  obtain ⟨pK00, pK0l⟩ := tb1 K0_17.out
  obtain ⟨pSBa0, pSBal⟩ := tb1 SBa_17.out
  obtain ⟨pSBb0, pSBbl⟩ := tb1 SBb_17.out
  obtain ⟨pGBa0, pGBal⟩ := tb1 GBa_17.out
  obtain ⟨pGBb0, pGBbl⟩ := tb1 GBb_17.out
  go_wp2_with fail
  clear pK00 pK0l pSBa0 pSBal pSBb0 pSBbl pGBa0 pGBal pGBb0 pGBbl
  refine (c_eqMod' _ _ _ _ yGa ySa _ (laysAt_own rfl Ga_17.out) (laysAt_own rfl Sa_17.out) (HYGa.out.trans HYSa.out.symm)).mono ?_
  rintro e w18 ⟨rfl, bl⟩
  have B_18 := Lib.hid (Below.next B_17.out bl)
  clear B_17
  have K0_18 := Lib.hid (K0_17.out.below bl)
  clear K0_17
  have Sa_18 := Lib.hid (OwnL.kept Sa_17.out bl)
  clear Sa_17
  have Sb_18 := Lib.hid (OwnL.kept Sb_17.out bl)
  clear Sb_17
  have SBa_18 := Lib.hid (SBa_17.out.below bl)
  clear SBa_17
  have SBb_18 := Lib.hid (SBb_17.out.below bl)
  clear SBb_17
  have Ga_18 := Lib.hid (OwnL.kept Ga_17.out bl)
  clear Ga_17
  have Gb_18 := Lib.hid (OwnL.kept Gb_17.out bl)
  clear Gb_17
  have GBa_18 := Lib.hid (GBa_17.out.below bl)
  clear GBa_17
  have GBb_18 := Lib.hid (GBb_17.out.below bl)
  clear GBb_17
  clear bl
  obtain ⟨pK00, pK0l⟩ := tb1 K0_18.out
  obtain ⟨pSBa0, pSBal⟩ := tb1 SBa_18.out
  obtain ⟨pSBb0, pSBbl⟩ := tb1 SBb_18.out
  obtain ⟨pGBa0, pGBal⟩ := tb1 GBa_18.out
  obtain ⟨pGBb0, pGBbl⟩ := tb1 GBb_18.out
  go_wp2_with fail
  clear pK00 pK0l pSBa0 pSBal pSBb0 pSBbl pGBa0 pGBal pGBb0 pGBbl
  refine (c_eqMod' _ _ _ _ yGb ySb _ (laysAt_own rfl Gb_18.out) (laysAt_own rfl Sb_18.out) (HYGb.out.trans HYSb.out.symm)).mono ?_
  rintro e w19 ⟨rfl, bl⟩
  have B_19 := Lib.hid (Below.next B_18.out bl)
  clear B_18
  have K0_19 := Lib.hid (K0_18.out.below bl)
  clear K0_18
  have Sa_19 := Lib.hid (OwnL.kept Sa_18.out bl)
  clear Sa_18
  have Sb_19 := Lib.hid (OwnL.kept Sb_18.out bl)
  clear Sb_18
  have SBa_19 := Lib.hid (SBa_18.out.below bl)
  clear SBa_18
  have SBb_19 := Lib.hid (SBb_18.out.below bl)
  clear SBb_18
  have Ga_19 := Lib.hid (OwnL.kept Ga_18.out bl)
  clear Ga_18
  have Gb_19 := Lib.hid (OwnL.kept Gb_18.out bl)
  clear Gb_18
  have GBa_19 := Lib.hid (GBa_18.out.below bl)
  clear GBa_18
  have GBb_19 := Lib.hid (GBb_18.out.below bl)
  clear GBb_18
  clear bl
  obtain ⟨pK00, pK0l⟩ := tb1 K0_19.out
  obtain ⟨pSBa0, pSBal⟩ := tb1 SBa_19.out
  obtain ⟨pSBb0, pSBbl⟩ := tb1 SBb_19.out
  obtain ⟨pGBa0, pGBal⟩ := tb1 GBa_19.out
  obtain ⟨pGBb0, pGBbl⟩ := tb1 GBb_19.out
  go_wp2_with fail
  clear pK00 pK0l pSBa0 pSBal pSBb0 pSBbl pGBa0 pGBal pGBb0 pGBbl
  obtain ⟨p, hpp⟩ : ∃ p, 1 + cntLays yGa = p := ⟨_, rfl⟩
  obtain ⟨q, hq⟩ : ∃ q, p + cntLays yGb = q := ⟨_, rfl⟩
  have HP_ := Lib.hid hpp
  have HQ := Lib.hid hq
  have hp' : p ≤ 4194304 := by have := LG.out; omega
  have hp0_ : (0 : Int) ≤ (p : Int) := by omega
  have hq' : q ≤ 4194304 := by have := LG.out; omega
  have hq0 : (0 : Int) ≤ (q : Int) := by omega
  clear hpp hq
  refine (c_markMod _ _ _ 1 p _ yGa _ rfl Ga_19.out NDGa.out HP_.out hp' LG.out.2.2.1).mono ?_
  rintro e w20 ⟨rfl, ho, hg⟩
  have B_20 := Lib.hid (hg.below' B_19.out (fun g h => (OwnL.lt _ Ga_19.out g h).1))
  have K0_20 := Lib.hid (K0_19.out.inn hg D_Ga_K0.out)
  have Sa_20 := Lib.hid (OwnL.apart hg _ Sa_19.out D_Ga_Sa.out)
  have Sb_20 := Lib.hid (OwnL.apart hg _ Sb_19.out D_Ga_Sb.out)
  have SBa_20 := Lib.hid (SBa_19.out.inn hg D_Ga_SBa.out)
  have SBb_20 := Lib.hid (SBb_19.out.inn hg D_Ga_SBb.out)
  have Ga_20 := Lib.hid (ho)
  have Gb_20 := Lib.hid (OwnL.apart hg _ Gb_19.out D_Ga_Gb.out)
  have GBa_20 := Lib.hid (GBa_19.out.inn hg D_Ga_GBa.out)
  have GBb_20 := Lib.hid (GBb_19.out.inn hg D_Ga_GBb.out)
  clear B_19
  clear K0_19
  clear Sa_19
  clear Sb_19
  clear SBa_19
  clear SBb_19
  clear Ga_19
  clear Gb_19
  clear GBa_19
  clear GBb_19
  clear ho hg
  have hdd : ∀ g ∈ blL [.sl 59 5 yGa.length gGa capGa (laysC (mkLays 1 yGa))], g ∉ blL [.sl 59 5 yGb.length gGb capGb (laysC yGb)] := by intro g h1 h2; exact D_Gb_Ga.out g (by simpa only [blL, Cl.bl, bl_mkLays] using h1) h2
  clear D_Gb_Ga
  have D_Gb_Ga := Lib.hid hdd
  clear hdd
  obtain ⟨pK00, pK0l⟩ := tb1 K0_20.out
  obtain ⟨pSBa0, pSBal⟩ := tb1 SBa_20.out
  obtain ⟨pSBb0, pSBbl⟩ := tb1 SBb_20.out
  obtain ⟨pGBa0, pGBal⟩ := tb1 GBa_20.out
  obtain ⟨pGBb0, pGBbl⟩ := tb1 GBb_20.out
  go_wp2_with fail
  clear pK00 pK0l pSBa0 pSBal pSBb0 pSBbl pGBa0 pGBal pGBb0 pGBbl
  refine (c_markMod _ _ _ p q _ yGb _ rfl Gb_20.out NDGb.out HQ.out hq' LG.out.2.2.2).mono ?_
  rintro e w21 ⟨rfl, ho, hg⟩
  have B_21 := Lib.hid (hg.below' B_20.out (fun g h => (OwnL.lt _ Gb_20.out g h).1))
  have K0_21 := Lib.hid (K0_20.out.inn hg D_Gb_K0.out)
  have Sa_21 := Lib.hid (OwnL.apart hg _ Sa_20.out D_Gb_Sa.out)
  have Sb_21 := Lib.hid (OwnL.apart hg _ Sb_20.out D_Gb_Sb.out)
  have SBa_21 := Lib.hid (SBa_20.out.inn hg D_Gb_SBa.out)
  have SBb_21 := Lib.hid (SBb_20.out.inn hg D_Gb_SBb.out)
  have Ga_21 := Lib.hid (OwnL.apart hg _ Ga_20.out D_Gb_Ga.out)
  have Gb_21 := Lib.hid (ho)
  have GBa_21 := Lib.hid (GBa_20.out.inn hg D_Gb_GBa.out)
  have GBb_21 := Lib.hid (GBb_20.out.inn hg D_Gb_GBb.out)
  clear B_20
  clear K0_20
  clear Sa_20
  clear Sb_20
  clear SBa_20
  clear SBb_20
  clear Ga_20
  clear Gb_20
  clear GBa_20
  clear GBb_20
  clear ho hg
  obtain ⟨pK00, pK0l⟩ := tb1 K0_21.out
  obtain ⟨pSBa0, pSBal⟩ := tb1 SBa_21.out
  obtain ⟨pSBb0, pSBbl⟩ := tb1 SBb_21.out
  obtain ⟨pGBa0, pGBal⟩ := tb1 GBa_21.out
  obtain ⟨pGBb0, pGBbl⟩ := tb1 GBb_21.out
  go_wp2_with fail
  clear pK00 pK0l pSBa0 pSBal pSBb0 pSBbl pGBa0 pGBal pGBb0 pGBbl
  refine (c_heldMod _ _ _ 1 p yGa _ rfl (held_mod rfl Ga_21.out) HP_.out hp' LG.out.2.2.1).mono ?_
  rintro e w22 ⟨rfl, bl⟩
  have B_22 := Lib.hid (Below.next B_21.out bl)
  clear B_21
  have K0_22 := Lib.hid (K0_21.out.below bl)
  clear K0_21
  have Sa_22 := Lib.hid (OwnL.kept Sa_21.out bl)
  clear Sa_21
  have Sb_22 := Lib.hid (OwnL.kept Sb_21.out bl)
  clear Sb_21
  have SBa_22 := Lib.hid (SBa_21.out.below bl)
  clear SBa_21
  have SBb_22 := Lib.hid (SBb_21.out.below bl)
  clear SBb_21
  have Ga_22 := Lib.hid (OwnL.kept Ga_21.out bl)
  clear Ga_21
  have Gb_22 := Lib.hid (OwnL.kept Gb_21.out bl)
  clear Gb_21
  have GBa_22 := Lib.hid (GBa_21.out.below bl)
  clear GBa_21
  have GBb_22 := Lib.hid (GBb_21.out.below bl)
  clear GBb_21
  clear bl
  obtain ⟨pK00, pK0l⟩ := tb1 K0_22.out
  obtain ⟨pSBa0, pSBal⟩ := tb1 SBa_22.out
  obtain ⟨pSBb0, pSBbl⟩ := tb1 SBb_22.out
  obtain ⟨pGBa0, pGBal⟩ := tb1 GBa_22.out
  obtain ⟨pGBb0, pGBbl⟩ := tb1 GBb_22.out
  go_wp2_with fail
  clear pK00 pK0l pSBa0 pSBal pSBb0 pSBbl pGBa0 pGBal pGBb0 pGBbl
  refine (c_heldMod _ _ _ p q yGb _ rfl (held_mod rfl Gb_22.out) HQ.out hq' LG.out.2.2.2).mono ?_
  rintro e w23 ⟨rfl, bl⟩
  have B_23 := Lib.hid (Below.next B_22.out bl)
  clear B_22
  have K0_23 := Lib.hid (K0_22.out.below bl)
  clear K0_22
  have Sa_23 := Lib.hid (OwnL.kept Sa_22.out bl)
  clear Sa_22
  have Sb_23 := Lib.hid (OwnL.kept Sb_22.out bl)
  clear Sb_22
  have SBa_23 := Lib.hid (SBa_22.out.below bl)
  clear SBa_22
  have SBb_23 := Lib.hid (SBb_22.out.below bl)
  clear SBb_22
  have Ga_23 := Lib.hid (OwnL.kept Ga_22.out bl)
  clear Ga_22
  have Gb_23 := Lib.hid (OwnL.kept Gb_22.out bl)
  clear Gb_22
  have GBa_23 := Lib.hid (GBa_22.out.below bl)
  clear GBa_22
  have GBb_23 := Lib.hid (GBb_22.out.below bl)
  clear GBb_22
  clear bl
  obtain ⟨pK00, pK0l⟩ := tb1 K0_23.out
  obtain ⟨pSBa0, pSBal⟩ := tb1 SBa_23.out
  obtain ⟨pSBb0, pSBbl⟩ := tb1 SBb_23.out
  obtain ⟨pGBa0, pGBal⟩ := tb1 GBa_23.out
  obtain ⟨pGBb0, pGBbl⟩ := tb1 GBb_23.out
  go_wp2_with fail
  clear pK00 pK0l pSBa0 pSBal pSBb0 pSBbl pGBa0 pGBal pGBb0 pGBbl
  refine (c_toMod _ _ _ ls0 _ (HS0.out.kept B_23.out) HZ0.out).mono ?_
  rintro e w24 ⟨gU0, yU0, rfl, hl, hp, ho, hnd, bl⟩
  have HPU0 := Lib.hid hp
  have HLU0 := Lib.hid hl
  have U0_24 := Lib.hid (OwnL.base B_23.out.size _ ho)
  have B_24 := Lib.hid (Below.next B_23.out bl)
  clear B_23
  have K0_24 := Lib.hid (K0_23.out.below bl)
  clear K0_23
  have Sa_24 := Lib.hid (OwnL.kept Sa_23.out bl)
  clear Sa_23
  have Sb_24 := Lib.hid (OwnL.kept Sb_23.out bl)
  clear Sb_23
  have SBa_24 := Lib.hid (SBa_23.out.below bl)
  clear SBa_23
  have SBb_24 := Lib.hid (SBb_23.out.below bl)
  clear SBb_23
  have Ga_24 := Lib.hid (OwnL.kept Ga_23.out bl)
  clear Ga_23
  have Gb_24 := Lib.hid (OwnL.kept Gb_23.out bl)
  clear Gb_23
  have GBa_24 := Lib.hid (GBa_23.out.below bl)
  clear GBa_23
  have GBb_24 := Lib.hid (GBb_23.out.below bl)
  clear GBb_23
  clear hl hp ho hnd
  clear bl
  obtain ⟨pK00, pK0l⟩ := tb1 K0_24.out
  obtain ⟨pSBa0, pSBal⟩ := tb1 SBa_24.out
  obtain ⟨pSBb0, pSBbl⟩ := tb1 SBb_24.out
  obtain ⟨pGBa0, pGBal⟩ := tb1 GBa_24.out
  obtain ⟨pGBb0, pGBbl⟩ := tb1 GBb_24.out
  go_wp2_with fail
  clear pK00 pK0l pSBa0 pSBal pSBb0 pSBbl pGBa0 pGBal pGBb0 pGBbl
  refine (CI.out _ _ yU0 _ HPU0.out (laysAt_own HLU0.out U0_24.out)).mono ?_
  rintro e w25 ⟨gHa, capHa, yHa, gHb, capHb, yHb, rfl, hoo, hnd, hy, hy', bl⟩
  have HYHa := Lib.hid hy
  have HYHb := Lib.hid hy'
  have hoa := hoo.1
  have hob := hoo.2
  have Ha_25 := Lib.hid (OwnL.base B_24.out.size _ hoa)
  have Hb_25 := Lib.hid (OwnL.base B_24.out.size _ hob)
  have B_25 := Lib.hid (Below.next B_24.out bl)
  clear B_24
  have K0_25 := Lib.hid (K0_24.out.below bl)
  clear K0_24
  have Sa_25 := Lib.hid (OwnL.kept Sa_24.out bl)
  clear Sa_24
  have Sb_25 := Lib.hid (OwnL.kept Sb_24.out bl)
  clear Sb_24
  have SBa_25 := Lib.hid (SBa_24.out.below bl)
  clear SBa_24
  have SBb_25 := Lib.hid (SBb_24.out.below bl)
  clear SBb_24
  have Ga_25 := Lib.hid (OwnL.kept Ga_24.out bl)
  clear Ga_24
  have Gb_25 := Lib.hid (OwnL.kept Gb_24.out bl)
  clear Gb_24
  have GBa_25 := Lib.hid (GBa_24.out.below bl)
  clear GBa_24
  have GBb_25 := Lib.hid (GBb_24.out.below bl)
  clear GBb_24
  have U0_25 := Lib.hid (OwnL.kept U0_24.out bl)
  clear U0_24
  clear hoo hoa hob hnd hy hy'
  clear bl
  clear U0_25
  obtain ⟨pK00, pK0l⟩ := tb1 K0_25.out
  obtain ⟨pSBa0, pSBal⟩ := tb1 SBa_25.out
  obtain ⟨pSBb0, pSBbl⟩ := tb1 SBb_25.out
  obtain ⟨pGBa0, pGBal⟩ := tb1 GBa_25.out
  obtain ⟨pGBb0, pGBbl⟩ := tb1 GBb_25.out
  go_wp2_with fail
  clear pK00 pK0l pSBa0 pSBal pSBb0 pSBbl pGBa0 pGBal pGBb0 pGBbl
  have D_Ga_HBa := Lib.hid (apart_next Ga_25.out)
  have D_Gb_HBa := Lib.hid (apart_next Gb_25.out)
  have bl := (Below.refl w25.heap.size w25).alloc (Nat.le_refl _) (.cells #[.slice gHa yHa.length capHa] 41)
  have HBa_26 := Lib.hid (Blk.new w25 41 #[.slice gHa yHa.length capHa])
  have B_26 := Lib.hid (Below.next B_25.out bl)
  clear B_25
  have K0_26 := Lib.hid (K0_25.out.below bl)
  clear K0_25
  have Sa_26 := Lib.hid (OwnL.kept Sa_25.out bl)
  clear Sa_25
  have Sb_26 := Lib.hid (OwnL.kept Sb_25.out bl)
  clear Sb_25
  have SBa_26 := Lib.hid (SBa_25.out.below bl)
  clear SBa_25
  have SBb_26 := Lib.hid (SBb_25.out.below bl)
  clear SBb_25
  have Ga_26 := Lib.hid (OwnL.kept Ga_25.out bl)
  clear Ga_25
  have Gb_26 := Lib.hid (OwnL.kept Gb_25.out bl)
  clear Gb_25
  have GBa_26 := Lib.hid (GBa_25.out.below bl)
  clear GBa_25
  have GBb_26 := Lib.hid (GBb_25.out.below bl)
  clear GBb_25
  have Ha_26 := Lib.hid (OwnL.kept Ha_25.out bl)
  clear Ha_25
  have Hb_26 := Lib.hid (OwnL.kept Hb_25.out bl)
  clear Hb_25
  clear bl
  have D_Ga_HBb := Lib.hid (apart_next Ga_26.out)
  have D_Gb_HBb := Lib.hid (apart_next Gb_26.out)
  have bl := (Below.refl (w25.alloc (.cells #[.slice gHa yHa.length capHa] 41)).heap.size (w25.alloc (.cells #[.slice gHa yHa.length capHa] 41))).alloc (Nat.le_refl _) (.cells #[.slice gHb yHb.length capHb] 41)
  have HBb_27 := Lib.hid (Blk.new (w25.alloc (.cells #[.slice gHa yHa.length capHa] 41)) 41 #[.slice gHb yHb.length capHb])
  have B_27 := Lib.hid (Below.next B_26.out bl)
  clear B_26
  have K0_27 := Lib.hid (K0_26.out.below bl)
  clear K0_26
  have Sa_27 := Lib.hid (OwnL.kept Sa_26.out bl)
  clear Sa_26
  have Sb_27 := Lib.hid (OwnL.kept Sb_26.out bl)
  clear Sb_26
  have SBa_27 := Lib.hid (SBa_26.out.below bl)
  clear SBa_26
  have SBb_27 := Lib.hid (SBb_26.out.below bl)
  clear SBb_26
  have Ga_27 := Lib.hid (OwnL.kept Ga_26.out bl)
  clear Ga_26
  have Gb_27 := Lib.hid (OwnL.kept Gb_26.out bl)
  clear Gb_26
  have GBa_27 := Lib.hid (GBa_26.out.below bl)
  clear GBa_26
  have GBb_27 := Lib.hid (GBb_26.out.below bl)
  clear GBb_26
  have Ha_27 := Lib.hid (OwnL.kept Ha_26.out bl)
  clear Ha_26
  have Hb_27 := Lib.hid (OwnL.kept Hb_26.out bl)
  clear Hb_26
  have HBa_27 := Lib.hid (HBa_26.out.below bl)
  clear HBa_26
  clear bl
  simp only [World.size_alloc] at HBb_27 D_Ga_HBb D_Gb_HBb
  generalize (w25.alloc (.cells #[.slice gHa yHa.length capHa] 41)).alloc (.cells #[.slice gHb yHb.length capHb] 41) = w27 at B_27 K0_27 Sa_27 Sb_27 SBa_27 SBb_27 Ga_27 Gb_27 GBa_27 GBb_27 Ha_27 Hb_27 HBa_27 HBb_27 ⊢
  obtain ⟨pK00, pK0l⟩ := tb1 K0_27.out
  obtain ⟨pSBa0, pSBal⟩ := tb1 SBa_27.out
  obtain ⟨pSBb0, pSBbl⟩ := tb1 SBb_27.out
  obtain ⟨pGBa0, pGBal⟩ := tb1 GBa_27.out
  obtain ⟨pGBb0, pGBbl⟩ := tb1 GBb_27.out
  obtain ⟨pHBa0, pHBal⟩ := tb1 HBa_27.out
  obtain ⟨pHBb0, pHBbl⟩ := tb1 HBb_27.out
  try go_wp2_with fail
  clear pK00 pK0l pSBa0 pSBal pSBb0 pSBbl pGBa0 pGBal pGBb0 pGBbl pHBa0 pHBal pHBb0 pHBbl
  refine (c_eqMod' _ _ _ _ yHa ySa _ (laysAt_own rfl Ha_27.out) (laysAt_own rfl Sa_27.out) (HYHa.out.trans HYSa.out.symm)).mono ?_
  rintro e w28 ⟨rfl, bl⟩
  have B_28 := Lib.hid (Below.next B_27.out bl)
  clear B_27
  have K0_28 := Lib.hid (K0_27.out.below bl)
  clear K0_27
  have Sa_28 := Lib.hid (OwnL.kept Sa_27.out bl)
  clear Sa_27
  have Sb_28 := Lib.hid (OwnL.kept Sb_27.out bl)
  clear Sb_27
  have SBa_28 := Lib.hid (SBa_27.out.below bl)
  clear SBa_27
  have SBb_28 := Lib.hid (SBb_27.out.below bl)
  clear SBb_27
  have Ga_28 := Lib.hid (OwnL.kept Ga_27.out bl)
  clear Ga_27
  have Gb_28 := Lib.hid (OwnL.kept Gb_27.out bl)
  clear Gb_27
  have GBa_28 := Lib.hid (GBa_27.out.below bl)
  clear GBa_27
  have GBb_28 := Lib.hid (GBb_27.out.below bl)
  clear GBb_27
  have Ha_28 := Lib.hid (OwnL.kept Ha_27.out bl)
  clear Ha_27
  have Hb_28 := Lib.hid (OwnL.kept Hb_27.out bl)
  clear Hb_27
  have HBa_28 := Lib.hid (HBa_27.out.below bl)
  clear HBa_27
  have HBb_28 := Lib.hid (HBb_27.out.below bl)
  clear HBb_27
  clear bl
  obtain ⟨pK00, pK0l⟩ := tb1 K0_28.out
  obtain ⟨pSBa0, pSBal⟩ := tb1 SBa_28.out
  obtain ⟨pSBb0, pSBbl⟩ := tb1 SBb_28.out
  obtain ⟨pGBa0, pGBal⟩ := tb1 GBa_28.out
  obtain ⟨pGBb0, pGBbl⟩ := tb1 GBb_28.out
  obtain ⟨pHBa0, pHBal⟩ := tb1 HBa_28.out
  obtain ⟨pHBb0, pHBbl⟩ := tb1 HBb_28.out
  go_wp2_with fail
  clear pK00 pK0l pSBa0 pSBal pSBb0 pSBbl pGBa0 pGBal pGBb0 pGBbl pHBa0 pHBal pHBb0 pHBbl
  refine (c_eqMod' _ _ _ _ yHb ySb _ (laysAt_own rfl Hb_28.out) (laysAt_own rfl Sb_28.out) (HYHb.out.trans HYSb.out.symm)).mono ?_
  rintro e w29 ⟨rfl, bl⟩
  have B_29 := Lib.hid (Below.next B_28.out bl)
  clear B_28
  have K0_29 := Lib.hid (K0_28.out.below bl)
  clear K0_28
  have Sa_29 := Lib.hid (OwnL.kept Sa_28.out bl)
  clear Sa_28
  have Sb_29 := Lib.hid (OwnL.kept Sb_28.out bl)
  clear Sb_28
  have SBa_29 := Lib.hid (SBa_28.out.below bl)
  clear SBa_28
  have SBb_29 := Lib.hid (SBb_28.out.below bl)
  clear SBb_28
  have Ga_29 := Lib.hid (OwnL.kept Ga_28.out bl)
  clear Ga_28
  have Gb_29 := Lib.hid (OwnL.kept Gb_28.out bl)
  clear Gb_28
  have GBa_29 := Lib.hid (GBa_28.out.below bl)
  clear GBa_28
  have GBb_29 := Lib.hid (GBb_28.out.below bl)
  clear GBb_28
  have Ha_29 := Lib.hid (OwnL.kept Ha_28.out bl)
  clear Ha_28
  have Hb_29 := Lib.hid (OwnL.kept Hb_28.out bl)
  clear Hb_28
  have HBa_29 := Lib.hid (HBa_28.out.below bl)
  clear HBa_28
  have HBb_29 := Lib.hid (HBb_28.out.below bl)
  clear HBb_28
  clear bl
  obtain ⟨pK00, pK0l⟩ := tb1 K0_29.out
  obtain ⟨pSBa0, pSBal⟩ := tb1 SBa_29.out
  obtain ⟨pSBb0, pSBbl⟩ := tb1 SBb_29.out
  obtain ⟨pGBa0, pGBal⟩ := tb1 GBa_29.out
  obtain ⟨pGBb0, pGBbl⟩ := tb1 GBb_29.out
  obtain ⟨pHBa0, pHBal⟩ := tb1 HBa_29.out
  obtain ⟨pHBb0, pHBbl⟩ := tb1 HBb_29.out
  go_wp2_with fail
  clear pK00 pK0l pSBa0 pSBal pSBb0 pSBbl pGBa0 pGBal pGBb0 pGBbl pHBa0 pHBal pHBb0 pHBbl
  refine (c_heldMod _ _ _ 1 p yGa _ rfl (held_mod rfl Ga_29.out) HP_.out hp' LG.out.2.2.1).mono ?_
  rintro e w30 ⟨rfl, bl⟩
  have B_30 := Lib.hid (Below.next B_29.out bl)
  clear B_29
  have K0_30 := Lib.hid (K0_29.out.below bl)
  clear K0_29
  have Sa_30 := Lib.hid (OwnL.kept Sa_29.out bl)
  clear Sa_29
  have Sb_30 := Lib.hid (OwnL.kept Sb_29.out bl)
  clear Sb_29
  have SBa_30 := Lib.hid (SBa_29.out.below bl)
  clear SBa_29
  have SBb_30 := Lib.hid (SBb_29.out.below bl)
  clear SBb_29
  have Ga_30 := Lib.hid (OwnL.kept Ga_29.out bl)
  clear Ga_29
  have Gb_30 := Lib.hid (OwnL.kept Gb_29.out bl)
  clear Gb_29
  have GBa_30 := Lib.hid (GBa_29.out.below bl)
  clear GBa_29
  have GBb_30 := Lib.hid (GBb_29.out.below bl)
  clear GBb_29
  have Ha_30 := Lib.hid (OwnL.kept Ha_29.out bl)
  clear Ha_29
  have Hb_30 := Lib.hid (OwnL.kept Hb_29.out bl)
  clear Hb_29
  have HBa_30 := Lib.hid (HBa_29.out.below bl)
  clear HBa_29
  have HBb_30 := Lib.hid (HBb_29.out.below bl)
  clear HBb_29
  clear bl
  obtain ⟨pK00, pK0l⟩ := tb1 K0_30.out
  obtain ⟨pSBa0, pSBal⟩ := tb1 SBa_30.out
  obtain ⟨pSBb0, pSBbl⟩ := tb1 SBb_30.out
  obtain ⟨pGBa0, pGBal⟩ := tb1 GBa_30.out
  obtain ⟨pGBb0, pGBbl⟩ := tb1 GBb_30.out
  obtain ⟨pHBa0, pHBal⟩ := tb1 HBa_30.out
  obtain ⟨pHBb0, pHBbl⟩ := tb1 HBb_30.out
  go_wp2_with fail
  clear pK00 pK0l pSBa0 pSBal pSBb0 pSBbl pGBa0 pGBal pGBb0 pGBbl pHBa0 pHBal pHBb0 pHBbl
  refine (c_heldMod _ _ _ p q yGb _ rfl (held_mod rfl Gb_30.out) HQ.out hq' LG.out.2.2.2).mono ?_
  rintro e w31 ⟨rfl, bl⟩
  have B_31 := Lib.hid (Below.next B_30.out bl)
  clear B_30
  have K0_31 := Lib.hid (K0_30.out.below bl)
  clear K0_30
  have Sa_31 := Lib.hid (OwnL.kept Sa_30.out bl)
  clear Sa_30
  have Sb_31 := Lib.hid (OwnL.kept Sb_30.out bl)
  clear Sb_30
  have SBa_31 := Lib.hid (SBa_30.out.below bl)
  clear SBa_30
  have SBb_31 := Lib.hid (SBb_30.out.below bl)
  clear SBb_30
  have Ga_31 := Lib.hid (OwnL.kept Ga_30.out bl)
  clear Ga_30
  have Gb_31 := Lib.hid (OwnL.kept Gb_30.out bl)
  clear Gb_30
  have GBa_31 := Lib.hid (GBa_30.out.below bl)
  clear GBa_30
  have GBb_31 := Lib.hid (GBb_30.out.below bl)
  clear GBb_30
  have Ha_31 := Lib.hid (OwnL.kept Ha_30.out bl)
  clear Ha_30
  have Hb_31 := Lib.hid (OwnL.kept Hb_30.out bl)
  clear Hb_30
  have HBa_31 := Lib.hid (HBa_30.out.below bl)
  clear HBa_30
  have HBb_31 := Lib.hid (HBb_30.out.below bl)
  clear HBb_30
  clear bl
  obtain ⟨pK00, pK0l⟩ := tb1 K0_31.out
  obtain ⟨pSBa0, pSBal⟩ := tb1 SBa_31.out
  obtain ⟨pSBb0, pSBbl⟩ := tb1 SBb_31.out
  obtain ⟨pGBa0, pGBal⟩ := tb1 GBa_31.out
  obtain ⟨pGBb0, pGBbl⟩ := tb1 GBb_31.out
  obtain ⟨pHBa0, pHBal⟩ := tb1 HBa_31.out
  obtain ⟨pHBb0, pHBbl⟩ := tb1 HBb_31.out
  go_wp2_with fail
  clear pK00 pK0l pSBa0 pSBal pSBb0 pSBbl pGBa0 pGBal pGBb0 pGBbl pHBa0 pHBal pHBb0 pHBbl
  go_ret
  exact ⟨rfl, B_31.out⟩

theorem walk (v0 : Value) (a1 : Int) (w : World) (w0 : ∃ x : ModA, v0 = .agg #[.slice x.g x.ls.length x.c] ∧ LaysAt w x.g x.ls.length x.c x.ls) (w1 : (Lit.int .i64 a1).wf = true) :
    Calls Try.prog 10 #[v0, .int .i64 a1] w fun e w' => e = .returned (.bool true) ∧ Below w.heap.size w w' := by
  obtain ⟨⟨g0, c0, ls0⟩, rfl, w0⟩ := w0
  obtain ⟨v1, rfl⟩ : ∃ v, v = a1 := ⟨_, rfl⟩
  by_cases hL0 : (ls0.length + laySum (ls0.map LayA.p)) ≤ 1048576
  case neg =>
    have HN := Lib.hid (show 1048576 < ls0.length + laySum (ls0.map LayA.p) by omega)
    have HS := Lib.hid w0
    have bl := Lib.hid ((Below.refl w.heap.size w).alloc (by simp) (.cells #[.slice g0 ls0.length c0] 35))
    clear hL0 w0
    go_enter Try.func10, Try.ntmps10
    go_wp2_with fail
    refine (c_szMod_no _ _ _ 1048576 ls0 _ (HS.out.kept bl.out) (Nat.le_refl _) HN.out).mono ?_
    rintro e w1 ⟨rfl, hb⟩
    have HB := Lib.hid (Below.next bl.out hb)
    clear hb bl
    go_wp2
    go_ret
    exact ⟨rfl, HB.out⟩
  case pos =>
    exact core ls0 v1 g0 c0  w w0 (vSplitModel (ls0.map LayA.p) v1).1 (vSplitModel (ls0.map LayA.p) v1).2.1 (vSplitModel (ls0.map LayA.p) v1).2.2 hL0 (vSplitModel_len (ls0.map LayA.p) v1) (fun g0_ c0_ y0_  w hp0 h0  => t_sSplitModel (ls0.map LayA.p) ls0.length g0_ c0_ y0_ v1 w hp0 h0 ) (fun g0_ c0_ y0_  w hp0 h0  => t_iSplitModel (ls0.map LayA.p) ls0.length g0_ c0_ y0_ v1 w hp0 h0 )

/-! the row's step -/
set_option maxRecDepth 100000 in
theorem lifted (os : Os) (started : os.Started) (H : Type) (enc : TypeId × Value → H) :
    ReturnsInHanded {} Try.checked os 10 .any (Rows.fnExactSplitModelSpec.pre6 enc Try.prog Try.f10 Rows.fnExactSplitModelRow.domain false) (Rows.fnExactSplitModelSpec.post enc Try.prog Try.f10 false true false false) := by
  refine returnsInHanded_of_change (C := Try.checked) own started (by kernel_rfl) Try.func10
    (ChangeSpec.witness6 (enc := enc) (C := Try.checked) false ⟨#[], #[.agg #[.slice none 0 0], .int .i64 0], []⟩ 8 (by kernel_rfl) (by kernel_rfl) (by kernel_rfl) (by kernel_rfl)) ?_
  intro W base args ds gs before hval0 hW hcnd _
  have hval : ∀ (j : Nat) t v, Try.f10.params[j]? = some t → args[j]? = some v → Value.okWide Try.prog W .any base t v := hval0
  have hW' := hW
  obtain ⟨p, q, hA0, hV, rfl, hfz, hnd⟩ := hW
  have hA : DataW.TrodAll enc Try.prog W 0 (fun _ => true) true Try.f10.params.toList args.toList ds p := hA0
  rw [Try.params10] at hA hval
  obtain ⟨v0, vs0, d0, ds0, p0, q0, hargs, rfl, rfl, h0, rest0⟩ := trodAll_cons hA
  obtain ⟨v1, vs1, d1, ds1, p1, q1, rfl, rfl, rfl, h1, rest1⟩ := trodAll_cons rest0
  obtain ⟨rfl, rfl, rfl⟩ := trodAll_nil rest1
  obtain rfl : args = #[v0, v1] := by cases args; simp_all
  obtain ⟨rfl, rfl⟩ := trodVars_none hV
  have k0 := h0
  have lt0 : ∀ x ∈ p0, x.block < W.heap.size := by obtain ⟨m, hm⟩ := k0; exact DataW.trod_lt m _ _ _ hm
  have w0 := open_Mod (hval 0 35 v0 rfl rfl) h0
  obtain ⟨a1, rfl, rfl, rfl, w1⟩ := open_int Try.underlying2 (hval 1 2 v1 rfl rfl) h1
  clear hA0 hval0
  refine (walk _ a1 W w0 w1).mono fun e W' ⟨he, bel⟩ => ?_
  subst he
  exact ⟨_, rfl, _, _, _, [], _, [], hW', trodAll_mk1 (shut_bool Try.underlying4 _), (trodAll_cons_mk (Below.trod laidOut (by kernel_rfl) (of_decide_eq_true (by kernel_rfl)) k0 bel lt0) (trodAll_cons_mk (shut_int Try.underlying2 w1) trodAll_mk0)), rfl, bel.frame _, fun h => by cases h⟩

theorem over : Rows.fnExactSplitModelRow.holds Try.pinned (OpenSpec.ofChange Rows.fnExactSplitModelSpec) :=
  OpenClaim.holds_of_wide 10 Try.f10 rfl rfl rfl rfl rfl rfl rfl ⟨rfl, rfl, rfl, rfl, rfl⟩ rfl rfl rfl rfl rfl (by kernel_rfl) Try.func10 (by kernel_rfl)
    (of_decide_eq_true (by kernel_rfl)) (by unfold Func.isWrapper; first | (rw [if_pos (by decide +kernel)]; kernel_rfl) | (rw [if_neg (by decide +kernel)]; exact ⟨rfl, rfl⟩))
    (fun os started H enc _ => lifted os started H enc)

/-- the statement -/
theorem proved : Rows.FnExactSplitModelSaid := over
end Go.Proofs.Ytkpcjjnaocdelaa.fnExactSplitModel
