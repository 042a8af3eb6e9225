/-
  PickRows returns for all examples and rows what its model returns, in memory of its own, and changes none of them. Conditions: none.
-/
import Derived.Test.YthklfkfhhdglcaaPki
import Derived.Test.YthklfkfhhdglcaaMkE
import Derived.Test.YthklfkfhhdglcaaToI
import Derived.ChangeOld
import Derived.Below
namespace Go.Proofs.Ythklfkfhhdglcaa.fnExactPickRows
open Go.ChangeShapes Go.WideShapes Go.ChangeAt Go.RowKit
open Go.ChangeMaps (open_string shut_string)
set_option linter.unusedVariables false

set_option maxRecDepth 20000 in
set_option maxHeartbeats 4000000 in
theorem walk (v0 : Value) (a1 : Option Addr) (len1 cap1 : Nat) (z1 : List Int) (w : World) (w0 : ∃ q : ExaA, v0 = .agg #[.int .i64 q.r, .int .i64 q.c, .slice q.a q.x.length q.ca, .int .i64 q.r', .int .i64 q.c', .slice q.b q.y.length q.cb] ∧ IsFloats .f32 w q.a q.x.length q.ca q.x ∧ IsFloats .f32 w q.b q.y.length q.cb q.y) (w1 : IsRow .i64 w a1 len1 cap1 z1) :
    Calls Try.prog 9 #[v0, .slice a1 len1 cap1] w fun e w' => e = .returned (.bool true) ∧ Below w.heap.size w w' := by
  obtain ⟨⟨r, c, r', c', x, y, a, b, ca, cb⟩, rfl, hx, hy⟩ := w0
  simp only at hx hy ⊢
  have hn : x.length ≤ 9223372036854775807 := by have h1 := hx.1; have h2 := hx.2.1; unfold maxLen at h2; omega
  have hm : y.length ≤ 9223372036854775807 := by have h1 := hy.1; have h2 := hy.2.1; unfold maxLen at h2; omega
  have hz := w1.2.2.1
  subst hz
  have hrm : z1.length ≤ 9223372036854775807 := by have h1 := w1.1; have h2 := w1.2.1; unfold maxLen at h2; omega
  have HX := Lib.hid hx
  have HY := Lib.hid hy
  have HZ := Lib.hid w1
  have K0_0 := Lib.hid (Blk.new w 46 #[.int .i64 r, .int .i64 c, .slice a x.length ca, .int .i64 r', .int .i64 c', .slice b y.length cb])
  have B_0 := Lib.hid ((Below.refl w.heap.size w).alloc (Nat.le_refl _) (.cells #[.int .i64 r, .int .i64 c, .slice a x.length ca, .int .i64 r', .int .i64 c', .slice b y.length cb] 46))
  clear hx hy w1
  by_cases hR : z1.length ≤ 1048576
  case neg =>
    have hR' : (1048577 : Int) ≤ (z1.length : Int) := by omega
    obtain ⟨L, hL⟩ : ∃ L, z1.length = L := ⟨_, rfl⟩
    rw [hL] at hR' hrm ⊢
    clear hR hL
    go_enter Try.func9, Try.ntmps9
    go_wp2_with fail
    go_ret
    exact ⟨rfl, B_0.out⟩
  case pos =>
  by_cases hL : x.length + y.length ≤ 1048576
  case neg =>
    have HL := Lib.hid (show 1048576 < x.length + y.length by omega)
    clear hL
    go_enter Try.func9, Try.ntmps9
    go_wp2_with fail
    generalize w.alloc (.cells #[.int .i64 r, .int .i64 c, .slice a x.length ca, .int .i64 r', .int .i64 c', .slice b y.length cb] 46) = w1 at K0_0 B_0 ⊢
    refine (c_szExa_no r c r' c' a b _ _ ca cb 1048576 _ (Nat.le_refl _) HL.out hn hm).mono ?_
    rintro e w2 ⟨rfl, hb⟩
    have B2 := Lib.hid (Below.next B_0.out hb)
    clear hb
    go_wp2_with fail
    go_ret
    exact ⟨rfl, B2.out⟩
  case pos =>
    obtain ⟨l, hl⟩ : ∃ l, 1048576 - (x.length + y.length) = l := ⟨_, rfl⟩
    have HL := Lib.hid hL
    have HE := Lib.hid hl
    have hl0 : (0 : Int) ≤ (l : Int) := by omega
    have HTO := Lib.hid (fun w1 (hb : Below w.heap.size w w1) => c_toExa r c r' c' a b ca cb x y w1 (HX.out.kept hb) (HY.out.kept hb) (by omega) (by omega))
    have HTI := Lib.hid (fun w1 (hb : Below w.heap.size w w1) => c_toInts a1 z1.length cap1 z1 w1 (rowKept HZ.out hb) hR)
    have HS := Lib.hid (fun a b ra w1 h1 h2 h3 => t_sPickRows r c r' c' x y z1 a b ra x.length y.length z1.length w1 h1 h2 h3)
    have HI := Lib.hid (fun a b ra w1 h1 h2 h3 => t_iPickRows r c r' c' x y z1 a b ra x.length y.length z1.length w1 h1 h2 h3)
    have HXL := Lib.hid (show x.length ≤ 1048576 by omega)
    have HYL := Lib.hid (show y.length ≤ 1048576 by omega)
    have HRL := Lib.hid hR
    have hvl := vPick_len r c r' c' x y z1
    obtain ⟨v, hv⟩ : ∃ v, vPick r c r' c' x y z1 = v := ⟨_, rfl⟩
    rw [hv] at HS HI hvl
    obtain ⟨ok, n, d, d', P, Q⟩ := v
    have HPL := Lib.hid (show P.length ≤ 256 from hvl.1)
    have HQL := Lib.hid (show Q.length ≤ 256 from hvl.2)
    rw [retPk_eq] at HS HI
    clear hL hl hv hvl hn hm
    obtain ⟨zl, hzl⟩ : ∃ l, z1.length = l := ⟨_, rfl⟩
    have HZL := Lib.hid hzl
    have hzl0 : zl ≤ 1048576 := by omega
    rw [hzl] at hR
    clear hR hrm
    rw [hzl] at HTI HS HI ⊢
    clear hzl
    go_enter Try.func9, Try.ntmps9
    go_wp2_with fail
    generalize w.alloc (.cells #[.int .i64 r, .int .i64 c, .slice a x.length ca, .int .i64 r', .int .i64 c', .slice b y.length cb] 46) = w1 at K0_0 B_0 ⊢
    refine (c_szExa r c r' c' a b _ _ ca cb 1048576 l _ (Nat.le_refl _) HL.out HE.out).mono ?_
    rintro e w2 ⟨rfl, bl⟩
    have K0_2 := Lib.hid (K0_0.out.below bl)
    clear K0_0
    have B_2 := Lib.hid (Below.next B_0.out bl)
    clear B_0
    clear bl
    obtain ⟨pK00, pK01, pK02, pK03, pK04, pK05, pK06⟩ := tb6 K0_2.out
    go_wp2_with fail
    clear pK00 pK01 pK02 pK03 pK04 pK05 pK06
    refine (HTO.out _ B_2.out).mono ?_
    rintro e w3 ⟨aS, bS, rfl, ha, hb', hab, bl⟩
    have K0_3 := Lib.hid (K0_2.out.below bl)
    clear K0_2
    have B_3 := Lib.hid (Below.next B_2.out bl)
    clear B_2
    have Sa_3 := Lib.hid (ha)
    have Sb_3 := Lib.hid (hb')
    clear bl
    clear ha hb' hab
    go_wp2_with fail
    refine (HTI.out _ B_3.out).mono ?_
    rintro e w4 ⟨cS, rfl, ha, bl⟩
    have K0_4 := Lib.hid (K0_3.out.below bl)
    clear K0_3
    have B_4 := Lib.hid (Below.next B_3.out bl)
    clear B_3
    have Sa_4 := Lib.hid (Sa_3.out.kept bl)
    clear Sa_3
    have Sb_4 := Lib.hid (Sb_3.out.kept bl)
    clear Sb_3
    have Si_4 := Lib.hid (ha)
    clear bl
    clear ha
    rw [HZL.out]
    go_wp2_with fail
    refine (HS.out _ _ _ _ Sa_4.out.isFloats Sb_4.out.isFloats (by have h := Si_4.out.isRow; rw [HZL.out] at h; exact h)).mono ?_
    rintro e w5 ⟨aW, cW, bW, dW, rfl, ha, hb', hab, bl⟩
    have K0_5 := Lib.hid (K0_4.out.below bl)
    clear K0_4
    have B_5 := Lib.hid (Below.next B_4.out bl)
    clear B_4
    have Sa_5 := Lib.hid (Sa_4.out.kept bl)
    clear Sa_4
    have Sb_5 := Lib.hid (Sb_4.out.kept bl)
    clear Sb_4
    have Si_5 := Lib.hid (Si_4.out.kept bl)
    clear Si_4
    have Wa_5 := Lib.hid (ha)
    have Wb_5 := Lib.hid (hb')
    clear bl
    clear ha hb' hab
    clear Sa_5
    clear Sb_5
    clear Si_5
    obtain ⟨pK00, pK01, pK02, pK03, pK04, pK05, pK06⟩ := tb6 K0_5.out
    go_wp2_with fail
    clear pK00 pK01 pK02 pK03 pK04 pK05 pK06
    have bl := (Below.refl w5.heap.size w5).alloc (Nat.le_refl _) (.cells #[.int .i64 n, .int .i64 d, .slice aW P.length cW, .int .i64 n, .int .i64 d', .slice bW Q.length dW] 51)
    have KW_6 := Lib.hid (Blk.new w5 51 #[.int .i64 n, .int .i64 d, .slice aW P.length cW, .int .i64 n, .int .i64 d', .slice bW Q.length dW])
    have K0_6 := Lib.hid (K0_5.out.below bl)
    clear K0_5
    have B_6 := Lib.hid (Below.next B_5.out bl)
    clear B_5
    have Wa_6 := Lib.hid (Wa_5.out.kept bl)
    clear Wa_5
    have Wb_6 := Lib.hid (Wb_5.out.kept bl)
    clear Wb_5
    clear bl
    generalize w5.alloc (.cells #[.int .i64 n, .int .i64 d, .slice aW P.length cW, .int .i64 n, .int .i64 d', .slice bW Q.length dW] 51) = w6 at K0_6 B_6 Wa_6 Wb_6 KW_6 ⊢
    refine (HTO.out _ B_6.out).mono ?_
    rintro e w7 ⟨aX, bX, rfl, ha, hb', hab, bl⟩
    have NWaXa := Lib.hid (lt_apart Wa_6.out.lt ha.lt)
    have NWbXa := Lib.hid (lt_apart Wb_6.out.lt ha.lt)
    have NWaXb := Lib.hid (lt_apart Wa_6.out.lt hb'.lt)
    have NWbXb := Lib.hid (lt_apart Wb_6.out.lt hb'.lt)
    have LX := Lib.hid B_6.out.size
    have K0_7 := Lib.hid (K0_6.out.below bl)
    clear K0_6
    have B_7 := Lib.hid (Below.next B_6.out bl)
    clear B_6
    have Wa_7 := Lib.hid (Wa_6.out.kept bl)
    clear Wa_6
    have Wb_7 := Lib.hid (Wb_6.out.kept bl)
    clear Wb_6
    have KW_7 := Lib.hid (KW_6.out.below bl)
    clear KW_6
    have Xa_7 := Lib.hid (ha)
    have Xb_7 := Lib.hid (hb')
    clear bl
    have NX := Lib.hid hab
    clear ha hb' hab
    go_wp2_with fail
    have bl := (Below.refl w7.heap.size w7).alloc (Nat.le_refl _) (.cells #[.int .i64 r, .int .i64 c, .slice aX x.length x.length, .int .i64 r', .int .i64 c', .slice bX y.length y.length] 51)
    have KX_8 := Lib.hid (Blk.new w7 51 #[.int .i64 r, .int .i64 c, .slice aX x.length x.length, .int .i64 r', .int .i64 c', .slice bX y.length y.length])
    have K0_8 := Lib.hid (K0_7.out.below bl)
    clear K0_7
    have B_8 := Lib.hid (Below.next B_7.out bl)
    clear B_7
    have Wa_8 := Lib.hid (Wa_7.out.kept bl)
    clear Wa_7
    have Wb_8 := Lib.hid (Wb_7.out.kept bl)
    clear Wb_7
    have KW_8 := Lib.hid (KW_7.out.below bl)
    clear KW_7
    have Xa_8 := Lib.hid (Xa_7.out.kept bl)
    clear Xa_7
    have Xb_8 := Lib.hid (Xb_7.out.kept bl)
    clear Xb_7
    clear bl
    generalize w7.alloc (.cells #[.int .i64 r, .int .i64 c, .slice aX x.length x.length, .int .i64 r', .int .i64 c', .slice bX y.length y.length] 51) = w8 at K0_8 B_8 Wa_8 Wb_8 KW_8 Xa_8 Xb_8 KX_8 ⊢
    refine (HTI.out _ B_8.out).mono ?_
    rintro e w9 ⟨cX, rfl, ha, bl⟩
    have NWaXi := Lib.hid (lt_apart Wa_8.out.lt ha.lt)
    have NWbXi := Lib.hid (lt_apart Wb_8.out.lt ha.lt)
    have NXaXi := Lib.hid (lt_apart Xa_8.out.lt ha.lt)
    have NXbXi := Lib.hid (lt_apart Xb_8.out.lt ha.lt)
    have LI := Lib.hid B_8.out.size
    have K0_9 := Lib.hid (K0_8.out.below bl)
    clear K0_8
    have B_9 := Lib.hid (Below.next B_8.out bl)
    clear B_8
    have Wa_9 := Lib.hid (Wa_8.out.kept bl)
    clear Wa_8
    have Wb_9 := Lib.hid (Wb_8.out.kept bl)
    clear Wb_8
    have KW_9 := Lib.hid (KW_8.out.below bl)
    clear KW_8
    have Xa_9 := Lib.hid (Xa_8.out.kept bl)
    clear Xa_8
    have Xb_9 := Lib.hid (Xb_8.out.kept bl)
    clear Xb_8
    have KX_9 := Lib.hid (KX_8.out.below bl)
    clear KX_8
    have Xi_9 := Lib.hid (ha)
    clear bl
    clear ha
    rw [HZL.out]
    obtain ⟨pKX0, pKX1, pKX2, pKX3, pKX4, pKX5, pKX6⟩ := tb6 KX_9.out
    go_wp2_with fail
    clear pKX0 pKX1 pKX2 pKX3 pKX4 pKX5 pKX6
    refine (HI.out _ _ _ _ Xa_9.out.isFloats Xb_9.out.isFloats (by have h := Xi_9.out.isRow; rw [HZL.out] at h; exact h)).mono ?_
    rintro e w10 ⟨aG, cG, bG, dG, rfl, ha, hb', hab, bl⟩
    have NWaGa := Lib.hid (lt_apart Wa_9.out.lt ha.lt)
    have NWbGa := Lib.hid (lt_apart Wb_9.out.lt ha.lt)
    have NXaGa := Lib.hid (lt_apart Xa_9.out.lt ha.lt)
    have NXbGa := Lib.hid (lt_apart Xb_9.out.lt ha.lt)
    have NXiGa := Lib.hid (lt_apart Xi_9.out.lt ha.lt)
    have NWaGb := Lib.hid (lt_apart Wa_9.out.lt hb'.lt)
    have NWbGb := Lib.hid (lt_apart Wb_9.out.lt hb'.lt)
    have NXaGb := Lib.hid (lt_apart Xa_9.out.lt hb'.lt)
    have NXbGb := Lib.hid (lt_apart Xb_9.out.lt hb'.lt)
    have NXiGb := Lib.hid (lt_apart Xi_9.out.lt hb'.lt)
    have LG := Lib.hid B_9.out.size
    have K0_10 := Lib.hid (K0_9.out.below bl)
    clear K0_9
    have B_10 := Lib.hid (Below.next B_9.out bl)
    clear B_9
    have Wa_10 := Lib.hid (Wa_9.out.kept bl)
    clear Wa_9
    have Wb_10 := Lib.hid (Wb_9.out.kept bl)
    clear Wb_9
    have KW_10 := Lib.hid (KW_9.out.below bl)
    clear KW_9
    have Xa_10 := Lib.hid (Xa_9.out.kept bl)
    clear Xa_9
    have Xb_10 := Lib.hid (Xb_9.out.kept bl)
    clear Xb_9
    have KX_10 := Lib.hid (KX_9.out.below bl)
    clear KX_9
    have Xi_10 := Lib.hid (Xi_9.out.kept bl)
    clear Xi_9
    have Ga_10 := Lib.hid (ha)
    have Gb_10 := Lib.hid (hb')
    clear bl
    have NG := Lib.hid hab
    clear ha hb' hab
    obtain ⟨pKW0, pKW1, pKW2, pKW3, pKW4, pKW5, pKW6⟩ := tb6 KW_10.out
    go_wp2_with fail
    clear pKW0 pKW1 pKW2 pKW3 pKW4 pKW5 pKW6
    have bl := (Below.refl w10.heap.size w10).alloc (Nat.le_refl _) (.cells #[.int .i64 n, .int .i64 d, .slice aG P.length cG, .int .i64 n, .int .i64 d', .slice bG Q.length dG] 51)
    have KG_11 := Lib.hid (Blk.new w10 51 #[.int .i64 n, .int .i64 d, .slice aG P.length cG, .int .i64 n, .int .i64 d', .slice bG Q.length dG])
    have K0_11 := Lib.hid (K0_10.out.below bl)
    clear K0_10
    have B_11 := Lib.hid (Below.next B_10.out bl)
    clear B_10
    have Wa_11 := Lib.hid (Wa_10.out.kept bl)
    clear Wa_10
    have Wb_11 := Lib.hid (Wb_10.out.kept bl)
    clear Wb_10
    have KW_11 := Lib.hid (KW_10.out.below bl)
    clear KW_10
    have Xa_11 := Lib.hid (Xa_10.out.kept bl)
    clear Xa_10
    have Xb_11 := Lib.hid (Xb_10.out.kept bl)
    clear Xb_10
    have KX_11 := Lib.hid (KX_10.out.below bl)
    clear KX_10
    have Xi_11 := Lib.hid (Xi_10.out.kept bl)
    clear Xi_10
    have Ga_11 := Lib.hid (Ga_10.out.kept bl)
    clear Ga_10
    have Gb_11 := Lib.hid (Gb_10.out.kept bl)
    clear Gb_10
    clear bl
    generalize w10.alloc (.cells #[.int .i64 n, .int .i64 d, .slice aG P.length cG, .int .i64 n, .int .i64 d', .slice bG Q.length dG] 51) = w11 at K0_11 B_11 Wa_11 Wb_11 KW_11 Xa_11 Xb_11 KX_11 Xi_11 Ga_11 Gb_11 KG_11 ⊢
    refine (c_eqExa n d n d' _ _ _ _ _ _ _ _ P Q P Q _ Ga_11.out.isFloats Gb_11.out.isFloats Wa_11.out.isFloats Wb_11.out.isFloats rfl rfl).mono ?_
    rintro e w12 ⟨rfl, bl⟩
    have K0_12 := Lib.hid (K0_11.out.below bl)
    clear K0_11
    have B_12 := Lib.hid (Below.next B_11.out bl)
    clear B_11
    have Wa_12 := Lib.hid (Wa_11.out.kept bl)
    clear Wa_11
    have Wb_12 := Lib.hid (Wb_11.out.kept bl)
    clear Wb_11
    have KW_12 := Lib.hid (KW_11.out.below bl)
    clear KW_11
    have Xa_12 := Lib.hid (Xa_11.out.kept bl)
    clear Xa_11
    have Xb_12 := Lib.hid (Xb_11.out.kept bl)
    clear Xb_11
    have KX_12 := Lib.hid (KX_11.out.below bl)
    clear KX_11
    have Xi_12 := Lib.hid (Xi_11.out.kept bl)
    clear Xi_11
    have Ga_12 := Lib.hid (Ga_11.out.kept bl)
    clear Ga_11
    have Gb_12 := Lib.hid (Gb_11.out.kept bl)
    clear Gb_11
    have KG_12 := Lib.hid (KG_11.out.below bl)
    clear KG_11
    clear bl
    obtain ⟨pKX0, pKX1, pKX2, pKX3, pKX4, pKX5, pKX6⟩ := tb6 KX_12.out
    obtain ⟨pK00, pK01, pK02, pK03, pK04, pK05, pK06⟩ := tb6 K0_12.out
    go_wp2_with fail
    clear pKX0 pKX1 pKX2 pKX3 pKX4 pKX5 pKX6
    clear pK00 pK01 pK02 pK03 pK04 pK05 pK06
    have bl : Below w12.heap.size w12 w12.drew := (Below.refl _ _).drew
    have K0_13 := Lib.hid (K0_12.out.below bl)
    clear K0_12
    have B_13 := Lib.hid (Below.next B_12.out bl)
    clear B_12
    have Wa_13 := Lib.hid (Wa_12.out.kept bl)
    clear Wa_12
    have Wb_13 := Lib.hid (Wb_12.out.kept bl)
    clear Wb_12
    have KW_13 := Lib.hid (KW_12.out.below bl)
    clear KW_12
    have Xa_13 := Lib.hid (Xa_12.out.kept bl)
    clear Xa_12
    have Xb_13 := Lib.hid (Xb_12.out.kept bl)
    clear Xb_12
    have KX_13 := Lib.hid (KX_12.out.below bl)
    clear KX_12
    have Xi_13 := Lib.hid (Xi_12.out.kept bl)
    clear Xi_12
    have Ga_13 := Lib.hid (Ga_12.out.kept bl)
    clear Ga_12
    have Gb_13 := Lib.hid (Gb_12.out.kept bl)
    clear Gb_12
    have KG_13 := Lib.hid (KG_12.out.below bl)
    clear KG_12
    clear bl
    obtain ⟨pKX0, pKX1, pKX2, pKX3, pKX4, pKX5, pKX6⟩ := tb6 KX_13.out
    obtain ⟨pK00, pK01, pK02, pK03, pK04, pK05, pK06⟩ := tb6 K0_13.out
    go_region_held3 (fun w' => w'.cell? ⟨w.heap.size, 0, none⟩ = some (.int .i64 r) ∧ w'.cell? ⟨w.heap.size, 1, none⟩ = some (.int .i64 c) ∧ w'.cell? ⟨w.heap.size, 2, none⟩ = some (.slice a x.length ca) ∧ w'.cell? ⟨w.heap.size, 3, none⟩ = some (.int .i64 r') ∧ w'.cell? ⟨w.heap.size, 4, none⟩ = some (.int .i64 c') ∧ w'.cell? ⟨w.heap.size, 5, none⟩ = some (.slice b y.length cb) ∧ w'.cell? ⟨w7.heap.size, 0, none⟩ = some (.int .i64 r) ∧ w'.cell? ⟨w7.heap.size, 1, none⟩ = some (.int .i64 c) ∧ w'.cell? ⟨w7.heap.size, 2, none⟩ = some (.slice aX x.length x.length) ∧ w'.cell? ⟨w7.heap.size, 3, none⟩ = some (.int .i64 r') ∧ w'.cell? ⟨w7.heap.size, 4, none⟩ = some (.int .i64 c') ∧ w'.cell? ⟨w7.heap.size, 5, none⟩ = some (.slice bX y.length y.length)) (go_keep)
      (first
        | (go_at_call 32
           refine (HTO.out _ B_13.out).mono ?_
           rintro e w14 ⟨aV, bV, rfl, ha, hb', _, bl⟩
           have K0_14 := Lib.hid (K0_13.out.below bl)
           clear K0_13
           have B_14 := Lib.hid (Below.next B_13.out bl)
           clear B_13
           have Wa_14 := Lib.hid (Wa_13.out.kept bl)
           clear Wa_13
           have Wb_14 := Lib.hid (Wb_13.out.kept bl)
           clear Wb_13
           have KW_14 := Lib.hid (KW_13.out.below bl)
           clear KW_13
           have Xa_14 := Lib.hid (Xa_13.out.kept bl)
           clear Xa_13
           have Xb_14 := Lib.hid (Xb_13.out.kept bl)
           clear Xb_13
           have KX_14 := Lib.hid (KX_13.out.below bl)
           clear KX_13
           have Xi_14 := Lib.hid (Xi_13.out.kept bl)
           clear Xi_13
           have Ga_14 := Lib.hid (Ga_13.out.kept bl)
           clear Ga_13
           have Gb_14 := Lib.hid (Gb_13.out.kept bl)
           clear Gb_13
           have KG_14 := Lib.hid (KG_13.out.below bl)
           clear KG_13
           have Va_14 := Lib.hid (ha)
           have Vb_14 := Lib.hid (hb')
           clear bl ha hb'
           obtain ⟨pKX0, pKX1, pKX2, pKX3, pKX4, pKX5, pKX6⟩ := tb6 KX_14.out
           obtain ⟨pK00, pK01, pK02, pK03, pK04, pK05, pK06⟩ := tb6 K0_14.out)
        | (go_at_call 34
           refine (c_eqExa r c r' c' _ _ _ _ _ _ _ _ x y x y _ Xa_14.out.isFloats Xb_14.out.isFloats Va_14.out.isFloats Vb_14.out.isFloats rfl rfl).mono ?_
           rintro e w15 ⟨rfl, bl⟩
           have K0_15 := Lib.hid (K0_14.out.below bl)
           clear K0_14
           have B_15 := Lib.hid (Below.next B_14.out bl)
           clear B_14
           have Wa_15 := Lib.hid (Wa_14.out.kept bl)
           clear Wa_14
           have Wb_15 := Lib.hid (Wb_14.out.kept bl)
           clear Wb_14
           have KW_15 := Lib.hid (KW_14.out.below bl)
           clear KW_14
           have Xa_15 := Lib.hid (Xa_14.out.kept bl)
           clear Xa_14
           have Xb_15 := Lib.hid (Xb_14.out.kept bl)
           clear Xb_14
           have KX_15 := Lib.hid (KX_14.out.below bl)
           clear KX_14
           have Xi_15 := Lib.hid (Xi_14.out.kept bl)
           clear Xi_14
           have Ga_15 := Lib.hid (Ga_14.out.kept bl)
           clear Ga_14
           have Gb_15 := Lib.hid (Gb_14.out.kept bl)
           clear Gb_14
           have KG_15 := Lib.hid (KG_14.out.below bl)
           clear KG_14
           have Va_15 := Lib.hid (Va_14.out.kept bl)
           clear Va_14
           have Vb_15 := Lib.hid (Vb_14.out.kept bl)
           clear Vb_14
           clear bl
           obtain ⟨pKX0, pKX1, pKX2, pKX3, pKX4, pKX5, pKX6⟩ := tb6 KX_15.out
           obtain ⟨pK00, pK01, pK02, pK03, pK04, pK05, pK06⟩ := tb6 K0_15.out))
    clear pKX0 pKX1 pKX2 pKX3 pKX4 pKX5 pKX6
    clear pK00 pK01 pK02 pK03 pK04 pK05 pK06
    clear Va_15
    clear Vb_15
    go_wp2_with fail
    refine (HTI.out _ B_15.out).mono ?_
    rintro e w16 ⟨cV, rfl, ha, bl⟩
    have K0_16 := Lib.hid (K0_15.out.below bl)
    clear K0_15
    have B_16 := Lib.hid (Below.next B_15.out bl)
    clear B_15
    have Wa_16 := Lib.hid (Wa_15.out.kept bl)
    clear Wa_15
    have Wb_16 := Lib.hid (Wb_15.out.kept bl)
    clear Wb_15
    have KW_16 := Lib.hid (KW_15.out.below bl)
    clear KW_15
    have Xa_16 := Lib.hid (Xa_15.out.kept bl)
    clear Xa_15
    have Xb_16 := Lib.hid (Xb_15.out.kept bl)
    clear Xb_15
    have KX_16 := Lib.hid (KX_15.out.below bl)
    clear KX_15
    have Xi_16 := Lib.hid (Xi_15.out.kept bl)
    clear Xi_15
    have Ga_16 := Lib.hid (Ga_15.out.kept bl)
    clear Ga_15
    have Gb_16 := Lib.hid (Gb_15.out.kept bl)
    clear Gb_15
    have KG_16 := Lib.hid (KG_15.out.below bl)
    clear KG_15
    have Vi_16 := Lib.hid (ha)
    clear bl
    clear ha
    rw [HZL.out]
    go_wp2_with fail
    have hii := Xi_16.out.isRow
    rw [HZL.out] at hii
    have hij := Vi_16.out.isRow
    rw [HZL.out] at hij
    refine (c_eqInts' _ _ _ _ z1 z1 zl _ hii hij rfl).mono ?_
    rintro e w17 ⟨rfl, dn⟩
    have bl := dn.below
    clear dn hii hij
    have K0_17 := Lib.hid (K0_16.out.below bl)
    clear K0_16
    have B_17 := Lib.hid (Below.next B_16.out bl)
    clear B_16
    have Wa_17 := Lib.hid (Wa_16.out.kept bl)
    clear Wa_16
    have Wb_17 := Lib.hid (Wb_16.out.kept bl)
    clear Wb_16
    have KW_17 := Lib.hid (KW_16.out.below bl)
    clear KW_16
    have Xa_17 := Lib.hid (Xa_16.out.kept bl)
    clear Xa_16
    have Xb_17 := Lib.hid (Xb_16.out.kept bl)
    clear Xb_16
    have KX_17 := Lib.hid (KX_16.out.below bl)
    clear KX_16
    have Xi_17 := Lib.hid (Xi_16.out.kept bl)
    clear Xi_16
    have Ga_17 := Lib.hid (Ga_16.out.kept bl)
    clear Ga_16
    have Gb_17 := Lib.hid (Gb_16.out.kept bl)
    clear Gb_16
    have KG_17 := Lib.hid (KG_16.out.below bl)
    clear KG_16
    have Vi_17 := Lib.hid (Vi_16.out.kept bl)
    clear Vi_16
    clear bl
    clear Vi_17
    obtain ⟨pKX0, pKX1, pKX2, pKX3, pKX4, pKX5, pKX6⟩ := tb6 KX_17.out
    go_wp2_with fail
    clear pKX0 pKX1 pKX2 pKX3 pKX4 pKX5 pKX6
    obtain ⟨q, hq⟩ : ∃ q, 1 + x.length + y.length = q := ⟨_, rfl⟩
    have HQ := Lib.hid hq
    have hqm : q ≤ 1048577 := by have := HL.out; omega
    obtain ⟨q', hq'⟩ : ∃ q', q + zl = q' := ⟨_, rfl⟩
    have HQ' := Lib.hid hq'
    have hq0 : (0 : Int) ≤ (q : Int) := by omega
    have hq'0 : (0 : Int) ≤ (q' : Int) := by omega
    obtain ⟨s, hs⟩ : ∃ s, 1 + P.length + Q.length = s := ⟨_, rfl⟩
    have HSS := Lib.hid hs
    have hsm : s ≤ 513 := by have := HPL.out; have := HQL.out; omega
    have hs0 : (0 : Int) ≤ (s : Int) := by omega
    clear hq hq' hs
    refine (c_markExa r c r' c' aX bX _ _ _ _ 1 q x y _ Xa_17.out Xb_17.out NX.out HQ.out (by omega) (by exact HXL.out) (by exact HYL.out)).mono ?_
    rintro e w18 ⟨rfl, ha, hb', hg⟩
    have K0_18 := Lib.hid (K0_17.out.inPair hg Xa_17.out Xb_17.out (by decide))
    clear K0_17
    have B_18 := Lib.hid (Below.inPair B_17.out hg Xa_17.out Xb_17.out LX.out LX.out)
    clear B_17
    have Wa_18 := Lib.hid (Wa_17.out.inPair hg NWaXa.out NWaXb.out)
    clear Wa_17
    have Wb_18 := Lib.hid (Wb_17.out.inPair hg NWbXa.out NWbXb.out)
    clear Wb_17
    have KW_18 := Lib.hid (KW_17.out.inPair hg Xa_17.out Xb_17.out (by decide))
    clear KW_17
    have KX_18 := Lib.hid (KX_17.out.inPair hg Xa_17.out Xb_17.out (by decide))
    clear KX_17
    have Xi_18 := Lib.hid (Xi_17.out.inPair hg (fun g h1 h2 => NXaXi.out g h2 h1) (fun g h1 h2 => NXbXi.out g h2 h1))
    clear Xi_17
    have Ga_18 := Lib.hid (Ga_17.out.inPair hg (fun g h1 h2 => NXaGa.out g h2 h1) (fun g h1 h2 => NXbGa.out g h2 h1))
    clear Ga_17
    have Gb_18 := Lib.hid (Gb_17.out.inPair hg (fun g h1 h2 => NXaGb.out g h2 h1) (fun g h1 h2 => NXbGb.out g h2 h1))
    clear Gb_17
    have KG_18 := Lib.hid (KG_17.out.inPair hg Xa_17.out Xb_17.out (by decide))
    clear KG_17
    clear Xa_17 Xb_17
    have Xa_18 := Lib.hid ha
    have Xb_18 := Lib.hid hb'
    clear ha hb' hg
    clear Xa_18
    clear Xb_18
    go_wp2_with fail
    have hmk := c_markInts' cX z1.length _ q q' z1 w18 Xi_18.out (by rw [HZL.out]; exact HQ'.out) (by omega) HRL.out
    rw [HZL.out] at hmk
    refine hmk.mono ?_
    rintro e w19 ⟨rfl, ho, hg⟩
    clear hmk
    have K0_19 := Lib.hid (K0_18.out.apartI hg Xi_18.out (by decide))
    clear K0_18
    have B_19 := Lib.hid (Below.grownBy B_18.out hg B_18.out.size (fun g h => Nat.le_trans LI.out (Xi_18.out.lt g h).1))
    clear B_18
    have Wa_19 := Lib.hid (Wa_18.out.apart hg NWaXi.out)
    clear Wa_18
    have Wb_19 := Lib.hid (Wb_18.out.apart hg NWbXi.out)
    clear Wb_18
    have KW_19 := Lib.hid (KW_18.out.apartI hg Xi_18.out (by decide))
    clear KW_18
    have KX_19 := Lib.hid (KX_18.out.apartI hg Xi_18.out (by decide))
    clear KX_18
    have Ga_19 := Lib.hid (Ga_18.out.apart hg (fun g h1 h2 => NXiGa.out g h2 h1))
    clear Ga_18
    have Gb_19 := Lib.hid (Gb_18.out.apart hg (fun g h1 h2 => NXiGb.out g h2 h1))
    clear Gb_18
    have KG_19 := Lib.hid (KG_18.out.apartI hg Xi_18.out (by decide))
    clear KG_18
    clear Xi_18 ho hg
    obtain ⟨pKG0, pKG1, pKG2, pKG3, pKG4, pKG5, pKG6⟩ := tb6 KG_19.out
    obtain ⟨pKW0, pKW1, pKW2, pKW3, pKW4, pKW5, pKW6⟩ := tb6 KW_19.out
    go_wp2_with fail
    clear pKG0 pKG1 pKG2 pKG3 pKG4 pKG5 pKG6
    clear pKW0 pKW1 pKW2 pKW3 pKW4 pKW5 pKW6
    refine (c_eqExa n d n d' _ _ _ _ _ _ _ _ P Q P Q _ Ga_19.out.isFloats Gb_19.out.isFloats Wa_19.out.isFloats Wb_19.out.isFloats rfl rfl).mono ?_
    rintro e w20 ⟨rfl, bl⟩
    have K0_20 := Lib.hid (K0_19.out.below bl)
    clear K0_19
    have B_20 := Lib.hid (Below.next B_19.out bl)
    clear B_19
    have Wa_20 := Lib.hid (Wa_19.out.kept bl)
    clear Wa_19
    have Wb_20 := Lib.hid (Wb_19.out.kept bl)
    clear Wb_19
    have KW_20 := Lib.hid (KW_19.out.below bl)
    clear KW_19
    have KX_20 := Lib.hid (KX_19.out.below bl)
    clear KX_19
    have Ga_20 := Lib.hid (Ga_19.out.kept bl)
    clear Ga_19
    have Gb_20 := Lib.hid (Gb_19.out.kept bl)
    clear Gb_19
    have KG_20 := Lib.hid (KG_19.out.below bl)
    clear KG_19
    clear bl
    obtain ⟨pKG0, pKG1, pKG2, pKG3, pKG4, pKG5, pKG6⟩ := tb6 KG_20.out
    go_wp2_with fail
    clear pKG0 pKG1 pKG2 pKG3 pKG4 pKG5 pKG6
    refine (c_markExa n d n d' aG bG _ _ _ _ 1 s P Q _ Ga_20.out Gb_20.out NG.out HSS.out (by omega) (by have := HPL.out; omega) (by have := HQL.out; omega)).mono ?_
    rintro e w21 ⟨rfl, ha, hb', hg⟩
    have K0_21 := Lib.hid (K0_20.out.inPair hg Ga_20.out Gb_20.out (by decide))
    clear K0_20
    have B_21 := Lib.hid (Below.inPair B_20.out hg Ga_20.out Gb_20.out LG.out LG.out)
    clear B_20
    have Wa_21 := Lib.hid (Wa_20.out.inPair hg NWaGa.out NWaGb.out)
    clear Wa_20
    have Wb_21 := Lib.hid (Wb_20.out.inPair hg NWbGa.out NWbGb.out)
    clear Wb_20
    have KW_21 := Lib.hid (KW_20.out.inPair hg Ga_20.out Gb_20.out (by decide))
    clear KW_20
    have KX_21 := Lib.hid (KX_20.out.inPair hg Ga_20.out Gb_20.out (by decide))
    clear KX_20
    have KG_21 := Lib.hid (KG_20.out.inPair hg Ga_20.out Gb_20.out (by decide))
    clear KG_20
    clear Ga_20 Gb_20
    have Ga_21 := Lib.hid ha
    have Gb_21 := Lib.hid hb'
    clear ha hb' hg
    obtain ⟨pKG0, pKG1, pKG2, pKG3, pKG4, pKG5, pKG6⟩ := tb6 KG_21.out
    go_wp2_with fail
    clear pKG0 pKG1 pKG2 pKG3 pKG4 pKG5 pKG6
    refine (c_heldExa n d n d' aG bG cG dG 1 s P.length Q.length _ Ga_21.out.held Gb_21.out.held HSS.out (by omega) (by have := HPL.out; omega) (by have := HQL.out; omega)).mono ?_
    rintro e w22 ⟨rfl, bl⟩
    have K0_22 := Lib.hid (K0_21.out.below bl)
    clear K0_21
    have B_22 := Lib.hid (Below.next B_21.out bl)
    clear B_21
    have Wa_22 := Lib.hid (Wa_21.out.kept bl)
    clear Wa_21
    have Wb_22 := Lib.hid (Wb_21.out.kept bl)
    clear Wb_21
    have KW_22 := Lib.hid (KW_21.out.below bl)
    clear KW_21
    have KX_22 := Lib.hid (KX_21.out.below bl)
    clear KX_21
    have Ga_22 := Lib.hid (Ga_21.out.kept bl)
    clear Ga_21
    have Gb_22 := Lib.hid (Gb_21.out.kept bl)
    clear Gb_21
    have KG_22 := Lib.hid (KG_21.out.below bl)
    clear KG_21
    clear bl
    obtain ⟨pK00, pK01, pK02, pK03, pK04, pK05, pK06⟩ := tb6 K0_22.out
    go_wp2_with fail
    clear pK00 pK01 pK02 pK03 pK04 pK05 pK06
    refine (HTO.out _ B_22.out).mono ?_
    rintro e w23 ⟨aY, bY, rfl, ha, hb', hab, bl⟩
    have K0_23 := Lib.hid (K0_22.out.below bl)
    clear K0_22
    have B_23 := Lib.hid (Below.next B_22.out bl)
    clear B_22
    have Wa_23 := Lib.hid (Wa_22.out.kept bl)
    clear Wa_22
    have Wb_23 := Lib.hid (Wb_22.out.kept bl)
    clear Wb_22
    have KW_23 := Lib.hid (KW_22.out.below bl)
    clear KW_22
    have KX_23 := Lib.hid (KX_22.out.below bl)
    clear KX_22
    have Ga_23 := Lib.hid (Ga_22.out.kept bl)
    clear Ga_22
    have Gb_23 := Lib.hid (Gb_22.out.kept bl)
    clear Gb_22
    have KG_23 := Lib.hid (KG_22.out.below bl)
    clear KG_22
    have Ya_23 := Lib.hid (ha)
    have Yb_23 := Lib.hid (hb')
    clear bl
    clear ha hb' hab
    go_wp2_with fail
    refine (HTI.out _ B_23.out).mono ?_
    rintro e w24 ⟨cY, rfl, ha, bl⟩
    have K0_24 := Lib.hid (K0_23.out.below bl)
    clear K0_23
    have B_24 := Lib.hid (Below.next B_23.out bl)
    clear B_23
    have Wa_24 := Lib.hid (Wa_23.out.kept bl)
    clear Wa_23
    have Wb_24 := Lib.hid (Wb_23.out.kept bl)
    clear Wb_23
    have KW_24 := Lib.hid (KW_23.out.below bl)
    clear KW_23
    have KX_24 := Lib.hid (KX_23.out.below bl)
    clear KX_23
    have Ga_24 := Lib.hid (Ga_23.out.kept bl)
    clear Ga_23
    have Gb_24 := Lib.hid (Gb_23.out.kept bl)
    clear Gb_23
    have KG_24 := Lib.hid (KG_23.out.below bl)
    clear KG_23
    have Ya_24 := Lib.hid (Ya_23.out.kept bl)
    clear Ya_23
    have Yb_24 := Lib.hid (Yb_23.out.kept bl)
    clear Yb_23
    have Yi_24 := Lib.hid (ha)
    clear bl
    clear ha
    rw [HZL.out]
    go_wp2_with fail
    refine (HI.out _ _ _ _ Ya_24.out.isFloats Yb_24.out.isFloats (by have h := Yi_24.out.isRow; rw [HZL.out] at h; exact h)).mono ?_
    rintro e w25 ⟨aH, cH, bH, dH, rfl, ha, hb', hab, bl⟩
    have K0_25 := Lib.hid (K0_24.out.below bl)
    clear K0_24
    have B_25 := Lib.hid (Below.next B_24.out bl)
    clear B_24
    have Wa_25 := Lib.hid (Wa_24.out.kept bl)
    clear Wa_24
    have Wb_25 := Lib.hid (Wb_24.out.kept bl)
    clear Wb_24
    have KW_25 := Lib.hid (KW_24.out.below bl)
    clear KW_24
    have KX_25 := Lib.hid (KX_24.out.below bl)
    clear KX_24
    have Ga_25 := Lib.hid (Ga_24.out.kept bl)
    clear Ga_24
    have Gb_25 := Lib.hid (Gb_24.out.kept bl)
    clear Gb_24
    have KG_25 := Lib.hid (KG_24.out.below bl)
    clear KG_24
    have Ya_25 := Lib.hid (Ya_24.out.kept bl)
    clear Ya_24
    have Yb_25 := Lib.hid (Yb_24.out.kept bl)
    clear Yb_24
    have Yi_25 := Lib.hid (Yi_24.out.kept bl)
    clear Yi_24
    have Ha_25 := Lib.hid (ha)
    have Hb_25 := Lib.hid (hb')
    clear bl
    clear ha hb' hab
    clear Ya_25
    clear Yb_25
    clear Yi_25
    obtain ⟨pKW0, pKW1, pKW2, pKW3, pKW4, pKW5, pKW6⟩ := tb6 KW_25.out
    go_wp2_with fail
    clear pKW0 pKW1 pKW2 pKW3 pKW4 pKW5 pKW6
    have bl := (Below.refl w25.heap.size w25).alloc (Nat.le_refl _) (.cells #[.int .i64 n, .int .i64 d, .slice aH P.length cH, .int .i64 n, .int .i64 d', .slice bH Q.length dH] 51)
    have KH_26 := Lib.hid (Blk.new w25 51 #[.int .i64 n, .int .i64 d, .slice aH P.length cH, .int .i64 n, .int .i64 d', .slice bH Q.length dH])
    have K0_26 := Lib.hid (K0_25.out.below bl)
    clear K0_25
    have B_26 := Lib.hid (Below.next B_25.out bl)
    clear B_25
    have Wa_26 := Lib.hid (Wa_25.out.kept bl)
    clear Wa_25
    have Wb_26 := Lib.hid (Wb_25.out.kept bl)
    clear Wb_25
    have KW_26 := Lib.hid (KW_25.out.below bl)
    clear KW_25
    have KX_26 := Lib.hid (KX_25.out.below bl)
    clear KX_25
    have Ga_26 := Lib.hid (Ga_25.out.kept bl)
    clear Ga_25
    have Gb_26 := Lib.hid (Gb_25.out.kept bl)
    clear Gb_25
    have KG_26 := Lib.hid (KG_25.out.below bl)
    clear KG_25
    have Ha_26 := Lib.hid (Ha_25.out.kept bl)
    clear Ha_25
    have Hb_26 := Lib.hid (Hb_25.out.kept bl)
    clear Hb_25
    clear bl
    generalize w25.alloc (.cells #[.int .i64 n, .int .i64 d, .slice aH P.length cH, .int .i64 n, .int .i64 d', .slice bH Q.length dH] 51) = w26 at K0_26 B_26 Wa_26 Wb_26 KW_26 KX_26 Ga_26 Gb_26 KG_26 Ha_26 Hb_26 KH_26 ⊢
    refine (c_eqExa n d n d' _ _ _ _ _ _ _ _ P Q P Q _ Ha_26.out.isFloats Hb_26.out.isFloats Wa_26.out.isFloats Wb_26.out.isFloats rfl rfl).mono ?_
    rintro e w27 ⟨rfl, bl⟩
    have K0_27 := Lib.hid (K0_26.out.below bl)
    clear K0_26
    have B_27 := Lib.hid (Below.next B_26.out bl)
    clear B_26
    have Wa_27 := Lib.hid (Wa_26.out.kept bl)
    clear Wa_26
    have Wb_27 := Lib.hid (Wb_26.out.kept bl)
    clear Wb_26
    have KW_27 := Lib.hid (KW_26.out.below bl)
    clear KW_26
    have KX_27 := Lib.hid (KX_26.out.below bl)
    clear KX_26
    have Ga_27 := Lib.hid (Ga_26.out.kept bl)
    clear Ga_26
    have Gb_27 := Lib.hid (Gb_26.out.kept bl)
    clear Gb_26
    have KG_27 := Lib.hid (KG_26.out.below bl)
    clear KG_26
    have Ha_27 := Lib.hid (Ha_26.out.kept bl)
    clear Ha_26
    have Hb_27 := Lib.hid (Hb_26.out.kept bl)
    clear Hb_26
    have KH_27 := Lib.hid (KH_26.out.below bl)
    clear KH_26
    clear bl
    obtain ⟨pKG0, pKG1, pKG2, pKG3, pKG4, pKG5, pKG6⟩ := tb6 KG_27.out
    go_wp2_with fail
    clear pKG0 pKG1 pKG2 pKG3 pKG4 pKG5 pKG6
    refine (c_heldExa n d n d' aG bG cG dG 1 s P.length Q.length _ Ga_27.out.held Gb_27.out.held HSS.out (by omega) (by have := HPL.out; omega) (by have := HQL.out; omega)).mono ?_
    rintro e w28 ⟨rfl, bl⟩
    have K0_28 := Lib.hid (K0_27.out.below bl)
    clear K0_27
    have B_28 := Lib.hid (Below.next B_27.out bl)
    clear B_27
    have Wa_28 := Lib.hid (Wa_27.out.kept bl)
    clear Wa_27
    have Wb_28 := Lib.hid (Wb_27.out.kept bl)
    clear Wb_27
    have KW_28 := Lib.hid (KW_27.out.below bl)
    clear KW_27
    have KX_28 := Lib.hid (KX_27.out.below bl)
    clear KX_27
    have Ga_28 := Lib.hid (Ga_27.out.kept bl)
    clear Ga_27
    have Gb_28 := Lib.hid (Gb_27.out.kept bl)
    clear Gb_27
    have KG_28 := Lib.hid (KG_27.out.below bl)
    clear KG_27
    have Ha_28 := Lib.hid (Ha_27.out.kept bl)
    clear Ha_27
    have Hb_28 := Lib.hid (Hb_27.out.kept bl)
    clear Hb_27
    have KH_28 := Lib.hid (KH_27.out.below bl)
    clear KH_27
    clear bl
    go_wp2_with fail
    go_ret
    exact ⟨rfl, B_28.out⟩

/-! the row's step -/
set_option maxRecDepth 100000 in
theorem lifted (os : Os) (started : os.Started) (H : Type) (enc : TypeId × Value → H) :
    ReturnsInHanded {} Try.checked os 9 .any (Rows.fnExactPickRowsSpec.pre6 enc Try.prog Try.f9 Rows.fnExactPickRowsRow.domain false) (Rows.fnExactPickRowsSpec.post enc Try.prog Try.f9 false true false false) := by
  refine returnsInHanded_of_change (C := Try.checked) own started (by kernel_rfl) Try.func9
    (ChangeSpec.witness6 (enc := enc) (C := Try.checked) false ⟨#[], #[.agg #[.int .i64 0, .int .i64 0, .slice none 0 0, .int .i64 0, .int .i64 0, .slice none 0 0], .slice none 0 0], []⟩ 8 (by kernel_rfl) (by kernel_rfl) (by kernel_rfl) (by kernel_rfl)) ?_
  intro W base args ds gs before hval0 hW hcnd _
  have hval : ∀ (j : Nat) t v, Try.f9.params[j]? = some t → args[j]? = some v → Value.okWide Try.prog W .any base t v := hval0
  have hW' := hW
  obtain ⟨p, q, hA0, hV, rfl, hfz, hnd⟩ := hW
  have hA : DataW.TrodAll enc Try.prog W 0 (fun _ => true) true Try.f9.params.toList args.toList ds p := hA0
  rw [Try.params9] at hA hval
  obtain ⟨v0, vs0, d0, ds0, p0, q0, hargs, rfl, rfl, h0, rest0⟩ := trodAll_cons hA
  obtain ⟨v1, vs1, d1, ds1, p1, q1, rfl, rfl, rfl, h1, rest1⟩ := trodAll_cons rest0
  obtain ⟨rfl, rfl, rfl⟩ := trodAll_nil rest1
  obtain rfl : args = #[v0, v1] := by cases args; simp_all
  obtain ⟨rfl, rfl⟩ := trodVars_none hV
  have k0 := h0
  have lt0 : ∀ x ∈ p0, x.block < W.heap.size := by obtain ⟨m, hm⟩ := k0; exact DataW.trod_lt m _ _ _ hm
  have w0 := open_Exa (hval 0 46 v0 rfl rfl) h0
  obtain ⟨a1, len1, cap1, rfl⟩ := okWide_slice Try.underlying25 (hval 1 25 v1 rfl rfl)
  have k1 := h1
  have lt1 : ∀ x ∈ p1, x.block < W.heap.size := by obtain ⟨m, hm⟩ := k1; exact DataW.trod_lt m _ _ _ hm
  obtain ⟨z1, w1⟩ := isRow_of (k := .i64) Try.underlying25 Try.underlying2 (by kernel_rfl) h1
  clear hA0 hval0
  refine (walk _ a1 len1 cap1 z1 W w0 w1).mono fun e W' ⟨he, bel⟩ => ?_
  subst he
  exact ⟨_, rfl, _, _, _, [], _, [], hW', trodAll_mk1 (shut_bool Try.underlying4 _), (trodAll_cons_mk (Below.trod laidOut (by kernel_rfl) (of_decide_eq_true (by kernel_rfl)) k0 bel lt0) (trodAll_cons_mk (Below.trod laidOut (by kernel_rfl) (of_decide_eq_true (by kernel_rfl)) k1 bel lt1) trodAll_mk0)), rfl, bel.frame _, fun h => by cases h⟩

theorem over : Rows.fnExactPickRowsRow.holds Try.pinned (OpenSpec.ofChange Rows.fnExactPickRowsSpec) :=
  OpenClaim.holds_of_wide 9 Try.f9 rfl rfl rfl rfl rfl rfl rfl ⟨rfl, rfl, rfl, rfl, rfl⟩ rfl rfl rfl rfl rfl (by kernel_rfl) Try.func9 (by kernel_rfl)
    (of_decide_eq_true (by kernel_rfl)) (by unfold Func.isWrapper; first | (rw [if_pos (by decide +kernel)]; kernel_rfl) | (rw [if_neg (by decide +kernel)]; exact ⟨rfl, rfl⟩))
    (fun os started H enc _ => lifted os started H enc)

/-- the statement -/
theorem proved : Rows.FnExactPickRowsSaid := over
end Go.Proofs.Ythklfkfhhdglcaa.fnExactPickRows
