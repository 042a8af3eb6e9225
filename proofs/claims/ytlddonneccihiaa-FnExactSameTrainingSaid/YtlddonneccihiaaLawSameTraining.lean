/-
  SameTraining answers as its model says, for all states, and changes none of them. Conditions: none.
-/
import Derived.Test.YtlddonneccihiaaSmu
import Derived.ChangeOld
import Derived.Below
namespace Go.Proofs.Ytlddonneccihiaa.fnExactSameTraining
open Go.ChangeShapes Go.WideShapes Go.ChangeAt Go.RowKit
open Go.ChangeMaps (open_string shut_string)
set_option linter.unusedVariables false

set_option maxRecDepth 20000 in
set_option maxHeartbeats 4000000 in
theorem walk (v0 : Value) (v1 : Value) (w : World) (w0 : ∃ q : TrsA, v0 = .agg q.cells ∧ TrsAt w q) (w1 : ∃ q : TrsA, v1 = .agg q.cells ∧ TrsAt w q) :
    Calls Try.prog 3 #[v0, v1] w fun e w' => e = .returned (.bool true) ∧ Below w.heap.size w w' := by
  obtain ⟨q, rfl, hq⟩ := w0
  obtain ⟨q', rfl, hq'⟩ := w1
  obtain ⟨a0, a1, a2, a3, a4, a5, a6, a7, a8, ha⟩ := cells5 q
  obtain ⟨b0, b1, b2, b3, b4, b5, b6, b7, b8, hb⟩ := cells5 q'
  rw [ha, hb]
  have HQ := Lib.hid hq
  have HQ' := Lib.hid hq'
  have CA := Lib.hid ha
  have CB := Lib.hid hb
  have k1 := (Blk.new w 28 #[.slice a0 a1 a2, .slice a3 a4 a5, .int .i64 a6, .int .i64 a7, .float .f32 a8]).below ((Below.refl _ _).alloc (Nat.le_refl _) (.cells #[.slice b0 b1 b2, .slice b3 b4 b5, .int .i64 b6, .int .i64 b7, .float .f32 b8] 28))
  have k2 := Blk.new (w.alloc (.cells #[.slice a0 a1 a2, .slice a3 a4 a5, .int .i64 a6, .int .i64 a7, .float .f32 a8] 28)) 28 #[.slice b0 b1 b2, .slice b3 b4 b5, .int .i64 b6, .int .i64 b7, .float .f32 b8]
  simp only [World.size_alloc] at k2
  have K0_0 := Lib.hid k1
  have K1_0 := Lib.hid k2
  have B_0 := Lib.hid (((Below.refl w.heap.size w).alloc (Nat.le_refl _) (.cells #[.slice a0 a1 a2, .slice a3 a4 a5, .int .i64 a6, .int .i64 a7, .float .f32 a8] 28)).alloc (by simp) (.cells #[.slice b0 b1 b2, .slice b3 b4 b5, .int .i64 b6, .int .i64 b7, .float .f32 b8] 28))
  clear hq hq' k1 k2
  by_cases hL : trsSum q ≤ 1048576
  case neg =>
    have HN := Lib.hid (fun w1 (hb : Below w.heap.size w w1) => c_szTrs_no q 1048576 w1 (HQ.out.kept hb) (Nat.le_refl _) (by omega))
    rw [ha] at HN
    clear hL ha hb
    go_enter Try.func3, Try.ntmps3
    go_wp2_with fail
    generalize (w.alloc (.cells #[.slice a0 a1 a2, .slice a3 a4 a5, .int .i64 a6, .int .i64 a7, .float .f32 a8] 28)).alloc (.cells #[.slice b0 b1 b2, .slice b3 b4 b5, .int .i64 b6, .int .i64 b7, .float .f32 b8] 28) = w1 at K0_0 K1_0 B_0 ⊢
    refine (HN.out _ B_0.out).mono ?_
    rintro e w2 ⟨rfl, hb⟩
    have B2 := Lib.hid (Below.next B_0.out hb)
    clear hb
    go_wp2_with fail
    go_ret
    exact ⟨rfl, B2.out⟩
  case pos =>
  obtain ⟨l, hl⟩ : ∃ l, 1048576 - trsSum q = l := ⟨_, rfl⟩
  have hl0 : (0 : Int) ≤ (l : Int) := by omega
  have hlm : l ≤ 1048576 := by omega
  have HZ := Lib.hid (fun w1 (hb : Below w.heap.size w w1) => c_szTrs q 1048576 l w1 (HQ.out.kept hb) (Nat.le_refl _) hL hl)
  rw [ha] at HZ
  by_cases hM : trsSum q' ≤ l
  case neg =>
    have HN := Lib.hid (fun w1 (hb : Below w.heap.size w w1) => c_szTrs_no q' l w1 (HQ'.out.kept hb) hlm (by omega))
    rw [hb] at HN
    clear hL hl hM ha hb
    go_enter Try.func3, Try.ntmps3
    go_wp2_with fail
    generalize (w.alloc (.cells #[.slice a0 a1 a2, .slice a3 a4 a5, .int .i64 a6, .int .i64 a7, .float .f32 a8] 28)).alloc (.cells #[.slice b0 b1 b2, .slice b3 b4 b5, .int .i64 b6, .int .i64 b7, .float .f32 b8] 28) = w1 at K0_0 K1_0 B_0 ⊢
    refine (HZ.out _ B_0.out).mono ?_
    rintro e w2 ⟨rfl, hb⟩
    have B2 := Lib.hid (Below.next B_0.out hb)
    obtain ⟨p0, p1, p2, p3, p4, p5⟩ := tbt5 (K1_0.out.below hb)
    clear hb
    go_wp2_with fail
    refine (HN.out _ B2.out).mono ?_
    rintro e w3 ⟨rfl, hb⟩
    have B3 := Lib.hid (Below.next B2.out hb)
    clear hb p0 p1 p2 p3 p4 p5
    go_wp2_with fail
    go_ret
    exact ⟨rfl, B3.out⟩
  case pos =>
    obtain ⟨u, hu⟩ : ∃ u, l - trsSum q' = u := ⟨_, rfl⟩
    have hu0 : (0 : Int) ≤ (u : Int) := by omega
    have HZ' := Lib.hid (fun w1 (hb : Below w.heap.size w w1) => c_szTrs q' l u w1 (HQ'.out.kept hb) hlm hM hu)
    have HA := Lib.hid (fun w1 (hb : Below w.heap.size w w1) => c_toTrs' q w1 (HQ.out.kept hb) hL)
    have HB := Lib.hid (fun w1 (hb : Below w.heap.size w w1) => c_toTrs' q' w1 (HQ'.out.kept hb) (by omega))
    rw [hb] at HZ' HB
    rw [ha] at HA
    obtain ⟨s, hs⟩ : ∃ s, vSame q q' = s := ⟨_, rfl⟩
    have HS := Lib.hid hs
    clear hL hl hM hu ha hb hs
    go_enter Try.func3, Try.ntmps3
    go_wp2_with fail
    generalize (w.alloc (.cells #[.slice a0 a1 a2, .slice a3 a4 a5, .int .i64 a6, .int .i64 a7, .float .f32 a8] 28)).alloc (.cells #[.slice b0 b1 b2, .slice b3 b4 b5, .int .i64 b6, .int .i64 b7, .float .f32 b8] 28) = w1 at K0_0 K1_0 B_0 ⊢
    refine (HZ.out _ B_0.out).mono ?_
    rintro e w2 ⟨rfl, bl⟩
    have K0_2 := Lib.hid (K0_0.out.below bl)
    clear K0_0
    have K1_2 := Lib.hid (K1_0.out.below bl)
    clear K1_0
    have B_2 := Lib.hid (Below.next B_0.out bl)
    clear B_0
    clear bl
    obtain ⟨pK10, pK11, pK12, pK13, pK14, pK15⟩ := tbt5 K1_2.out
    go_wp2_with fail
    clear pK10 pK11 pK12 pK13 pK14 pK15
    refine (HZ'.out _ B_2.out).mono ?_
    rintro e w3 ⟨rfl, bl⟩
    have K0_3 := Lib.hid (K0_2.out.below bl)
    clear K0_2
    have K1_3 := Lib.hid (K1_2.out.below bl)
    clear K1_2
    have B_3 := Lib.hid (Below.next B_2.out bl)
    clear B_2
    clear bl
    obtain ⟨pK00, pK01, pK02, pK03, pK04, pK05⟩ := tbt5 K0_3.out
    obtain ⟨pK10, pK11, pK12, pK13, pK14, pK15⟩ := tbt5 K1_3.out
    go_wp2_with fail
    clear pK00 pK01 pK02 pK03 pK04 pK05
    clear pK10 pK11 pK12 pK13 pK14 pK15
    have bl : Below w3.heap.size w3 w3.drew := (Below.refl _ _).drew
    have K0_4 := Lib.hid (K0_3.out.below bl)
    clear K0_3
    have K1_4 := Lib.hid (K1_3.out.below bl)
    clear K1_3
    have B_4 := Lib.hid (Below.next B_3.out bl)
    clear B_3
    clear bl
    obtain ⟨pK00, pK01, pK02, pK03, pK04, pK05⟩ := tbt5 K0_4.out
    obtain ⟨pK10, pK11, pK12, pK13, pK14, pK15⟩ := tbt5 K1_4.out
    go_region_held3 (fun w' => w'.cell? ⟨w.heap.size, 0, none⟩ = some (.slice a0 a1 a2) ∧ w'.cell? ⟨w.heap.size, 1, none⟩ = some (.slice a3 a4 a5) ∧ w'.cell? ⟨w.heap.size, 2, none⟩ = some (.int .i64 a6) ∧ w'.cell? ⟨w.heap.size, 3, none⟩ = some (.int .i64 a7) ∧ w'.cell? ⟨w.heap.size, 4, none⟩ = some (.float .f32 a8) ∧ w'.cell? ⟨(w.heap.size + 1), 0, none⟩ = some (.slice b0 b1 b2) ∧ w'.cell? ⟨(w.heap.size + 1), 1, none⟩ = some (.slice b3 b4 b5) ∧ w'.cell? ⟨(w.heap.size + 1), 2, none⟩ = some (.int .i64 b6) ∧ w'.cell? ⟨(w.heap.size + 1), 3, none⟩ = some (.int .i64 b7) ∧ w'.cell? ⟨(w.heap.size + 1), 4, none⟩ = some (.float .f32 b8)) (go_keep)
      (first
        | (go_at_call_of 9 (Value.agg #[.slice a0 a1 a2, .slice a3 a4 a5, .int .i64 a6, .int .i64 a7, .float .f32 a8])
           refine (HA.out _ B_4.out).mono ?_
           rintro e w5 ⟨rc, rfl, ht, ho, bl⟩
           have K0_5 := Lib.hid (K0_4.out.below bl)
           clear K0_4
           have K1_5 := Lib.hid (K1_4.out.below bl)
           clear K1_4
           have B_5 := Lib.hid (Below.next B_4.out bl)
           clear B_4
           clear bl
           obtain ⟨c0, c1, c2, c3, c4, c5, c6, c7, c8, Hcc⟩ := cells5 rc
           have Cc := Lib.hid Hcc
           have Ec := Lib.hid ht
           rw [Hcc]
           have Oc_5 := Lib.hid ho
           clear Hcc ht ho
           obtain ⟨pK00, pK01, pK02, pK03, pK04, pK05⟩ := tbt5 K0_5.out
           obtain ⟨pK10, pK11, pK12, pK13, pK14, pK15⟩ := tbt5 K1_5.out)
        | (go_at_call_of 9 (Value.agg #[.slice b0 b1 b2, .slice b3 b4 b5, .int .i64 b6, .int .i64 b7, .float .f32 b8])
           refine (HB.out _ B_5.out).mono ?_
           rintro e w6 ⟨rd, rfl, ht, ho, bl⟩
           have K0_6 := Lib.hid (K0_5.out.below bl)
           clear K0_5
           have K1_6 := Lib.hid (K1_5.out.below bl)
           clear K1_5
           have B_6 := Lib.hid (Below.next B_5.out bl)
           clear B_5
           have Oc_6 := Lib.hid (Oc_5.out.kept bl)
           clear Oc_5
           clear bl
           obtain ⟨d0, d1, d2, d3, d4, d5, d6, d7, d8, Hdc⟩ := cells5 rd
           have Cd := Lib.hid Hdc
           have Ed := Lib.hid ht
           rw [Hdc]
           have Od_6 := Lib.hid ho
           clear Hdc ht ho
           obtain ⟨pK00, pK01, pK02, pK03, pK04, pK05⟩ := tbt5 K0_6.out
           obtain ⟨pK10, pK11, pK12, pK13, pK14, pK15⟩ := tbt5 K1_6.out)
        | (go_at_call 8
           have hc := t_sSameTraining rc rd _ Oc_6.out.at Od_6.out.at
           rw [Cc.out, Cd.out, vSame_of Ec.out Ed.out, HS.out] at hc
           refine hc.mono ?_
           rintro e w7 ⟨rfl, bl⟩
           have K0_7 := Lib.hid (K0_6.out.below bl)
           clear K0_6
           have K1_7 := Lib.hid (K1_6.out.below bl)
           clear K1_6
           have B_7 := Lib.hid (Below.next B_6.out bl)
           clear B_6
           have Oc_7 := Lib.hid (Oc_6.out.kept bl)
           clear Oc_6
           have Od_7 := Lib.hid (Od_6.out.kept bl)
           clear Od_6
           clear bl hc
           obtain ⟨pK00, pK01, pK02, pK03, pK04, pK05⟩ := tbt5 K0_7.out
           obtain ⟨pK10, pK11, pK12, pK13, pK14, pK15⟩ := tbt5 K1_7.out))
    clear pK00 pK01 pK02 pK03 pK04 pK05
    clear pK10 pK11 pK12 pK13 pK14 pK15
    clear Oc_7 Od_7
    obtain ⟨pK00, pK01, pK02, pK03, pK04, pK05⟩ := tbt5 K0_7.out
    go_wp2_with fail
    clear pK00 pK01 pK02 pK03 pK04 pK05
    refine (HA.out _ B_7.out).mono ?_
    rintro e w8 ⟨rx, rfl, ht, ho, bl⟩
    have K0_8 := Lib.hid (K0_7.out.below bl)
    clear K0_7
    have K1_8 := Lib.hid (K1_7.out.below bl)
    clear K1_7
    have B_8 := Lib.hid (Below.next B_7.out bl)
    clear B_7
    clear bl
    obtain ⟨x0, x1, x2, x3, x4, x5, x6, x7, x8, Hxc⟩ := cells5 rx
    have Cx := Lib.hid Hxc
    have Ex := Lib.hid ht
    rw [Hxc]
    have Ox_8 := Lib.hid ho
    clear Hxc ht ho
    obtain ⟨pK10, pK11, pK12, pK13, pK14, pK15⟩ := tbt5 K1_8.out
    go_wp2_with fail
    clear pK10 pK11 pK12 pK13 pK14 pK15
    have bl := (Below.refl w8.heap.size w8).alloc (Nat.le_refl _) (.cells #[.slice x0 x1 x2, .slice x3 x4 x5, .int .i64 x6, .int .i64 x7, .float .f32 x8] 35)
    have KX_9 := Lib.hid (Blk.new w8 35 #[.slice x0 x1 x2, .slice x3 x4 x5, .int .i64 x6, .int .i64 x7, .float .f32 x8])
    have K0_9 := Lib.hid (K0_8.out.below bl)
    clear K0_8
    have K1_9 := Lib.hid (K1_8.out.below bl)
    clear K1_8
    have B_9 := Lib.hid (Below.next B_8.out bl)
    clear B_8
    have Ox_9 := Lib.hid (Ox_8.out.kept bl)
    clear Ox_8
    clear bl
    generalize w8.alloc (.cells #[.slice x0 x1 x2, .slice x3 x4 x5, .int .i64 x6, .int .i64 x7, .float .f32 x8] 35) = w9 at K0_9 K1_9 B_9 Ox_9 KX_9 ⊢
    refine (HB.out _ B_9.out).mono ?_
    rintro e w10 ⟨ry, rfl, ht, ho, bl⟩
    have K0_10 := Lib.hid (K0_9.out.below bl)
    clear K0_9
    have K1_10 := Lib.hid (K1_9.out.below bl)
    clear K1_9
    have B_10 := Lib.hid (Below.next B_9.out bl)
    clear B_9
    have Ox_10 := Lib.hid (Ox_9.out.kept bl)
    clear Ox_9
    have KX_10 := Lib.hid (KX_9.out.below bl)
    clear KX_9
    clear bl
    obtain ⟨y0, y1, y2, y3, y4, y5, y6, y7, y8, Hyc⟩ := cells5 ry
    have Cy := Lib.hid Hyc
    have Ey := Lib.hid ht
    rw [Hyc]
    have Oy_10 := Lib.hid ho
    clear Hyc ht ho
    obtain ⟨pKX0, pKX1, pKX2, pKX3, pKX4, pKX5⟩ := tbt5 KX_10.out
    go_wp2_with fail
    clear pKX0 pKX1 pKX2 pKX3 pKX4 pKX5
    have bl := (Below.refl w10.heap.size w10).alloc (Nat.le_refl _) (.cells #[.slice y0 y1 y2, .slice y3 y4 y5, .int .i64 y6, .int .i64 y7, .float .f32 y8] 35)
    have KY_11 := Lib.hid (Blk.new w10 35 #[.slice y0 y1 y2, .slice y3 y4 y5, .int .i64 y6, .int .i64 y7, .float .f32 y8])
    have K0_11 := Lib.hid (K0_10.out.below bl)
    clear K0_10
    have K1_11 := Lib.hid (K1_10.out.below bl)
    clear K1_10
    have B_11 := Lib.hid (Below.next B_10.out bl)
    clear B_10
    have Ox_11 := Lib.hid (Ox_10.out.kept bl)
    clear Ox_10
    have KX_11 := Lib.hid (KX_10.out.below bl)
    clear KX_10
    have Oy_11 := Lib.hid (Oy_10.out.kept bl)
    clear Oy_10
    clear bl
    generalize w10.alloc (.cells #[.slice y0 y1 y2, .slice y3 y4 y5, .int .i64 y6, .int .i64 y7, .float .f32 y8] 35) = w11 at K0_11 K1_11 B_11 Ox_11 KX_11 Oy_11 KY_11 ⊢
    have hc := t_iSameTraining rx ry w11 Ox_11.out.at Oy_11.out.at
    rw [Cx.out, Cy.out, vSame_of Ex.out Ey.out, HS.out] at hc
    refine hc.mono ?_
    rintro e w12 ⟨rfl, bl⟩
    clear hc
    have K0_12 := Lib.hid (K0_11.out.below bl)
    clear K0_11
    have K1_12 := Lib.hid (K1_11.out.below bl)
    clear K1_11
    have B_12 := Lib.hid (Below.next B_11.out bl)
    clear B_11
    have Ox_12 := Lib.hid (Ox_11.out.kept bl)
    clear Ox_11
    have KX_12 := Lib.hid (KX_11.out.below bl)
    clear KX_11
    have Oy_12 := Lib.hid (Oy_11.out.kept bl)
    clear Oy_11
    have KY_12 := Lib.hid (KY_11.out.below bl)
    clear KY_11
    clear bl
    obtain ⟨pKX0, pKX1, pKX2, pKX3, pKX4, pKX5⟩ := tbt5 KX_12.out
    obtain ⟨pK00, pK01, pK02, pK03, pK04, pK05⟩ := tbt5 K0_12.out
    go_wp2_with fail
    clear pKX0 pKX1 pKX2 pKX3 pKX4 pKX5
    clear pK00 pK01 pK02 pK03 pK04 pK05
    have bl : Below w12.heap.size w12 w12.drew := (Below.refl _ _).drew
    have K0_13 := Lib.hid (K0_12.out.below bl)
    clear K0_12
    have K1_13 := Lib.hid (K1_12.out.below bl)
    clear K1_12
    have B_13 := Lib.hid (Below.next B_12.out bl)
    clear B_12
    have Ox_13 := Lib.hid (Ox_12.out.kept bl)
    clear Ox_12
    have KX_13 := Lib.hid (KX_12.out.below bl)
    clear KX_12
    have Oy_13 := Lib.hid (Oy_12.out.kept bl)
    clear Oy_12
    have KY_13 := Lib.hid (KY_12.out.below bl)
    clear KY_12
    clear bl
    obtain ⟨pKX0, pKX1, pKX2, pKX3, pKX4, pKX5⟩ := tbt5 KX_13.out
    obtain ⟨pK00, pK01, pK02, pK03, pK04, pK05⟩ := tbt5 K0_13.out
    go_region_held3 (fun w' => w'.cell? ⟨w8.heap.size, 0, none⟩ = some (.slice x0 x1 x2) ∧ w'.cell? ⟨w8.heap.size, 1, none⟩ = some (.slice x3 x4 x5) ∧ w'.cell? ⟨w8.heap.size, 2, none⟩ = some (.int .i64 x6) ∧ w'.cell? ⟨w8.heap.size, 3, none⟩ = some (.int .i64 x7) ∧ w'.cell? ⟨w8.heap.size, 4, none⟩ = some (.float .f32 x8) ∧ w'.cell? ⟨w.heap.size, 0, none⟩ = some (.slice a0 a1 a2) ∧ w'.cell? ⟨w.heap.size, 1, none⟩ = some (.slice a3 a4 a5) ∧ w'.cell? ⟨w.heap.size, 2, none⟩ = some (.int .i64 a6) ∧ w'.cell? ⟨w.heap.size, 3, none⟩ = some (.int .i64 a7) ∧ w'.cell? ⟨w.heap.size, 4, none⟩ = some (.float .f32 a8)) (go_keep)
      (first
        | (go_at_call 9
           refine (HA.out _ B_13.out).mono ?_
           rintro e w14 ⟨rxz, rfl, ht, ho, bl⟩
           have K0_14 := Lib.hid (K0_13.out.below bl)
           clear K0_13
           have K1_14 := Lib.hid (K1_13.out.below bl)
           clear K1_13
           have B_14 := Lib.hid (Below.next B_13.out bl)
           clear B_13
           have Ox_14 := Lib.hid (Ox_13.out.kept bl)
           clear Ox_13
           have KX_14 := Lib.hid (KX_13.out.below bl)
           clear KX_13
           have Oy_14 := Lib.hid (Oy_13.out.kept bl)
           clear Oy_13
           have KY_14 := Lib.hid (KY_13.out.below bl)
           clear KY_13
           clear bl
           obtain ⟨xz0, xz1, xz2, xz3, xz4, xz5, xz6, xz7, xz8, Hxzc⟩ := cells5 rxz
           have Cxz := Lib.hid Hxzc
           have Exz := Lib.hid ht
           rw [Hxzc]
           have Oxz_14 := Lib.hid ho
           clear Hxzc ht ho
           obtain ⟨pKX0, pKX1, pKX2, pKX3, pKX4, pKX5⟩ := tbt5 KX_14.out
           obtain ⟨pK00, pK01, pK02, pK03, pK04, pK05⟩ := tbt5 K0_14.out)
        | (go_at_call 11
           have hc := c_eqTrs' rx rxz _ Ox_14.out.at Oxz_14.out.at (Ex.out.trans Exz.out.symm)
           rw [Cx.out, Cxz.out] at hc
           refine hc.mono ?_
           rintro e w15 ⟨rfl, bl⟩
           have K0_15 := Lib.hid (K0_14.out.below bl)
           clear K0_14
           have K1_15 := Lib.hid (K1_14.out.below bl)
           clear K1_14
           have B_15 := Lib.hid (Below.next B_14.out bl)
           clear B_14
           have Ox_15 := Lib.hid (Ox_14.out.kept bl)
           clear Ox_14
           have KX_15 := Lib.hid (KX_14.out.below bl)
           clear KX_14
           have Oy_15 := Lib.hid (Oy_14.out.kept bl)
           clear Oy_14
           have KY_15 := Lib.hid (KY_14.out.below bl)
           clear KY_14
           have Oxz_15 := Lib.hid (Oxz_14.out.kept bl)
           clear Oxz_14
           clear bl hc
           obtain ⟨pKX0, pKX1, pKX2, pKX3, pKX4, pKX5⟩ := tbt5 KX_15.out
           obtain ⟨pK00, pK01, pK02, pK03, pK04, pK05⟩ := tbt5 K0_15.out))
    clear pKX0 pKX1 pKX2 pKX3 pKX4 pKX5
    clear pK00 pK01 pK02 pK03 pK04 pK05
    clear Oxz_15
    obtain ⟨pKY0, pKY1, pKY2, pKY3, pKY4, pKY5⟩ := tbt5 KY_15.out
    obtain ⟨pK10, pK11, pK12, pK13, pK14, pK15⟩ := tbt5 K1_15.out
    go_wp2_with fail
    clear pKY0 pKY1 pKY2 pKY3 pKY4 pKY5
    clear pK10 pK11 pK12 pK13 pK14 pK15
    have bl : Below w15.heap.size w15 w15.drew := (Below.refl _ _).drew
    have K0_16 := Lib.hid (K0_15.out.below bl)
    clear K0_15
    have K1_16 := Lib.hid (K1_15.out.below bl)
    clear K1_15
    have B_16 := Lib.hid (Below.next B_15.out bl)
    clear B_15
    have Ox_16 := Lib.hid (Ox_15.out.kept bl)
    clear Ox_15
    have KX_16 := Lib.hid (KX_15.out.below bl)
    clear KX_15
    have Oy_16 := Lib.hid (Oy_15.out.kept bl)
    clear Oy_15
    have KY_16 := Lib.hid (KY_15.out.below bl)
    clear KY_15
    clear bl
    obtain ⟨pKY0, pKY1, pKY2, pKY3, pKY4, pKY5⟩ := tbt5 KY_16.out
    obtain ⟨pK10, pK11, pK12, pK13, pK14, pK15⟩ := tbt5 K1_16.out
    go_region_held3 (fun w' => w'.cell? ⟨w10.heap.size, 0, none⟩ = some (.slice y0 y1 y2) ∧ w'.cell? ⟨w10.heap.size, 1, none⟩ = some (.slice y3 y4 y5) ∧ w'.cell? ⟨w10.heap.size, 2, none⟩ = some (.int .i64 y6) ∧ w'.cell? ⟨w10.heap.size, 3, none⟩ = some (.int .i64 y7) ∧ w'.cell? ⟨w10.heap.size, 4, none⟩ = some (.float .f32 y8) ∧ w'.cell? ⟨(w.heap.size + 1), 0, none⟩ = some (.slice b0 b1 b2) ∧ w'.cell? ⟨(w.heap.size + 1), 1, none⟩ = some (.slice b3 b4 b5) ∧ w'.cell? ⟨(w.heap.size + 1), 2, none⟩ = some (.int .i64 b6) ∧ w'.cell? ⟨(w.heap.size + 1), 3, none⟩ = some (.int .i64 b7) ∧ w'.cell? ⟨(w.heap.size + 1), 4, none⟩ = some (.float .f32 b8)) (go_keep)
      (first
        | (go_at_call 9
           refine (HB.out _ B_16.out).mono ?_
           rintro e w17 ⟨ryz, rfl, ht, ho, bl⟩
           have K0_17 := Lib.hid (K0_16.out.below bl)
           clear K0_16
           have K1_17 := Lib.hid (K1_16.out.below bl)
           clear K1_16
           have B_17 := Lib.hid (Below.next B_16.out bl)
           clear B_16
           have Ox_17 := Lib.hid (Ox_16.out.kept bl)
           clear Ox_16
           have KX_17 := Lib.hid (KX_16.out.below bl)
           clear KX_16
           have Oy_17 := Lib.hid (Oy_16.out.kept bl)
           clear Oy_16
           have KY_17 := Lib.hid (KY_16.out.below bl)
           clear KY_16
           clear bl
           obtain ⟨yz0, yz1, yz2, yz3, yz4, yz5, yz6, yz7, yz8, Hyzc⟩ := cells5 ryz
           have Cyz := Lib.hid Hyzc
           have Eyz := Lib.hid ht
           rw [Hyzc]
           have Oyz_17 := Lib.hid ho
           clear Hyzc ht ho
           obtain ⟨pKY0, pKY1, pKY2, pKY3, pKY4, pKY5⟩ := tbt5 KY_17.out
           obtain ⟨pK10, pK11, pK12, pK13, pK14, pK15⟩ := tbt5 K1_17.out)
        | (go_at_call 11
           have hc := c_eqTrs' ry ryz _ Oy_17.out.at Oyz_17.out.at (Ey.out.trans Eyz.out.symm)
           rw [Cy.out, Cyz.out] at hc
           refine hc.mono ?_
           rintro e w18 ⟨rfl, bl⟩
           have K0_18 := Lib.hid (K0_17.out.below bl)
           clear K0_17
           have K1_18 := Lib.hid (K1_17.out.below bl)
           clear K1_17
           have B_18 := Lib.hid (Below.next B_17.out bl)
           clear B_17
           have Ox_18 := Lib.hid (Ox_17.out.kept bl)
           clear Ox_17
           have KX_18 := Lib.hid (KX_17.out.below bl)
           clear KX_17
           have Oy_18 := Lib.hid (Oy_17.out.kept bl)
           clear Oy_17
           have KY_18 := Lib.hid (KY_17.out.below bl)
           clear KY_17
           have Oyz_18 := Lib.hid (Oyz_17.out.kept bl)
           clear Oyz_17
           clear bl hc
           obtain ⟨pKY0, pKY1, pKY2, pKY3, pKY4, pKY5⟩ := tbt5 KY_18.out
           obtain ⟨pK10, pK11, pK12, pK13, pK14, pK15⟩ := tbt5 K1_18.out))
    clear pKY0 pKY1 pKY2 pKY3 pKY4 pKY5
    clear pK10 pK11 pK12 pK13 pK14 pK15
    clear Oyz_18
    go_wp2_with fail
    go_ret
    exact ⟨rfl, B_18.out⟩

/-! the row's step -/
set_option maxRecDepth 100000 in
theorem lifted (os : Os) (started : os.Started) (H : Type) (enc : TypeId × Value → H) :
    ReturnsInHanded {} Try.checked os 3 .any (Rows.fnExactSameTrainingSpec.pre6 enc Try.prog Try.f3 Rows.fnExactSameTrainingRow.domain false) (Rows.fnExactSameTrainingSpec.post enc Try.prog Try.f3 false true false false) := by
  refine returnsInHanded_of_change (C := Try.checked) own started (by kernel_rfl) Try.func3
    (ChangeSpec.witness6 (enc := enc) (C := Try.checked) false ⟨#[], #[.agg #[.slice none 0 0, .slice none 0 0, .int .i64 0, .int .i64 0, .float .f32 0], .agg #[.slice none 0 0, .slice none 0 0, .int .i64 0, .int .i64 0, .float .f32 0]], []⟩ 8 (by kernel_rfl) (by kernel_rfl) (by kernel_rfl) (by kernel_rfl)) ?_
  intro W base args ds gs before hval0 hW hcnd _
  have hval : ∀ (j : Nat) t v, Try.f3.params[j]? = some t → args[j]? = some v → Value.okWide Try.prog W .any base t v := hval0
  have hW' := hW
  obtain ⟨p, q, hA0, hV, rfl, hfz, hnd⟩ := hW
  have hA : DataW.TrodAll enc Try.prog W 0 (fun _ => true) true Try.f3.params.toList args.toList ds p := hA0
  rw [Try.params3] at hA hval
  obtain ⟨v0, vs0, d0, ds0, p0, q0, hargs, rfl, rfl, h0, rest0⟩ := trodAll_cons hA
  obtain ⟨v1, vs1, d1, ds1, p1, q1, rfl, rfl, rfl, h1, rest1⟩ := trodAll_cons rest0
  obtain ⟨rfl, rfl, rfl⟩ := trodAll_nil rest1
  obtain rfl : args = #[v0, v1] := by cases args; simp_all
  obtain ⟨rfl, rfl⟩ := trodVars_none hV
  have k0 := h0
  have lt0 : ∀ x ∈ p0, x.block < W.heap.size := by obtain ⟨m, hm⟩ := k0; exact DataW.trod_lt m _ _ _ hm
  have w0 := open_Trs (hval 0 28 v0 rfl rfl) h0
  have k1 := h1
  have lt1 : ∀ x ∈ p1, x.block < W.heap.size := by obtain ⟨m, hm⟩ := k1; exact DataW.trod_lt m _ _ _ hm
  have w1 := open_Trs (hval 1 28 v1 rfl rfl) h1
  clear hA0 hval0
  refine (walk _ _ W w0 w1).mono fun e W' ⟨he, bel⟩ => ?_
  subst he
  exact ⟨_, rfl, _, _, _, [], _, [], hW', trodAll_mk1 (shut_bool Try.underlying4 _), (trodAll_cons_mk (Below.trod laidOut (by kernel_rfl) (of_decide_eq_true (by kernel_rfl)) k0 bel lt0) (trodAll_cons_mk (Below.trod laidOut (by kernel_rfl) (of_decide_eq_true (by kernel_rfl)) k1 bel lt1) trodAll_mk0)), rfl, bel.frame _, fun h => by cases h⟩

theorem over : Rows.fnExactSameTrainingRow.holds Try.pinned (OpenSpec.ofChange Rows.fnExactSameTrainingSpec) :=
  OpenClaim.holds_of_wide 3 Try.f3 rfl rfl rfl rfl rfl rfl rfl ⟨rfl, rfl, rfl, rfl, rfl⟩ rfl rfl rfl rfl rfl (by kernel_rfl) Try.func3 (by kernel_rfl)
    (of_decide_eq_true (by kernel_rfl)) (by unfold Func.isWrapper; first | (rw [if_pos (by decide +kernel)]; kernel_rfl) | (rw [if_neg (by decide +kernel)]; exact ⟨rfl, rfl⟩))
    (fun os started H enc _ => lifted os started H enc)

/-- the statement -/
theorem proved : Rows.FnExactSameTrainingSaid := over
end Go.Proofs.Ytlddonneccihiaa.fnExactSameTraining
