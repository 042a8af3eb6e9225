/-
  ValidTraining answers as its model says, for all optimisers and states, and changes none of them. Conditions: none.
-/
import Derived.Test.YthklfkfhhdglcaaVtu
import Derived.ChangeOld
import Derived.Below
namespace Go.Proofs.Ythklfkfhhdglcaa.fnExactValidTraining
open Go.ChangeShapes Go.WideShapes Go.ChangeAt Go.RowKit
open Go.ChangeMaps (open_string shut_string)
set_option linter.unusedVariables false

set_option maxRecDepth 20000 in
set_option maxHeartbeats 4000000 in
theorem walk (v0 : Value) (v1 : Value) (w : World) (w0 : ∃ (k : Int) (r b1 b2 ep : Nat), v0 = optV k r b1 b2 ep ∧ (Lit.int .i64 k).wf = true ∧ r < 2 ^ 32 ∧ b1 < 2 ^ 32 ∧ b2 < 2 ^ 32 ∧ ep < 2 ^ 32) (w1 : ∃ q : TrsA, v1 = .agg q.cells ∧ TrsAt w q) :
    Calls Try.prog 11 #[v0, v1] w fun e w' => e = .returned (.bool true) ∧ Below w.heap.size w w' := by
  obtain ⟨k, r, b1, b2, ep, rfl, hk, _, _, _, _⟩ := w0
  obtain ⟨q, rfl, hq⟩ := w1
  obtain ⟨a0, a1, a2, a3, a4, a5, a6, a7, a8, ha⟩ := cells5 q
  rw [ha]
  have HQ := Lib.hid hq
  have CA := Lib.hid ha
  have HO := Lib.hid (fun w => c_toOpt k r b1 b2 ep w)
  unfold optV at HO ⊢
  have k1 := (Blk.new w 64 #[.int .i64 k, .float .f32 r, .float .f32 b1, .float .f32 b2, .float .f32 ep]).below ((Below.refl _ _).alloc (Nat.le_refl _) (.cells #[.slice a0 a1 a2, .slice a3 a4 a5, .int .i64 a6, .int .i64 a7, .float .f32 a8] 83))
  have k2 := Blk.new (w.alloc (.cells #[.int .i64 k, .float .f32 r, .float .f32 b1, .float .f32 b2, .float .f32 ep] 64)) 83 #[.slice a0 a1 a2, .slice a3 a4 a5, .int .i64 a6, .int .i64 a7, .float .f32 a8]
  simp only [World.size_alloc] at k2
  have KO_0 := Lib.hid k1
  have K1_0 := Lib.hid k2
  have B_0 := Lib.hid (((Below.refl w.heap.size w).alloc (Nat.le_refl _) (.cells #[.int .i64 k, .float .f32 r, .float .f32 b1, .float .f32 b2, .float .f32 ep] 64)).alloc (by simp) (.cells #[.slice a0 a1 a2, .slice a3 a4 a5, .int .i64 a6, .int .i64 a7, .float .f32 a8] 83))
  clear hq k1 k2
  by_cases hL : trsSum q ≤ 1048576
  case neg =>
    have HN := Lib.hid (fun w1 (hb : Below w.heap.size w w1) => c_szTrs_no q 1048576 w1 (HQ.out.kept hb) (Nat.le_refl _) (by omega))
    rw [ha] at HN
    clear hL ha
    go_enter Try.func11, Try.ntmps11
    go_wp2_with fail
    generalize (w.alloc (.cells #[.int .i64 k, .float .f32 r, .float .f32 b1, .float .f32 b2, .float .f32 ep] 64)).alloc (.cells #[.slice a0 a1 a2, .slice a3 a4 a5, .int .i64 a6, .int .i64 a7, .float .f32 a8] 83) = w1 at KO_0 K1_0 B_0 ⊢
    refine (HN.out _ B_0.out).mono ?_
    rintro e w2 ⟨rfl, hb⟩
    have B2 := Lib.hid (Below.next B_0.out hb)
    clear hb
    go_wp2_with fail
    go_ret
    exact ⟨rfl, B2.out⟩
  case pos =>
    obtain ⟨l, hl⟩ : ∃ l, 1048576 - trsSum q = l := ⟨_, rfl⟩
    have hl0 : (0 : Int) ≤ (l : Int) := by omega
    have HZ := Lib.hid (fun w1 (hb : Below w.heap.size w w1) => c_szTrs q 1048576 l w1 (HQ.out.kept hb) (Nat.le_refl _) hL hl)
    have HA := Lib.hid (fun w1 (hb : Below w.heap.size w w1) => c_toTrs' q w1 (HQ.out.kept hb) hL)
    rw [ha] at HZ HA
    obtain ⟨s, hs⟩ : ∃ s, vTrs k q = s := ⟨_, rfl⟩
    have HS := Lib.hid hs
    have TS := Lib.hid (fun rr w h => t_sValidTraining k r b1 b2 ep rr w h)
    have TI := Lib.hid (fun rr w h => t_iValidTraining k r b1 b2 ep rr w h hk)
    unfold optV at TS TI
    clear hL hl ha hs hk
    go_enter Try.func11, Try.ntmps11
    go_wp2_with fail
    generalize (w.alloc (.cells #[.int .i64 k, .float .f32 r, .float .f32 b1, .float .f32 b2, .float .f32 ep] 64)).alloc (.cells #[.slice a0 a1 a2, .slice a3 a4 a5, .int .i64 a6, .int .i64 a7, .float .f32 a8] 83) = w1 at KO_0 K1_0 B_0 ⊢
    refine (HZ.out _ B_0.out).mono ?_
    rintro e w2 ⟨rfl, bl⟩
    have KO_2 := Lib.hid (KO_0.out.below bl)
    clear KO_0
    have K1_2 := Lib.hid (K1_0.out.below bl)
    clear K1_0
    have B_2 := Lib.hid (Below.next B_0.out bl)
    clear B_0
    clear bl
    obtain ⟨pO0, pO1, pO2, pO3, pO4, pO5⟩ := tbo5 KO_2.out
    obtain ⟨pK10, pK11, pK12, pK13, pK14, pK15⟩ := tbt5 K1_2.out
    go_wp2_with fail
    clear pK10 pK11 pK12 pK13 pK14 pK15
    clear pO0 pO1 pO2 pO3 pO4 pO5
    have bl : Below w2.heap.size w2 w2.drew := (Below.refl _ _).drew
    have KO_3 := Lib.hid (KO_2.out.below bl)
    clear KO_2
    have K1_3 := Lib.hid (K1_2.out.below bl)
    clear K1_2
    have B_3 := Lib.hid (Below.next B_2.out bl)
    clear B_2
    clear bl
    obtain ⟨pO0, pO1, pO2, pO3, pO4, pO5⟩ := tbo5 KO_3.out
    obtain ⟨pK10, pK11, pK12, pK13, pK14, pK15⟩ := tbt5 K1_3.out
    go_region_held3 (fun w' => w'.cell? ⟨w.heap.size, 0, none⟩ = some (.int .i64 k) ∧ w'.cell? ⟨w.heap.size, 1, none⟩ = some (.float .f32 r) ∧ w'.cell? ⟨w.heap.size, 2, none⟩ = some (.float .f32 b1) ∧ w'.cell? ⟨w.heap.size, 3, none⟩ = some (.float .f32 b2) ∧ w'.cell? ⟨w.heap.size, 4, none⟩ = some (.float .f32 ep) ∧ w'.cell? ⟨(w.heap.size + 1), 0, none⟩ = some (.slice a0 a1 a2) ∧ w'.cell? ⟨(w.heap.size + 1), 1, none⟩ = some (.slice a3 a4 a5) ∧ w'.cell? ⟨(w.heap.size + 1), 2, none⟩ = some (.int .i64 a6) ∧ w'.cell? ⟨(w.heap.size + 1), 3, none⟩ = some (.int .i64 a7) ∧ w'.cell? ⟨(w.heap.size + 1), 4, none⟩ = some (.float .f32 a8)) (go_keep)
      (first
        | (go_at_call 43
           refine (HO.out _).mono ?_
           rintro e w4 ⟨rfl, bl⟩
           have KO_4 := Lib.hid (KO_3.out.below bl)
           clear KO_3
           have K1_4 := Lib.hid (K1_3.out.below bl)
           clear K1_3
           have B_4 := Lib.hid (Below.next B_3.out bl)
           clear B_3
           clear bl
           obtain ⟨pO0, pO1, pO2, pO3, pO4, pO5⟩ := tbo5 KO_4.out
           obtain ⟨pK10, pK11, pK12, pK13, pK14, pK15⟩ := tbt5 K1_4.out)
        | (go_at_call 52
           refine (HA.out _ B_4.out).mono ?_
           rintro e w5 ⟨rc, rfl, ht, ho, bl⟩
           have KO_5 := Lib.hid (KO_4.out.below bl)
           clear KO_4
           have K1_5 := Lib.hid (K1_4.out.below bl)
           clear K1_4
           have B_5 := Lib.hid (Below.next B_4.out bl)
           clear B_4
           clear bl
           obtain ⟨c0, c1, c2, c3, c4, c5, c6, c7, c8, Hcc⟩ := cells5 rc
           have Cc := Lib.hid Hcc
           have Ec := Lib.hid ht
           rw [Hcc]
           have Oc_5 := Lib.hid ho
           clear Hcc ht ho
           obtain ⟨pO0, pO1, pO2, pO3, pO4, pO5⟩ := tbo5 KO_5.out
           obtain ⟨pK10, pK11, pK12, pK13, pK14, pK15⟩ := tbt5 K1_5.out)
        | (go_at_call 51
           have hc := TS.out rc _ Oc_5.out.at
           rw [Cc.out, vTrs_of k Ec.out, HS.out] at hc
           refine hc.mono ?_
           rintro e w6 ⟨rfl, bl⟩
           have KO_6 := Lib.hid (KO_5.out.below bl)
           clear KO_5
           have K1_6 := Lib.hid (K1_5.out.below bl)
           clear K1_5
           have B_6 := Lib.hid (Below.next B_5.out bl)
           clear B_5
           have Oc_6 := Lib.hid (Oc_5.out.kept bl)
           clear Oc_5
           clear bl hc
           obtain ⟨pO0, pO1, pO2, pO3, pO4, pO5⟩ := tbo5 KO_6.out
           obtain ⟨pK10, pK11, pK12, pK13, pK14, pK15⟩ := tbt5 K1_6.out))
    clear pK10 pK11 pK12 pK13 pK14 pK15
    clear pO0 pO1 pO2 pO3 pO4 pO5
    clear Oc_6
    obtain ⟨pK10, pK11, pK12, pK13, pK14, pK15⟩ := tbt5 K1_6.out
    go_wp2_with fail
    clear pK10 pK11 pK12 pK13 pK14 pK15
    refine (HA.out _ B_6.out).mono ?_
    rintro e w7 ⟨rx, rfl, ht, ho, bl⟩
    have KO_7 := Lib.hid (KO_6.out.below bl)
    clear KO_6
    have K1_7 := Lib.hid (K1_6.out.below bl)
    clear K1_6
    have B_7 := Lib.hid (Below.next B_6.out bl)
    clear B_6
    clear bl
    obtain ⟨x0, x1, x2, x3, x4, x5, x6, x7, x8, Hxc⟩ := cells5 rx
    have Cx := Lib.hid Hxc
    have Ex := Lib.hid ht
    rw [Hxc]
    have Ox_7 := Lib.hid ho
    clear Hxc ht ho
    obtain ⟨pO0, pO1, pO2, pO3, pO4, pO5⟩ := tbo5 KO_7.out
    go_wp2_with fail
    clear pO0 pO1 pO2 pO3 pO4 pO5
    have bl := (Below.refl w7.heap.size w7).alloc (Nat.le_refl _) (.cells #[.slice x0 x1 x2, .slice x3 x4 x5, .int .i64 x6, .int .i64 x7, .float .f32 x8] 71)
    have KX_8 := Lib.hid (Blk.new w7 71 #[.slice x0 x1 x2, .slice x3 x4 x5, .int .i64 x6, .int .i64 x7, .float .f32 x8])
    have KO_8 := Lib.hid (KO_7.out.below bl)
    clear KO_7
    have K1_8 := Lib.hid (K1_7.out.below bl)
    clear K1_7
    have B_8 := Lib.hid (Below.next B_7.out bl)
    clear B_7
    have Ox_8 := Lib.hid (Ox_7.out.kept bl)
    clear Ox_7
    clear bl
    generalize w7.alloc (.cells #[.slice x0 x1 x2, .slice x3 x4 x5, .int .i64 x6, .int .i64 x7, .float .f32 x8] 71) = w8 at KO_8 K1_8 B_8 Ox_8 KX_8 ⊢
    have bl : Below w8.heap.size w8 w8.drew := (Below.refl _ _).drew
    have KO_9 := Lib.hid (KO_8.out.below bl)
    clear KO_8
    have K1_9 := Lib.hid (K1_8.out.below bl)
    clear K1_8
    have B_9 := Lib.hid (Below.next B_8.out bl)
    clear B_8
    have Ox_9 := Lib.hid (Ox_8.out.kept bl)
    clear Ox_8
    have KX_9 := Lib.hid (KX_8.out.below bl)
    clear KX_8
    clear bl
    obtain ⟨pO0, pO1, pO2, pO3, pO4, pO5⟩ := tbo5 KO_9.out
    obtain ⟨pKX0, pKX1, pKX2, pKX3, pKX4, pKX5⟩ := tbt5 KX_9.out
    go_region_held3 (fun w' => w'.cell? ⟨w.heap.size, 0, none⟩ = some (.int .i64 k) ∧ w'.cell? ⟨w.heap.size, 1, none⟩ = some (.float .f32 r) ∧ w'.cell? ⟨w.heap.size, 2, none⟩ = some (.float .f32 b1) ∧ w'.cell? ⟨w.heap.size, 3, none⟩ = some (.float .f32 b2) ∧ w'.cell? ⟨w.heap.size, 4, none⟩ = some (.float .f32 ep) ∧ w'.cell? ⟨w7.heap.size, 0, none⟩ = some (.slice x0 x1 x2) ∧ w'.cell? ⟨w7.heap.size, 1, none⟩ = some (.slice x3 x4 x5) ∧ w'.cell? ⟨w7.heap.size, 2, none⟩ = some (.int .i64 x6) ∧ w'.cell? ⟨w7.heap.size, 3, none⟩ = some (.int .i64 x7) ∧ w'.cell? ⟨w7.heap.size, 4, none⟩ = some (.float .f32 x8)) (go_keep)
      (first
        | (go_at_call 43
           refine (HO.out _).mono ?_
           rintro e w10 ⟨rfl, bl⟩
           have KO_10 := Lib.hid (KO_9.out.below bl)
           clear KO_9
           have K1_10 := Lib.hid (K1_9.out.below bl)
           clear K1_9
           have B_10 := Lib.hid (Below.next B_9.out bl)
           clear B_9
           have Ox_10 := Lib.hid (Ox_9.out.kept bl)
           clear Ox_9
           have KX_10 := Lib.hid (KX_9.out.below bl)
           clear KX_9
           clear bl
           obtain ⟨pO0, pO1, pO2, pO3, pO4, pO5⟩ := tbo5 KO_10.out
           obtain ⟨pKX0, pKX1, pKX2, pKX3, pKX4, pKX5⟩ := tbt5 KX_10.out)
        | (go_at_call 53
           have hc := TI.out rx _ Ox_10.out.at
           rw [Cx.out, vTrs_of k Ex.out, HS.out] at hc
           refine hc.mono ?_
           rintro e w11 ⟨rfl, bl⟩
           have KO_11 := Lib.hid (KO_10.out.below bl)
           clear KO_10
           have K1_11 := Lib.hid (K1_10.out.below bl)
           clear K1_10
           have B_11 := Lib.hid (Below.next B_10.out bl)
           clear B_10
           have Ox_11 := Lib.hid (Ox_10.out.kept bl)
           clear Ox_10
           have KX_11 := Lib.hid (KX_10.out.below bl)
           clear KX_10
           clear bl hc
           obtain ⟨pO0, pO1, pO2, pO3, pO4, pO5⟩ := tbo5 KO_11.out
           obtain ⟨pKX0, pKX1, pKX2, pKX3, pKX4, pKX5⟩ := tbt5 KX_11.out))
    clear pKX0 pKX1 pKX2 pKX3 pKX4 pKX5
    clear pO0 pO1 pO2 pO3 pO4 pO5
    obtain ⟨pKX0, pKX1, pKX2, pKX3, pKX4, pKX5⟩ := tbt5 KX_11.out
    obtain ⟨pK10, pK11, pK12, pK13, pK14, pK15⟩ := tbt5 K1_11.out
    go_wp2_with fail
    clear pKX0 pKX1 pKX2 pKX3 pKX4 pKX5
    clear pK10 pK11 pK12 pK13 pK14 pK15
    have bl : Below w11.heap.size w11 w11.drew := (Below.refl _ _).drew
    have KO_12 := Lib.hid (KO_11.out.below bl)
    clear KO_11
    have K1_12 := Lib.hid (K1_11.out.below bl)
    clear K1_11
    have B_12 := Lib.hid (Below.next B_11.out bl)
    clear B_11
    have Ox_12 := Lib.hid (Ox_11.out.kept bl)
    clear Ox_11
    have KX_12 := Lib.hid (KX_11.out.below bl)
    clear KX_11
    clear bl
    obtain ⟨pKX0, pKX1, pKX2, pKX3, pKX4, pKX5⟩ := tbt5 KX_12.out
    obtain ⟨pK10, pK11, pK12, pK13, pK14, pK15⟩ := tbt5 K1_12.out
    go_region_held3 (fun w' => w'.cell? ⟨w7.heap.size, 0, none⟩ = some (.slice x0 x1 x2) ∧ w'.cell? ⟨w7.heap.size, 1, none⟩ = some (.slice x3 x4 x5) ∧ w'.cell? ⟨w7.heap.size, 2, none⟩ = some (.int .i64 x6) ∧ w'.cell? ⟨w7.heap.size, 3, none⟩ = some (.int .i64 x7) ∧ w'.cell? ⟨w7.heap.size, 4, none⟩ = some (.float .f32 x8) ∧ w'.cell? ⟨(w.heap.size + 1), 0, none⟩ = some (.slice a0 a1 a2) ∧ w'.cell? ⟨(w.heap.size + 1), 1, none⟩ = some (.slice a3 a4 a5) ∧ w'.cell? ⟨(w.heap.size + 1), 2, none⟩ = some (.int .i64 a6) ∧ w'.cell? ⟨(w.heap.size + 1), 3, none⟩ = some (.int .i64 a7) ∧ w'.cell? ⟨(w.heap.size + 1), 4, none⟩ = some (.float .f32 a8)) (go_keep)
      (first
        | (go_at_call 52
           refine (HA.out _ B_12.out).mono ?_
           rintro e w13 ⟨rxz, rfl, ht, ho, bl⟩
           have KO_13 := Lib.hid (KO_12.out.below bl)
           clear KO_12
           have K1_13 := Lib.hid (K1_12.out.below bl)
           clear K1_12
           have B_13 := Lib.hid (Below.next B_12.out bl)
           clear B_12
           have Ox_13 := Lib.hid (Ox_12.out.kept bl)
           clear Ox_12
           have KX_13 := Lib.hid (KX_12.out.below bl)
           clear KX_12
           clear bl
           obtain ⟨xz0, xz1, xz2, xz3, xz4, xz5, xz6, xz7, xz8, Hxzc⟩ := cells5 rxz
           have Cxz := Lib.hid Hxzc
           have Exz := Lib.hid ht
           rw [Hxzc]
           have Oxz_13 := Lib.hid ho
           clear Hxzc ht ho
           obtain ⟨pKX0, pKX1, pKX2, pKX3, pKX4, pKX5⟩ := tbt5 KX_13.out
           obtain ⟨pK10, pK11, pK12, pK13, pK14, pK15⟩ := tbt5 K1_13.out)
        | (go_at_call 45
           have hc := c_eqTrs' rx rxz _ Ox_13.out.at Oxz_13.out.at (Ex.out.trans Exz.out.symm)
           rw [Cx.out, Cxz.out] at hc
           refine hc.mono ?_
           rintro e w14 ⟨rfl, bl⟩
           have KO_14 := Lib.hid (KO_13.out.below bl)
           clear KO_13
           have K1_14 := Lib.hid (K1_13.out.below bl)
           clear K1_13
           have B_14 := Lib.hid (Below.next B_13.out bl)
           clear B_13
           have Ox_14 := Lib.hid (Ox_13.out.kept bl)
           clear Ox_13
           have KX_14 := Lib.hid (KX_13.out.below bl)
           clear KX_13
           have Oxz_14 := Lib.hid (Oxz_13.out.kept bl)
           clear Oxz_13
           clear bl hc
           obtain ⟨pKX0, pKX1, pKX2, pKX3, pKX4, pKX5⟩ := tbt5 KX_14.out
           obtain ⟨pK10, pK11, pK12, pK13, pK14, pK15⟩ := tbt5 K1_14.out))
    clear pKX0 pKX1 pKX2 pKX3 pKX4 pKX5
    clear pK10 pK11 pK12 pK13 pK14 pK15
    go_wp2_with fail
    go_ret
    exact ⟨rfl, B_14.out⟩

/-! the row's step -/
set_option maxRecDepth 100000 in
theorem lifted (os : Os) (started : os.Started) (H : Type) (enc : TypeId × Value → H) :
    ReturnsInHanded {} Try.checked os 11 .any (Rows.fnExactValidTrainingSpec.pre6 enc Try.prog Try.f11 Rows.fnExactValidTrainingRow.domain false) (Rows.fnExactValidTrainingSpec.post enc Try.prog Try.f11 false true false false) := by
  refine returnsInHanded_of_change (C := Try.checked) own started (by kernel_rfl) Try.func11
    (ChangeSpec.witness6 (enc := enc) (C := Try.checked) false ⟨#[], #[.agg #[.int .i64 0, .float .f32 0, .float .f32 0, .float .f32 0, .float .f32 0], .agg #[.slice none 0 0, .slice none 0 0, .int .i64 0, .int .i64 0, .float .f32 0]], []⟩ 8 (by kernel_rfl) (by kernel_rfl) (by kernel_rfl) (by kernel_rfl)) ?_
  intro W base args ds gs before hval0 hW hcnd _
  have hval : ∀ (j : Nat) t v, Try.f11.params[j]? = some t → args[j]? = some v → Value.okWide Try.prog W .any base t v := hval0
  have hW' := hW
  obtain ⟨p, q, hA0, hV, rfl, hfz, hnd⟩ := hW
  have hA : DataW.TrodAll enc Try.prog W 0 (fun _ => true) true Try.f11.params.toList args.toList ds p := hA0
  rw [Try.params11] at hA hval
  obtain ⟨v0, vs0, d0, ds0, p0, q0, hargs, rfl, rfl, h0, rest0⟩ := trodAll_cons hA
  obtain ⟨v1, vs1, d1, ds1, p1, q1, rfl, rfl, rfl, h1, rest1⟩ := trodAll_cons rest0
  obtain ⟨rfl, rfl, rfl⟩ := trodAll_nil rest1
  obtain rfl : args = #[v0, v1] := by cases args; simp_all
  obtain ⟨rfl, rfl⟩ := trodVars_none hV
  have k0 := h0
  have lt0 : ∀ x ∈ p0, x.block < W.heap.size := by obtain ⟨m, hm⟩ := k0; exact DataW.trod_lt m _ _ _ hm
  have w0 := open_Opt (hval 0 64 v0 rfl rfl) h0
  have k1 := h1
  have lt1 : ∀ x ∈ p1, x.block < W.heap.size := by obtain ⟨m, hm⟩ := k1; exact DataW.trod_lt m _ _ _ hm
  have w1 := open_Trs (hval 1 83 v1 rfl rfl) h1
  clear hA0 hval0
  refine (walk _ _ W w0 w1).mono fun e W' ⟨he, bel⟩ => ?_
  subst he
  exact ⟨_, rfl, _, _, _, [], _, [], hW', trodAll_mk1 (shut_bool Try.underlying4 _), (trodAll_cons_mk (Below.trod laidOut (by kernel_rfl) (of_decide_eq_true (by kernel_rfl)) k0 bel lt0) (trodAll_cons_mk (Below.trod laidOut (by kernel_rfl) (of_decide_eq_true (by kernel_rfl)) k1 bel lt1) trodAll_mk0)), rfl, bel.frame _, fun h => by cases h⟩

theorem over : Rows.fnExactValidTrainingRow.holds Try.pinned (OpenSpec.ofChange Rows.fnExactValidTrainingSpec) :=
  OpenClaim.holds_of_wide 11 Try.f11 rfl rfl rfl rfl rfl rfl rfl ⟨rfl, rfl, rfl, rfl, rfl⟩ rfl rfl rfl rfl rfl (by kernel_rfl) Try.func11 (by kernel_rfl)
    (of_decide_eq_true (by kernel_rfl)) (by unfold Func.isWrapper; first | (rw [if_pos (by decide +kernel)]; kernel_rfl) | (rw [if_neg (by decide +kernel)]; exact ⟨rfl, rfl⟩))
    (fun os started H enc _ => lifted os started H enc)

/-- the statement -/
theorem proved : Rows.FnExactValidTrainingSaid := over
end Go.Proofs.Ythklfkfhhdglcaa.fnExactValidTraining
