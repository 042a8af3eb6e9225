/-
  What MatMulBlocks returns, as the model and as the program make it. Conditions: the numbers can be read.
-/
import Derived.Test.YtkfpaehalfjhhaaBlkM
namespace Go.Proofs.Ytkfpaehalfjhhaa
open Go.RowKit Go.Deep Go.WideShapes Go.ChangeShapes
set_option linter.unusedVariables false

def vMatMulBlocks (r c : Int) (za : List Nat) (r' c' : Int) (zb : List Nat) (bb : Int) : Int × Int × Bool × List Nat := if sideB bb = true then vMul (bdot bb.toNat) r c za r' c' zb else (0, 0, false, [])
theorem vMatMulBlocks_len (r c : Int) (za : List Nat) (r' c' : Int) (zb : List Nat) (bb : Int) : (vMatMulBlocks r c za r' c' zb bb).2.2.2.length ≤ 1048576 := by
  unfold vMatMulBlocks
  split
  · exact vMul_len ..
  · simp
theorem vBlk_side {r c r' c' bb : Int} {za zb : List Nat} (h : sideB bb = false) : vMatMulBlocks r c za r' c' zb bb = (0, 0, false, []) := by unfold vMatMulBlocks; rw [if_neg (by rw [h]; decide)]
theorem vBlk_fit {r c r' c' bb : Int} {za zb : List Nat} (h : fitB r c r' c' za.length zb.length = false) : vMatMulBlocks r c za r' c' zb bb = (0, 0, false, []) := by
  unfold vMatMulBlocks
  split
  · exact vMul_no h
  · rfl
theorem vBlk_yes {R M K B : Nat} {za zb : List Nat} (h : fitB R M M K za.length zb.length = true) (hs : sideB (B : Int) = true) : vMatMulBlocks R M za M K zb B = ((R : Int), (K : Int), true, (List.range (R * K)).map (mulF (bdot B) za zb M K)) := by
  unfold vMatMulBlocks; rw [if_pos hs]; simpa using vMul_yes (dotv := bdot B) h
theorem side_nat {bb : Int} (h : sideB bb = true) : ∃ B : Nat, bb = B ∧ 1 ≤ B ∧ B ≤ 16 := by
  have := (sideB_iff bb).1 h
  exact ⟨bb.toNat, by omega, by omega, by omega⟩
set_option maxRecDepth 20000 in
set_option maxHeartbeats 2000000 in
theorem t_sMatMulBlocks (r c : Int) (za : List Nat) (r' c' : Int) (zb : List Nat) (bb : Int) (a0 a1 : Option Addr) (w : World) (w0 : IsFloats .f32 w a0 za.length za.length za) (w1 : IsFloats .f32 w a1 zb.length zb.length zb) :
    Calls Try.prog 16 #[.agg #[.int .i64 r, .int .i64 c, .slice a0 za.length za.length], .agg #[.int .i64 r', .int .i64 c', .slice a1 zb.length zb.length], .int .i64 bb] w (RetT (vMatMulBlocks r c za r' c' zb bb).1 (vMatMulBlocks r c za r' c' zb bb).2.1 (vMatMulBlocks r c za r' c' zb bb).2.2.1 (vMatMulBlocks r c za r' c' zb bb).2.2.2 w) := by
  have hna : za.length ≤ 9223372036854775807 := by have := w0.2.1; unfold maxLen at this; exact this
  have hnb : zb.length ≤ 9223372036854775807 := by have := w1.2.1; unfold maxLen at this; exact this
  have HA := Lib.hid w0
  have HBB := Lib.hid w1
  cases hv : fitB r c r' c' za.length zb.length with
  | false =>
    have HV := Lib.hid hv
    have HX := Lib.hid (vBlk_fit (bb := bb) hv)
    clear hv w0 w1
    rw [HX.out]
    go_enter Try.func16, Try.ntmps16
    go_wp2_with fail
    have B_0 := Lib.hid (Below.refl w.heap.size w)
    have bl := (Below.refl (w).heap.size (w)).alloc (Nat.le_refl _) (.cells #[.int .i64 r, .int .i64 c, .slice a0 za.length za.length] 26)
    have hn := Blk.new (w) 26 #[.int .i64 r, .int .i64 c, .slice a0 za.length za.length]
    have B_1 := Lib.hid (Below.next B_0.out bl)
    clear bl B_0
    have K_1 := Lib.hid hn
    clear hn
    have bl := (Below.refl ((w).alloc (.cells #[.int .i64 r, .int .i64 c, .slice a0 za.length za.length] 26)).heap.size ((w).alloc (.cells #[.int .i64 r, .int .i64 c, .slice a0 za.length za.length] 26))).alloc (Nat.le_refl _) (.cells #[.int .i64 r', .int .i64 c', .slice a1 zb.length zb.length] 26)
    have hn := Blk.new ((w).alloc (.cells #[.int .i64 r, .int .i64 c, .slice a0 za.length za.length] 26)) 26 #[.int .i64 r', .int .i64 c', .slice a1 zb.length zb.length]
    simp only [World.size_alloc] at hn
    have B_2 := Lib.hid (Below.next B_1.out bl)
    have K_2 := Lib.hid (K_1.out.below bl)
    clear bl B_1 K_1
    have L_2 := Lib.hid hn
    clear hn
    have bl := (Below.refl (((w).alloc (.cells #[.int .i64 r, .int .i64 c, .slice a0 za.length za.length] 26)).alloc (.cells #[.int .i64 r', .int .i64 c', .slice a1 zb.length zb.length] 26)).heap.size (((w).alloc (.cells #[.int .i64 r, .int .i64 c, .slice a0 za.length za.length] 26)).alloc (.cells #[.int .i64 r', .int .i64 c', .slice a1 zb.length zb.length] 26))).alloc (Nat.le_refl _) (.cells #[.int .i64 0, .int .i64 0, .slice none 0 0] 26)
    have hn := Blk.new (((w).alloc (.cells #[.int .i64 r, .int .i64 c, .slice a0 za.length za.length] 26)).alloc (.cells #[.int .i64 r', .int .i64 c', .slice a1 zb.length zb.length] 26)) 26 #[.int .i64 0, .int .i64 0, .slice none 0 0]
    simp only [World.size_alloc] at hn
    have B_3 := Lib.hid (Below.next B_2.out bl)
    have K_3 := Lib.hid (K_2.out.below bl)
    have L_3 := Lib.hid (L_2.out.below bl)
    clear bl B_2 K_2 L_2
    have Q_3 := Lib.hid hn
    clear hn
    generalize (((w).alloc (.cells #[.int .i64 r, .int .i64 c, .slice a0 za.length za.length] 26)).alloc (.cells #[.int .i64 r', .int .i64 c', .slice a1 zb.length zb.length] 26)).alloc (.cells #[.int .i64 0, .int .i64 0, .slice none 0 0] 26) = w3 at B_3 K_3 L_3 Q_3 ⊢
    obtain ⟨pK0, pK1, pK2, pK3⟩ := tb K_3.out
    obtain ⟨pL0, pL1, pL2, pL3⟩ := tb L_3.out
    obtain ⟨pQ0, pQ1, pQ2, pQ3⟩ := tb Q_3.out
    obtain ⟨fq0, fq1, fq2⟩ := tbf Q_3.out
    refine (c_l02Fit w.heap.size (w.heap.size + 1) r c r' c' a0 a1 za.length zb.length za.length zb.length hna hnb _ pK0 pK1 pK2 pL0 pL1 pL2).mono ?_
    rw [HV.out]
    rintro e w4 ⟨rfl, dn⟩
    have bl := dn.below
    clear dn
    clear pK0 pK1 pK2 pK3 pL0 pL1 pL2 pL3 pQ0 pQ1 pQ2 pQ3 fq0 fq1 fq2
    have B_4 := Lib.hid (Below.next B_3.out bl)
    have K_4 := Lib.hid (K_3.out.below bl)
    have L_4 := Lib.hid (L_3.out.below bl)
    have Q_4 := Lib.hid (Q_3.out.below bl)
    clear bl B_3 K_3 L_3 Q_3
    obtain ⟨pK0, pK1, pK2, pK3⟩ := tb K_4.out
    obtain ⟨pL0, pL1, pL2, pL3⟩ := tb L_4.out
    obtain ⟨pQ0, pQ1, pQ2, pQ3⟩ := tb Q_4.out
    obtain ⟨fq0, fq1, fq2⟩ := tbf Q_4.out
    go_wp2_with fail
    exact bodyPost_ret (v := .tuple #[.agg #[.int .i64 0, .int .i64 0, .slice none 0 0], .bool false]) (by simp [results, Try.results16, go_sem, pQ0, pQ1, pQ2]) rfl ⟨none, 0, [], rfl, nil_own _ _, rfl, ((B_4.out.setCell (by simp; omega) _).setCell (by simp; omega) _).setCell (by simp; omega) _⟩
  | true =>
    cases hs : sideB bb with
    | false =>
      have HV := Lib.hid hv
      have HS : Hid ((decide ((1 : Int) ≤ bb) && decide (bb ≤ 16)) = false) := Lib.hid hs
      have HX := Lib.hid (vBlk_side (r := r) (c := c) (za := za) (r' := r') (c' := c') (zb := zb) hs)
      clear hv hs w0 w1
      rw [HX.out]
      go_enter Try.func16, Try.ntmps16
      go_wp2_with fail
      have B_0 := Lib.hid (Below.refl w.heap.size w)
      have bl := (Below.refl (w).heap.size (w)).alloc (Nat.le_refl _) (.cells #[.int .i64 r, .int .i64 c, .slice a0 za.length za.length] 26)
      have hn := Blk.new (w) 26 #[.int .i64 r, .int .i64 c, .slice a0 za.length za.length]
      have B_1 := Lib.hid (Below.next B_0.out bl)
      clear bl B_0
      have K_1 := Lib.hid hn
      clear hn
      have bl := (Below.refl ((w).alloc (.cells #[.int .i64 r, .int .i64 c, .slice a0 za.length za.length] 26)).heap.size ((w).alloc (.cells #[.int .i64 r, .int .i64 c, .slice a0 za.length za.length] 26))).alloc (Nat.le_refl _) (.cells #[.int .i64 r', .int .i64 c', .slice a1 zb.length zb.length] 26)
      have hn := Blk.new ((w).alloc (.cells #[.int .i64 r, .int .i64 c, .slice a0 za.length za.length] 26)) 26 #[.int .i64 r', .int .i64 c', .slice a1 zb.length zb.length]
      simp only [World.size_alloc] at hn
      have B_2 := Lib.hid (Below.next B_1.out bl)
      have K_2 := Lib.hid (K_1.out.below bl)
      clear bl B_1 K_1
      have L_2 := Lib.hid hn
      clear hn
      have bl := (Below.refl (((w).alloc (.cells #[.int .i64 r, .int .i64 c, .slice a0 za.length za.length] 26)).alloc (.cells #[.int .i64 r', .int .i64 c', .slice a1 zb.length zb.length] 26)).heap.size (((w).alloc (.cells #[.int .i64 r, .int .i64 c, .slice a0 za.length za.length] 26)).alloc (.cells #[.int .i64 r', .int .i64 c', .slice a1 zb.length zb.length] 26))).alloc (Nat.le_refl _) (.cells #[.int .i64 0, .int .i64 0, .slice none 0 0] 26)
      have hn := Blk.new (((w).alloc (.cells #[.int .i64 r, .int .i64 c, .slice a0 za.length za.length] 26)).alloc (.cells #[.int .i64 r', .int .i64 c', .slice a1 zb.length zb.length] 26)) 26 #[.int .i64 0, .int .i64 0, .slice none 0 0]
      simp only [World.size_alloc] at hn
      have B_3 := Lib.hid (Below.next B_2.out bl)
      have K_3 := Lib.hid (K_2.out.below bl)
      have L_3 := Lib.hid (L_2.out.below bl)
      clear bl B_2 K_2 L_2
      have Q_3 := Lib.hid hn
      clear hn
      generalize (((w).alloc (.cells #[.int .i64 r, .int .i64 c, .slice a0 za.length za.length] 26)).alloc (.cells #[.int .i64 r', .int .i64 c', .slice a1 zb.length zb.length] 26)).alloc (.cells #[.int .i64 0, .int .i64 0, .slice none 0 0] 26) = w3 at B_3 K_3 L_3 Q_3 ⊢
      obtain ⟨pK0, pK1, pK2, pK3⟩ := tb K_3.out
      obtain ⟨pL0, pL1, pL2, pL3⟩ := tb L_3.out
      obtain ⟨pQ0, pQ1, pQ2, pQ3⟩ := tb Q_3.out
      obtain ⟨fq0, fq1, fq2⟩ := tbf Q_3.out
      refine (c_l02Fit w.heap.size (w.heap.size + 1) r c r' c' a0 a1 za.length zb.length za.length zb.length hna hnb _ pK0 pK1 pK2 pL0 pL1 pL2).mono ?_
      rw [HV.out]
      rintro e w4 ⟨rfl, dn⟩
      have bl := dn.below
      clear dn
      clear pK0 pK1 pK2 pK3 pL0 pL1 pL2 pL3 pQ0 pQ1 pQ2 pQ3 fq0 fq1 fq2
      have B_4 := Lib.hid (Below.next B_3.out bl)
      have K_4 := Lib.hid (K_3.out.below bl)
      have L_4 := Lib.hid (L_3.out.below bl)
      have Q_4 := Lib.hid (Q_3.out.below bl)
      clear bl B_3 K_3 L_3 Q_3
      go_wp2_with fail
      refine (c_l00In _ _ _ false HS.out _).mono ?_
      rintro e w' ⟨rfl, rfl⟩
      obtain ⟨pK0, pK1, pK2, pK3⟩ := tb K_4.out
      obtain ⟨pL0, pL1, pL2, pL3⟩ := tb L_4.out
      obtain ⟨pQ0, pQ1, pQ2, pQ3⟩ := tb Q_4.out
      obtain ⟨fq0, fq1, fq2⟩ := tbf Q_4.out
      go_wp2_with fail
      exact bodyPost_ret (v := .tuple #[.agg #[.int .i64 0, .int .i64 0, .slice none 0 0], .bool false]) (by simp [results, Try.results16, go_sem, pQ0, pQ1, pQ2]) rfl ⟨none, 0, [], rfl, nil_own _ _, rfl, ((B_4.out.setCell (by simp; omega) _).setCell (by simp; omega) _).setCell (by simp; omega) _⟩
    | true =>
      have HV := Lib.hid hv
      obtain ⟨R, M, K, rfl, rfl, rfl, rfl, r1, r2, m1, m2, k1, k2, ha, hb⟩ := fit_nat hv
      obtain ⟨B, rfl, b1, b2⟩ := side_nat hs
      have HNA := Lib.hid ha
      have HNB := Lib.hid hb
      have HS : Hid ((decide ((1 : Int) ≤ (B : Int)) && decide ((B : Int) ≤ 16)) = true) := Lib.hid hs
      have HX := Lib.hid (vBlk_yes hv hs)
      clear hv hs w0 w1 ha hb
      rw [HX.out]
      obtain ⟨vals, hvals⟩ : ∃ vals, ((List.range (R * K)).map (mulF (bdot B) za zb M K)) = vals := ⟨_, rfl⟩
      have HVAL := Lib.hid hvals
      rw [hvals]
      clear hvals
      go_enter Try.func16, Try.ntmps16
      go_wp2_with fail
      have B_0 := Lib.hid (Below.refl w.heap.size w)
      have bl := (Below.refl (w).heap.size (w)).alloc (Nat.le_refl _) (.cells #[.int .i64 (R : Int), .int .i64 (M : Int), .slice a0 za.length za.length] 26)
      have hn := Blk.new (w) 26 #[.int .i64 (R : Int), .int .i64 (M : Int), .slice a0 za.length za.length]
      have B_1 := Lib.hid (Below.next B_0.out bl)
      clear bl B_0
      have K_1 := Lib.hid hn
      clear hn
      have bl := (Below.refl ((w).alloc (.cells #[.int .i64 (R : Int), .int .i64 (M : Int), .slice a0 za.length za.length] 26)).heap.size ((w).alloc (.cells #[.int .i64 (R : Int), .int .i64 (M : Int), .slice a0 za.length za.length] 26))).alloc (Nat.le_refl _) (.cells #[.int .i64 (M : Int), .int .i64 (K : Int), .slice a1 zb.length zb.length] 26)
      have hn := Blk.new ((w).alloc (.cells #[.int .i64 (R : Int), .int .i64 (M : Int), .slice a0 za.length za.length] 26)) 26 #[.int .i64 (M : Int), .int .i64 (K : Int), .slice a1 zb.length zb.length]
      simp only [World.size_alloc] at hn
      have B_2 := Lib.hid (Below.next B_1.out bl)
      have K_2 := Lib.hid (K_1.out.below bl)
      clear bl B_1 K_1
      have L_2 := Lib.hid hn
      clear hn
      have bl := (Below.refl (((w).alloc (.cells #[.int .i64 (R : Int), .int .i64 (M : Int), .slice a0 za.length za.length] 26)).alloc (.cells #[.int .i64 (M : Int), .int .i64 (K : Int), .slice a1 zb.length zb.length] 26)).heap.size (((w).alloc (.cells #[.int .i64 (R : Int), .int .i64 (M : Int), .slice a0 za.length za.length] 26)).alloc (.cells #[.int .i64 (M : Int), .int .i64 (K : Int), .slice a1 zb.length zb.length] 26))).alloc (Nat.le_refl _) (.cells #[.int .i64 0, .int .i64 0, .slice none 0 0] 26)
      have hn := Blk.new (((w).alloc (.cells #[.int .i64 (R : Int), .int .i64 (M : Int), .slice a0 za.length za.length] 26)).alloc (.cells #[.int .i64 (M : Int), .int .i64 (K : Int), .slice a1 zb.length zb.length] 26)) 26 #[.int .i64 0, .int .i64 0, .slice none 0 0]
      simp only [World.size_alloc] at hn
      have B_3 := Lib.hid (Below.next B_2.out bl)
      have K_3 := Lib.hid (K_2.out.below bl)
      have L_3 := Lib.hid (L_2.out.below bl)
      clear bl B_2 K_2 L_2
      have Q_3 := Lib.hid hn
      clear hn
      generalize (((w).alloc (.cells #[.int .i64 (R : Int), .int .i64 (M : Int), .slice a0 za.length za.length] 26)).alloc (.cells #[.int .i64 (M : Int), .int .i64 (K : Int), .slice a1 zb.length zb.length] 26)).alloc (.cells #[.int .i64 0, .int .i64 0, .slice none 0 0] 26) = w3 at B_3 K_3 L_3 Q_3 ⊢
      obtain ⟨pK0, pK1, pK2, pK3⟩ := tb K_3.out
      obtain ⟨pL0, pL1, pL2, pL3⟩ := tb L_3.out
      obtain ⟨pQ0, pQ1, pQ2, pQ3⟩ := tb Q_3.out
      obtain ⟨fq0, fq1, fq2⟩ := tbf Q_3.out
      refine (c_l02Fit w.heap.size (w.heap.size + 1) (R : Int) (M : Int) (M : Int) (K : Int) a0 a1 za.length zb.length za.length zb.length hna hnb _ pK0 pK1 pK2 pL0 pL1 pL2).mono ?_
      rw [HV.out]
      rintro e w4 ⟨rfl, dn⟩
      have bl := dn.below
      clear dn
      clear pK0 pK1 pK2 pK3 pL0 pL1 pL2 pL3 pQ0 pQ1 pQ2 pQ3 fq0 fq1 fq2
      have B_4 := Lib.hid (Below.next B_3.out bl)
      have K_4 := Lib.hid (K_3.out.below bl)
      have L_4 := Lib.hid (L_3.out.below bl)
      have Q_4 := Lib.hid (Q_3.out.below bl)
      clear bl B_3 K_3 L_3 Q_3
      go_wp2_with fail
      refine (c_l00In _ _ _ true HS.out _).mono ?_
      rintro e w' ⟨rfl, rfl⟩
      obtain ⟨pK0, pK1, pK2, pK3⟩ := tb K_4.out
      obtain ⟨pL0, pL1, pL2, pL3⟩ := tb L_4.out
      obtain ⟨pQ0, pQ1, pQ2, pQ3⟩ := tb Q_4.out
      obtain ⟨fq0, fq1, fq2⟩ := tbf Q_4.out
      go_wp2_with fail
      clear pK0 pK1 pK2 pK3 pL0 pL1 pL2 pL3 pQ0 pQ1 pQ2 pQ3 fq0 fq1 fq2
      obtain ⟨pK0, pK1, pK2, pK3⟩ := tb K_4.out
      obtain ⟨pL0, pL1, pL2, pL3⟩ := tb L_4.out
      obtain ⟨pQ0, pQ1, pQ2, pQ3⟩ := tb Q_4.out
      obtain ⟨fq0, fq1, fq2⟩ := tbf Q_4.out
      refine (c_l02Blocks w.heap.size (w.heap.size + 1) R M K a0 a1 za.length zb.length za.length zb.length za zb _ (HA.out.kept B_4.out) (HBB.out.kept B_4.out) r1 r2 m1 m2 k1 k2 HNA.out HNB.out pK0 pK1 pK2 pL1 pL2 B b1 b2).mono ?_
      clear pK0 pK1 pK2 pK3 pL0 pL1 pL2 pL3 pQ0 pQ1 pQ2 pQ3 fq0 fq1 fq2
      rintro e w5 ⟨b, cc, ys, rfl, hf, hy, bl⟩
      have HW := Lib.hid (hf.base (B' := w.heap.size) B_4.out.size)
      have HY := Lib.hid (hy.trans HVAL.out)
      clear hf hy
      have B_5 := Lib.hid (Below.next B_4.out bl)
      have K_5 := Lib.hid (K_4.out.below bl)
      have L_5 := Lib.hid (L_4.out.below bl)
      have Q_5 := Lib.hid (Q_4.out.below bl)
      clear bl B_4 K_4 L_4 Q_4
      obtain ⟨pK0, pK1, pK2, pK3⟩ := tb K_5.out
      obtain ⟨pL0, pL1, pL2, pL3⟩ := tb L_5.out
      obtain ⟨pQ0, pQ1, pQ2, pQ3⟩ := tb Q_5.out
      obtain ⟨fq0, fq1, fq2⟩ := tbf Q_5.out
      go_wp2_with fail
      exact bodyPost_ret (v := .tuple #[.agg #[.int .i64 R, .int .i64 K, .slice b ys.length cc], .bool true]) (by simp [results, Try.results16, go_sem, pQ0, pQ1, pQ2]) rfl ⟨b, cc, ys, rfl, HW.out.off (store3 Q_5.out).2 Q_5.out (by decide), HY.out, ((B_5.out.setCell (by simp; omega) _).setCell (by simp; omega) _).setCell (by simp; omega) _⟩
theorem x_blocks (B gm : Nat) (w : World) (p : w.cell? ⟨gm, 0, none⟩ = some (.int .i64 B)) (b1 : 1 ≤ B) (b2 : B ≤ 16) : DotOk 57 #[.pointer (some ⟨gm, 0, none⟩)] (bdot B) w :=
  ⟨enters_of Try.func57 (by kernel_rfl) (by kernel_rfl), fun xs ys a b ca cb n wr hn _ hx hy hb => by
    have HX := Lib.hid hx
    have HY := Lib.hid hy
    have q := (hb.cell (p := ⟨gm, 0, none⟩) (cell_block p)).trans p
    clear hx hy hb p
    show Calls Try.prog 57 #[.slice a n ca, .slice b n cb, .pointer (some ⟨gm, 0, none⟩)] wr (RetX (bdot B xs ys) wr)
    go_enter Try.func57, Try.ntmps57
    go_wp2_with fail
    refine (c_dotInBlocks a b ca cb n B xs ys _ HX.out HY.out hn b1 b2).mono ?_
    rintro e w2 ⟨r, q, hr, hrl, rfl, rfl⟩
    have HR := Lib.hid hr
    have HRL := Lib.hid hrl
    clear hr hrl
    go_wp2_with fail
    go_ret
    exact ⟨r, rfl, HR.out, HRL.out, below_drewN (Below.refl _ _) q⟩⟩
set_option maxRecDepth 20000 in
set_option maxHeartbeats 2000000 in
theorem t_iMatMulBlocks (r c : Int) (za : List Nat) (r' c' : Int) (zb : List Nat) (bb : Int) (a0 a1 : Option Addr) (w : World) (w0 : IsFloats .f32 w a0 za.length za.length za) (w1 : IsFloats .f32 w a1 zb.length zb.length zb) :
    Calls Try.prog 17 #[.agg #[.int .i64 r, .int .i64 c, .slice a0 za.length za.length], .agg #[.int .i64 r', .int .i64 c', .slice a1 zb.length zb.length], .int .i64 bb] w (RetT (vMatMulBlocks r c za r' c' zb bb).1 (vMatMulBlocks r c za r' c' zb bb).2.1 (vMatMulBlocks r c za r' c' zb bb).2.2.1 (vMatMulBlocks r c za r' c' zb bb).2.2.2 w) := by
  have hna : za.length ≤ 9223372036854775807 := by have := w0.2.1; unfold maxLen at this; exact this
  have hnb : zb.length ≤ 9223372036854775807 := by have := w1.2.1; unfold maxLen at this; exact this
  have HA := Lib.hid w0
  have HBB := Lib.hid w1
  cases hs : sideB bb with
  | false =>
    have HS := Lib.hid hs
    have HX := Lib.hid (vBlk_side (r := r) (c := c) (za := za) (r' := r') (c' := c') (zb := zb) hs)
    clear hs w0 w1
    rw [HX.out]
    go_enter Try.func17, Try.ntmps17
    go_wp2_with fail
    have B_0 := Lib.hid (Below.refl w.heap.size w)
    have bl := (Below.refl (w).heap.size (w)).alloc (Nat.le_refl _) (.cells #[.int .i64 r, .int .i64 c, .slice a0 za.length za.length] 26)
    have hn := Blk.new (w) 26 #[.int .i64 r, .int .i64 c, .slice a0 za.length za.length]
    have B_1 := Lib.hid (Below.next B_0.out bl)
    clear bl B_0
    have K_1 := Lib.hid hn
    clear hn
    have bl := (Below.refl ((w).alloc (.cells #[.int .i64 r, .int .i64 c, .slice a0 za.length za.length] 26)).heap.size ((w).alloc (.cells #[.int .i64 r, .int .i64 c, .slice a0 za.length za.length] 26))).alloc (Nat.le_refl _) (.cells #[.int .i64 r', .int .i64 c', .slice a1 zb.length zb.length] 26)
    have hn := Blk.new ((w).alloc (.cells #[.int .i64 r, .int .i64 c, .slice a0 za.length za.length] 26)) 26 #[.int .i64 r', .int .i64 c', .slice a1 zb.length zb.length]
    simp only [World.size_alloc] at hn
    have B_2 := Lib.hid (Below.next B_1.out bl)
    have K_2 := Lib.hid (K_1.out.below bl)
    clear bl B_1 K_1
    have L_2 := Lib.hid hn
    clear hn
    have bl := (Below.refl (((w).alloc (.cells #[.int .i64 r, .int .i64 c, .slice a0 za.length za.length] 26)).alloc (.cells #[.int .i64 r', .int .i64 c', .slice a1 zb.length zb.length] 26)).heap.size (((w).alloc (.cells #[.int .i64 r, .int .i64 c, .slice a0 za.length za.length] 26)).alloc (.cells #[.int .i64 r', .int .i64 c', .slice a1 zb.length zb.length] 26))).alloc (Nat.le_refl _) (.cells #[.int .i64 bb] 2)
    have hn := Blk.new (((w).alloc (.cells #[.int .i64 r, .int .i64 c, .slice a0 za.length za.length] 26)).alloc (.cells #[.int .i64 r', .int .i64 c', .slice a1 zb.length zb.length] 26)) 2 #[.int .i64 bb]
    simp only [World.size_alloc] at hn
    have B_3 := Lib.hid (Below.next B_2.out bl)
    have K_3 := Lib.hid (K_2.out.below bl)
    have L_3 := Lib.hid (L_2.out.below bl)
    clear bl B_2 K_2 L_2
    have M_3 := Lib.hid hn
    clear hn
    have bl := (Below.refl ((((w).alloc (.cells #[.int .i64 r, .int .i64 c, .slice a0 za.length za.length] 26)).alloc (.cells #[.int .i64 r', .int .i64 c', .slice a1 zb.length zb.length] 26)).alloc (.cells #[.int .i64 bb] 2)).heap.size ((((w).alloc (.cells #[.int .i64 r, .int .i64 c, .slice a0 za.length za.length] 26)).alloc (.cells #[.int .i64 r', .int .i64 c', .slice a1 zb.length zb.length] 26)).alloc (.cells #[.int .i64 bb] 2))).alloc (Nat.le_refl _) (.cells #[.int .i64 0, .int .i64 0, .slice none 0 0] 26)
    have hn := Blk.new ((((w).alloc (.cells #[.int .i64 r, .int .i64 c, .slice a0 za.length za.length] 26)).alloc (.cells #[.int .i64 r', .int .i64 c', .slice a1 zb.length zb.length] 26)).alloc (.cells #[.int .i64 bb] 2)) 26 #[.int .i64 0, .int .i64 0, .slice none 0 0]
    simp only [World.size_alloc] at hn
    have B_4 := Lib.hid (Below.next B_3.out bl)
    have K_4 := Lib.hid (K_3.out.below bl)
    have L_4 := Lib.hid (L_3.out.below bl)
    have M_4 := Lib.hid (M_3.out.below bl)
    clear bl B_3 K_3 L_3 M_3
    have Q_4 := Lib.hid hn
    clear hn
    generalize ((((w).alloc (.cells #[.int .i64 r, .int .i64 c, .slice a0 za.length za.length] 26)).alloc (.cells #[.int .i64 r', .int .i64 c', .slice a1 zb.length zb.length] 26)).alloc (.cells #[.int .i64 bb] 2)).alloc (.cells #[.int .i64 0, .int .i64 0, .slice none 0 0] 26) = w4 at B_4 K_4 L_4 M_4 Q_4 ⊢
    obtain ⟨pK0, pK1, pK2, pK3⟩ := tb K_4.out
    obtain ⟨pL0, pL1, pL2, pL3⟩ := tb L_4.out
    obtain ⟨pQ0, pQ1, pQ2, pQ3⟩ := tb Q_4.out
    obtain ⟨fq0, fq1, fq2⟩ := tbf Q_4.out
    have pM0 := M_4.out.cell 0
    simp at pM0
    go_wp2_with fail
    refine (c_isSide _ false HS.out _).mono ?_
    rintro e w' ⟨rfl, rfl⟩
    go_wp2_with fail
    exact bodyPost_ret (v := .tuple #[.agg #[.int .i64 0, .int .i64 0, .slice none 0 0], .bool false]) (by simp [results, Try.results17, go_sem, pQ0, pQ1, pQ2]) rfl ⟨none, 0, [], rfl, nil_own _ _, rfl, ((B_4.out.setCell (by simp; omega) _).setCell (by simp; omega) _).setCell (by simp; omega) _⟩
  | true =>
    cases hv : fitB r c r' c' za.length zb.length with
    | false =>
      have HV := Lib.hid hv
      have HS := Lib.hid hs
      have HX := Lib.hid (vBlk_fit (bb := bb) hv)
      clear hv hs w0 w1
      rw [HX.out]
      go_enter Try.func17, Try.ntmps17
      go_wp2_with fail
      have B_0 := Lib.hid (Below.refl w.heap.size w)
      have bl := (Below.refl (w).heap.size (w)).alloc (Nat.le_refl _) (.cells #[.int .i64 r, .int .i64 c, .slice a0 za.length za.length] 26)
      have hn := Blk.new (w) 26 #[.int .i64 r, .int .i64 c, .slice a0 za.length za.length]
      have B_1 := Lib.hid (Below.next B_0.out bl)
      clear bl B_0
      have K_1 := Lib.hid hn
      clear hn
      have bl := (Below.refl ((w).alloc (.cells #[.int .i64 r, .int .i64 c, .slice a0 za.length za.length] 26)).heap.size ((w).alloc (.cells #[.int .i64 r, .int .i64 c, .slice a0 za.length za.length] 26))).alloc (Nat.le_refl _) (.cells #[.int .i64 r', .int .i64 c', .slice a1 zb.length zb.length] 26)
      have hn := Blk.new ((w).alloc (.cells #[.int .i64 r, .int .i64 c, .slice a0 za.length za.length] 26)) 26 #[.int .i64 r', .int .i64 c', .slice a1 zb.length zb.length]
      simp only [World.size_alloc] at hn
      have B_2 := Lib.hid (Below.next B_1.out bl)
      have K_2 := Lib.hid (K_1.out.below bl)
      clear bl B_1 K_1
      have L_2 := Lib.hid hn
      clear hn
      have bl := (Below.refl (((w).alloc (.cells #[.int .i64 r, .int .i64 c, .slice a0 za.length za.length] 26)).alloc (.cells #[.int .i64 r', .int .i64 c', .slice a1 zb.length zb.length] 26)).heap.size (((w).alloc (.cells #[.int .i64 r, .int .i64 c, .slice a0 za.length za.length] 26)).alloc (.cells #[.int .i64 r', .int .i64 c', .slice a1 zb.length zb.length] 26))).alloc (Nat.le_refl _) (.cells #[.int .i64 bb] 2)
      have hn := Blk.new (((w).alloc (.cells #[.int .i64 r, .int .i64 c, .slice a0 za.length za.length] 26)).alloc (.cells #[.int .i64 r', .int .i64 c', .slice a1 zb.length zb.length] 26)) 2 #[.int .i64 bb]
      simp only [World.size_alloc] at hn
      have B_3 := Lib.hid (Below.next B_2.out bl)
      have K_3 := Lib.hid (K_2.out.below bl)
      have L_3 := Lib.hid (L_2.out.below bl)
      clear bl B_2 K_2 L_2
      have M_3 := Lib.hid hn
      clear hn
      have bl := (Below.refl ((((w).alloc (.cells #[.int .i64 r, .int .i64 c, .slice a0 za.length za.length] 26)).alloc (.cells #[.int .i64 r', .int .i64 c', .slice a1 zb.length zb.length] 26)).alloc (.cells #[.int .i64 bb] 2)).heap.size ((((w).alloc (.cells #[.int .i64 r, .int .i64 c, .slice a0 za.length za.length] 26)).alloc (.cells #[.int .i64 r', .int .i64 c', .slice a1 zb.length zb.length] 26)).alloc (.cells #[.int .i64 bb] 2))).alloc (Nat.le_refl _) (.cells #[.int .i64 0, .int .i64 0, .slice none 0 0] 26)
      have hn := Blk.new ((((w).alloc (.cells #[.int .i64 r, .int .i64 c, .slice a0 za.length za.length] 26)).alloc (.cells #[.int .i64 r', .int .i64 c', .slice a1 zb.length zb.length] 26)).alloc (.cells #[.int .i64 bb] 2)) 26 #[.int .i64 0, .int .i64 0, .slice none 0 0]
      simp only [World.size_alloc] at hn
      have B_4 := Lib.hid (Below.next B_3.out bl)
      have K_4 := Lib.hid (K_3.out.below bl)
      have L_4 := Lib.hid (L_3.out.below bl)
      have M_4 := Lib.hid (M_3.out.below bl)
      clear bl B_3 K_3 L_3 M_3
      have Q_4 := Lib.hid hn
      clear hn
      generalize ((((w).alloc (.cells #[.int .i64 r, .int .i64 c, .slice a0 za.length za.length] 26)).alloc (.cells #[.int .i64 r', .int .i64 c', .slice a1 zb.length zb.length] 26)).alloc (.cells #[.int .i64 bb] 2)).alloc (.cells #[.int .i64 0, .int .i64 0, .slice none 0 0] 26) = w4 at B_4 K_4 L_4 M_4 Q_4 ⊢
      obtain ⟨pK0, pK1, pK2, pK3⟩ := tb K_4.out
      obtain ⟨pL0, pL1, pL2, pL3⟩ := tb L_4.out
      obtain ⟨pQ0, pQ1, pQ2, pQ3⟩ := tb Q_4.out
      obtain ⟨fq0, fq1, fq2⟩ := tbf Q_4.out
      have pM0 := M_4.out.cell 0
      simp at pM0
      go_wp2_with fail
      refine (c_isSide _ true HS.out _).mono ?_
      rintro e w' ⟨rfl, rfl⟩
      go_wp2_with fail
      clear pK0 pK1 pK2 pK3 pL0 pL1 pL2 pL3 pQ0 pQ1 pQ2 pQ3 fq0 fq1 fq2 pM0
      refine (c_multiplyNo 57 #[.pointer (some ⟨w.heap.size + 1 + 1, 0, none⟩)] (bdot bb.toNat) r c r' c' za zb a0 a1 _ (HA.out.kept B_4.out) (HBB.out.kept B_4.out) HV.out).mono ?_
      rintro e w5 ⟨b, cc, ys, rfl, hf, hy, bl⟩
      have HW := Lib.hid (hf.base (B' := w.heap.size) B_4.out.size)
      have HY := Lib.hid hy
      clear hf hy
      have B_5 := Lib.hid (Below.next B_4.out bl)
      have K_5 := Lib.hid (K_4.out.below bl)
      have L_5 := Lib.hid (L_4.out.below bl)
      have M_5 := Lib.hid (M_4.out.below bl)
      have Q_5 := Lib.hid (Q_4.out.below bl)
      clear bl B_4 K_4 L_4 M_4 Q_4
      obtain ⟨pK0, pK1, pK2, pK3⟩ := tb K_5.out
      obtain ⟨pL0, pL1, pL2, pL3⟩ := tb L_5.out
      obtain ⟨pQ0, pQ1, pQ2, pQ3⟩ := tb Q_5.out
      obtain ⟨fq0, fq1, fq2⟩ := tbf Q_5.out
      go_wp2_with fail
      exact bodyPost_ret (v := .tuple #[.agg #[.int .i64 0, .int .i64 0, .slice b ys.length cc], .bool false]) (by simp [results, Try.results17, go_sem, pQ0, pQ1, pQ2]) rfl ⟨b, cc, ys, rfl, HW.out.off (store3 Q_5.out).2 Q_5.out (by decide), HY.out, ((B_5.out.setCell (by simp; omega) _).setCell (by simp; omega) _).setCell (by simp; omega) _⟩
    | true =>
      have HV := Lib.hid hv
      obtain ⟨R, M, K, rfl, rfl, rfl, rfl, r1, r2, m1, m2, k1, k2, ha, hb⟩ := fit_nat hv
      obtain ⟨B, rfl, b1, b2⟩ := side_nat hs
      have HNA := Lib.hid ha
      have HNB := Lib.hid hb
      have HV1 := Lib.hid (show vokB R M za.length = true by simp only [fitB, Bool.and_eq_true] at hv; exact hv.1.1)
      have HV2 := Lib.hid (show vokB M K zb.length = true by simp only [fitB, Bool.and_eq_true] at hv; exact hv.1.2)
      have HS := Lib.hid hs
      have HX := Lib.hid (vBlk_yes hv hs)
      clear hv hs w0 w1 ha hb
      rw [HX.out]
      obtain ⟨vals, hvals⟩ : ∃ vals, ((List.range (R * K)).map (mulF (bdot B) za zb M K)) = vals := ⟨_, rfl⟩
      have HVAL := Lib.hid hvals
      rw [hvals]
      clear hvals
      go_enter Try.func17, Try.ntmps17
      go_wp2_with fail
      have B_0 := Lib.hid (Below.refl w.heap.size w)
      have bl := (Below.refl (w).heap.size (w)).alloc (Nat.le_refl _) (.cells #[.int .i64 (R : Int), .int .i64 (M : Int), .slice a0 za.length za.length] 26)
      have hn := Blk.new (w) 26 #[.int .i64 (R : Int), .int .i64 (M : Int), .slice a0 za.length za.length]
      have B_1 := Lib.hid (Below.next B_0.out bl)
      clear bl B_0
      have K_1 := Lib.hid hn
      clear hn
      have bl := (Below.refl ((w).alloc (.cells #[.int .i64 (R : Int), .int .i64 (M : Int), .slice a0 za.length za.length] 26)).heap.size ((w).alloc (.cells #[.int .i64 (R : Int), .int .i64 (M : Int), .slice a0 za.length za.length] 26))).alloc (Nat.le_refl _) (.cells #[.int .i64 (M : Int), .int .i64 (K : Int), .slice a1 zb.length zb.length] 26)
      have hn := Blk.new ((w).alloc (.cells #[.int .i64 (R : Int), .int .i64 (M : Int), .slice a0 za.length za.length] 26)) 26 #[.int .i64 (M : Int), .int .i64 (K : Int), .slice a1 zb.length zb.length]
      simp only [World.size_alloc] at hn
      have B_2 := Lib.hid (Below.next B_1.out bl)
      have K_2 := Lib.hid (K_1.out.below bl)
      clear bl B_1 K_1
      have L_2 := Lib.hid hn
      clear hn
      have bl := (Below.refl (((w).alloc (.cells #[.int .i64 (R : Int), .int .i64 (M : Int), .slice a0 za.length za.length] 26)).alloc (.cells #[.int .i64 (M : Int), .int .i64 (K : Int), .slice a1 zb.length zb.length] 26)).heap.size (((w).alloc (.cells #[.int .i64 (R : Int), .int .i64 (M : Int), .slice a0 za.length za.length] 26)).alloc (.cells #[.int .i64 (M : Int), .int .i64 (K : Int), .slice a1 zb.length zb.length] 26))).alloc (Nat.le_refl _) (.cells #[.int .i64 (B : Int)] 2)
      have hn := Blk.new (((w).alloc (.cells #[.int .i64 (R : Int), .int .i64 (M : Int), .slice a0 za.length za.length] 26)).alloc (.cells #[.int .i64 (M : Int), .int .i64 (K : Int), .slice a1 zb.length zb.length] 26)) 2 #[.int .i64 (B : Int)]
      simp only [World.size_alloc] at hn
      have B_3 := Lib.hid (Below.next B_2.out bl)
      have K_3 := Lib.hid (K_2.out.below bl)
      have L_3 := Lib.hid (L_2.out.below bl)
      clear bl B_2 K_2 L_2
      have M_3 := Lib.hid hn
      clear hn
      have bl := (Below.refl ((((w).alloc (.cells #[.int .i64 (R : Int), .int .i64 (M : Int), .slice a0 za.length za.length] 26)).alloc (.cells #[.int .i64 (M : Int), .int .i64 (K : Int), .slice a1 zb.length zb.length] 26)).alloc (.cells #[.int .i64 (B : Int)] 2)).heap.size ((((w).alloc (.cells #[.int .i64 (R : Int), .int .i64 (M : Int), .slice a0 za.length za.length] 26)).alloc (.cells #[.int .i64 (M : Int), .int .i64 (K : Int), .slice a1 zb.length zb.length] 26)).alloc (.cells #[.int .i64 (B : Int)] 2))).alloc (Nat.le_refl _) (.cells #[.int .i64 0, .int .i64 0, .slice none 0 0] 26)
      have hn := Blk.new ((((w).alloc (.cells #[.int .i64 (R : Int), .int .i64 (M : Int), .slice a0 za.length za.length] 26)).alloc (.cells #[.int .i64 (M : Int), .int .i64 (K : Int), .slice a1 zb.length zb.length] 26)).alloc (.cells #[.int .i64 (B : Int)] 2)) 26 #[.int .i64 0, .int .i64 0, .slice none 0 0]
      simp only [World.size_alloc] at hn
      have B_4 := Lib.hid (Below.next B_3.out bl)
      have K_4 := Lib.hid (K_3.out.below bl)
      have L_4 := Lib.hid (L_3.out.below bl)
      have M_4 := Lib.hid (M_3.out.below bl)
      clear bl B_3 K_3 L_3 M_3
      have Q_4 := Lib.hid hn
      clear hn
      generalize ((((w).alloc (.cells #[.int .i64 (R : Int), .int .i64 (M : Int), .slice a0 za.length za.length] 26)).alloc (.cells #[.int .i64 (M : Int), .int .i64 (K : Int), .slice a1 zb.length zb.length] 26)).alloc (.cells #[.int .i64 (B : Int)] 2)).alloc (.cells #[.int .i64 0, .int .i64 0, .slice none 0 0] 26) = w4 at B_4 K_4 L_4 M_4 Q_4 ⊢
      obtain ⟨pK0, pK1, pK2, pK3⟩ := tb K_4.out
      obtain ⟨pL0, pL1, pL2, pL3⟩ := tb L_4.out
      obtain ⟨pQ0, pQ1, pQ2, pQ3⟩ := tb Q_4.out
      obtain ⟨fq0, fq1, fq2⟩ := tbf Q_4.out
      have pM0 := M_4.out.cell 0
      simp at pM0
      go_wp2_with fail
      refine (c_isSide _ true HS.out _).mono ?_
      rintro e w' ⟨rfl, rfl⟩
      go_wp2_with fail
      clear pK0 pK1 pK2 pK3 pL0 pL1 pL2 pL3 pQ0 pQ1 pQ2 pQ3 fq0 fq1 fq2 pM0
      have XB := Lib.hid (x_blocks B (w.heap.size + 1 + 1) w4 (M_4.out.cell 0) b1 b2)
      refine (c_multiplyYes 57 #[.pointer (some ⟨w.heap.size + 1 + 1, 0, none⟩)] (bdot B) R M K za zb a0 a1 _ (HA.out.kept B_4.out) (HBB.out.kept B_4.out) HV1.out HV2.out XB.out r1 r2 m1 m2 k1 k2 HNA.out HNB.out).mono ?_
      rintro e w5 ⟨b, cc, ys, rfl, hf, hy, bl⟩
      have HW := Lib.hid (hf.base (B' := w.heap.size) B_4.out.size)
      have HY := Lib.hid (hy.trans HVAL.out)
      clear hf hy
      have B_5 := Lib.hid (Below.next B_4.out bl)
      have K_5 := Lib.hid (K_4.out.below bl)
      have L_5 := Lib.hid (L_4.out.below bl)
      have M_5 := Lib.hid (M_4.out.below bl)
      have Q_5 := Lib.hid (Q_4.out.below bl)
      clear bl B_4 K_4 L_4 M_4 Q_4
      obtain ⟨pK0, pK1, pK2, pK3⟩ := tb K_5.out
      obtain ⟨pL0, pL1, pL2, pL3⟩ := tb L_5.out
      obtain ⟨pQ0, pQ1, pQ2, pQ3⟩ := tb Q_5.out
      obtain ⟨fq0, fq1, fq2⟩ := tbf Q_5.out
      go_wp2_with fail
      exact bodyPost_ret (v := .tuple #[.agg #[.int .i64 R, .int .i64 K, .slice b ys.length cc], .bool true]) (by simp [results, Try.results17, go_sem, pQ0, pQ1, pQ2]) rfl ⟨b, cc, ys, rfl, HW.out.off (store3 Q_5.out).2 Q_5.out (by decide), HY.out, ((B_5.out.setCell (by simp; omega) _).setCell (by simp; omega) _).setCell (by simp; omega) _⟩
end Go.Proofs.Ytkfpaehalfjhhaa
