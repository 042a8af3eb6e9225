/-
  What MulTensors returns, as the model and as the program make it. Conditions: the numbers can be read.
-/
import Derived.Test.YtaonfaeinoackaaEachMul
import Derived.Test.YtaonfaeinoackaaLike
import Derived.Test.YtaonfaeinoackaaComb
namespace Go.Proofs.Ytaonfaeinoackaa
open Go.RowKit Go.Deep Go.WideShapes Go.ChangeShapes
set_option linter.unusedVariables false

def vMulTensors (r0 c0 : Int) (z0 : List Nat) (r1 c1 : Int) (z1 : List Nat) : Int × Int × Bool × List Nat := if likeB r0 c0 r1 c1 z0.length z1.length = true then (r0, c0, true, (List.range z0.length).map fun i => cop .mul .f32 (canon .f32 (z0.getD i 0)) (canon .f32 (z1.getD i 0))) else (0, 0, false, [])
theorem vMulTensors_len (r0 c0 : Int) (z0 : List Nat) (r1 c1 : Int) (z1 : List Nat) : (vMulTensors r0 c0 z0 r1 c1 z1).2.2.2.length ≤ 1048576 := by
  unfold vMulTensors
  split
  · rename_i h
    obtain ⟨R, C, rfl, rfl, h1, h2, h3, h4, h5⟩ := vok_nat ((likeB_iff _ _ _ _ _ _).1 h).1
    have := (row_facts (A := 0) (n := z0.length) (cap := 0) h2 h3 h4 (by omega) h5).2.1
    simp; omega
  · simp
theorem like_len {r c r' c' : Int} {n n' : Nat} (h : likeB r c r' c' n n' = true) : n = n' ∧ n ≤ 256 ∧ 1 ≤ n := by
  obtain ⟨h1, h2, rfl, rfl⟩ := (likeB_iff _ _ _ _ _ _).1 h
  obtain ⟨⟨e1, e2⟩, ⟨e3, e4⟩, e5⟩ := (vokB_iff _ _ _).1 h1
  obtain ⟨_, _, e6⟩ := (vokB_iff _ _ _).1 h2
  have := mul_small e1 e2 e3 e4
  omega
set_option maxHeartbeats 2000000 in
theorem t_sMulTensors (r0 c0 : Int) (z0 : List Nat) (r1 c1 : Int) (z1 : List Nat) (a0 a1 : Option Addr) (w : World) (h0 : IsFloats .f32 w a0 z0.length z0.length z0) (h1 : IsFloats .f32 w a1 z1.length z1.length z1) :
    Calls Try.prog 33 #[.agg #[.int .i64 r0, .int .i64 c0, .slice a0 z0.length z0.length], .agg #[.int .i64 r1, .int .i64 c1, .slice a1 z1.length z1.length]] w (RetT (vMulTensors r0 c0 z0 r1 c1 z1).1 (vMulTensors r0 c0 z0 r1 c1 z1).2.1 (vMulTensors r0 c0 z0 r1 c1 z1).2.2.1 (vMulTensors r0 c0 z0 r1 c1 z1).2.2.2 w) := by
  have hn : z0.length ≤ 9223372036854775807 := by have := h0.2.1; unfold maxLen at this; exact this
  have hn' : z1.length ≤ 9223372036854775807 := by have := h1.2.1; unfold maxLen at this; exact this
  have HI := Lib.hid h0
  have HJ := Lib.hid h1
  clear h0 h1
  cases hv : likeB r0 c0 r1 c1 z0.length z1.length with
  | false =>
    have HV := Lib.hid hv
    have HX := Lib.hid (show vMulTensors r0 c0 z0 r1 c1 z1 = (0, 0, false, []) by unfold vMulTensors; rw [if_neg (by rw [hv]; decide)])
    clear hv
    rw [HX.out]
    go_enter Try.func33, Try.ntmps33
    go_wp2_with fail
    have B_0 := Lib.hid (Below.refl w.heap.size w)
    have bl := (Below.refl (w).heap.size (w)).alloc (Nat.le_refl _) (.cells #[.int .i64 r0, .int .i64 c0, .slice a0 z0.length z0.length] 36)
    have hn := Blk.new (w) 36 #[.int .i64 r0, .int .i64 c0, .slice a0 z0.length z0.length]
    have B_1 := Lib.hid (Below.next B_0.out bl)
    clear bl B_0
    have K_1 := Lib.hid hn
    clear hn
    have bl := (Below.refl ((w).alloc (.cells #[.int .i64 r0, .int .i64 c0, .slice a0 z0.length z0.length] 36)).heap.size ((w).alloc (.cells #[.int .i64 r0, .int .i64 c0, .slice a0 z0.length z0.length] 36))).alloc (Nat.le_refl _) (.cells #[.int .i64 r1, .int .i64 c1, .slice a1 z1.length z1.length] 36)
    have hn := Blk.new ((w).alloc (.cells #[.int .i64 r0, .int .i64 c0, .slice a0 z0.length z0.length] 36)) 36 #[.int .i64 r1, .int .i64 c1, .slice a1 z1.length z1.length]
    simp only [World.size_alloc] at hn
    have B_2 := Lib.hid (Below.next B_1.out bl)
    have K_2 := Lib.hid (K_1.out.below bl)
    clear bl B_1 K_1
    have L_2 := Lib.hid hn
    clear hn
    have bl := (Below.refl (((w).alloc (.cells #[.int .i64 r0, .int .i64 c0, .slice a0 z0.length z0.length] 36)).alloc (.cells #[.int .i64 r1, .int .i64 c1, .slice a1 z1.length z1.length] 36)).heap.size (((w).alloc (.cells #[.int .i64 r0, .int .i64 c0, .slice a0 z0.length z0.length] 36)).alloc (.cells #[.int .i64 r1, .int .i64 c1, .slice a1 z1.length z1.length] 36))).alloc (Nat.le_refl _) (.cells #[.int .i64 0, .int .i64 0, .slice none 0 0] 36)
    have hn := Blk.new (((w).alloc (.cells #[.int .i64 r0, .int .i64 c0, .slice a0 z0.length z0.length] 36)).alloc (.cells #[.int .i64 r1, .int .i64 c1, .slice a1 z1.length z1.length] 36)) 36 #[.int .i64 0, .int .i64 0, .slice none 0 0]
    simp only [World.size_alloc] at hn
    have B_3 := Lib.hid (Below.next B_2.out bl)
    have K_3 := Lib.hid (K_2.out.below bl)
    have L_3 := Lib.hid (L_2.out.below bl)
    clear bl B_2 K_2 L_2
    have Q_3 := Lib.hid hn
    clear hn
    generalize (((w).alloc (.cells #[.int .i64 r0, .int .i64 c0, .slice a0 z0.length z0.length] 36)).alloc (.cells #[.int .i64 r1, .int .i64 c1, .slice a1 z1.length z1.length] 36)).alloc (.cells #[.int .i64 0, .int .i64 0, .slice none 0 0] 36) = w3 at B_3 K_3 L_3 Q_3 ⊢
    obtain ⟨pK0, pK1, pK2, pK3⟩ := tb K_3.out
    obtain ⟨pL0, pL1, pL2, pL3⟩ := tb L_3.out
    obtain ⟨pQ0, pQ1, pQ2, pQ3⟩ := tb Q_3.out
    obtain ⟨fq0, fq1, fq2⟩ := tbf Q_3.out
    have CL := c_l02Like w.heap.size (w.heap.size + 1) r0 c0 r1 c1 a0 a1 z0.length z1.length z0.length z1.length hn hn' w3 pK0 pK1 pK2 pL0 pL1 pL2
    rw [HV.out] at CL
    refine (CL).mono ?_
    rintro e w4 ⟨rfl, dn⟩
    have bl := dn.below
    clear dn
    have B_4 := Lib.hid (Below.next B_3.out bl)
    have K_4 := Lib.hid (K_3.out.below bl)
    have L_4 := Lib.hid (L_3.out.below bl)
    have Q_4 := Lib.hid (Q_3.out.below bl)
    clear bl B_3 K_3 L_3 Q_3
    clear CL
    clear pK0 pK1 pK2 pK3 pL0 pL1 pL2 pL3 pQ0 pQ1 pQ2 pQ3 fq0 fq1 fq2
    obtain ⟨pK0, pK1, pK2, pK3⟩ := tb K_4.out
    obtain ⟨pL0, pL1, pL2, pL3⟩ := tb L_4.out
    obtain ⟨pQ0, pQ1, pQ2, pQ3⟩ := tb Q_4.out
    obtain ⟨fq0, fq1, fq2⟩ := tbf Q_4.out
    go_wp2_with fail
    exact bodyPost_ret (v := .tuple #[.agg #[.int .i64 0, .int .i64 0, .slice none 0 0], .bool false]) (by simp [results, Try.results33, go_sem, pQ0, pQ1, pQ2]) rfl ⟨none, 0, [], rfl, nil_own _ _, rfl, ((B_4.out.setCell (by simp; omega) _).setCell (by simp; omega) _).setCell (by simp; omega) _⟩
  | true =>
    have HV := Lib.hid hv
    have HX := Lib.hid (show vMulTensors r0 c0 z0 r1 c1 z1 = (r0, c0, true, (List.range z0.length).map fun i => cop .mul .f32 (canon .f32 (z0.getD i 0)) (canon .f32 (z1.getD i 0))) by unfold vMulTensors; rw [if_pos hv])
    obtain ⟨hl, h256, h1⟩ := like_len hv
    have HL := Lib.hid hl
    clear hl
    clear hv
    rw [HX.out]
    go_enter Try.func33, Try.ntmps33
    go_wp2_with fail
    have B_0 := Lib.hid (Below.refl w.heap.size w)
    have bl := (Below.refl (w).heap.size (w)).alloc (Nat.le_refl _) (.cells #[.int .i64 r0, .int .i64 c0, .slice a0 z0.length z0.length] 36)
    have hn := Blk.new (w) 36 #[.int .i64 r0, .int .i64 c0, .slice a0 z0.length z0.length]
    have B_1 := Lib.hid (Below.next B_0.out bl)
    clear bl B_0
    have K_1 := Lib.hid hn
    clear hn
    have bl := (Below.refl ((w).alloc (.cells #[.int .i64 r0, .int .i64 c0, .slice a0 z0.length z0.length] 36)).heap.size ((w).alloc (.cells #[.int .i64 r0, .int .i64 c0, .slice a0 z0.length z0.length] 36))).alloc (Nat.le_refl _) (.cells #[.int .i64 r1, .int .i64 c1, .slice a1 z1.length z1.length] 36)
    have hn := Blk.new ((w).alloc (.cells #[.int .i64 r0, .int .i64 c0, .slice a0 z0.length z0.length] 36)) 36 #[.int .i64 r1, .int .i64 c1, .slice a1 z1.length z1.length]
    simp only [World.size_alloc] at hn
    have B_2 := Lib.hid (Below.next B_1.out bl)
    have K_2 := Lib.hid (K_1.out.below bl)
    clear bl B_1 K_1
    have L_2 := Lib.hid hn
    clear hn
    have bl := (Below.refl (((w).alloc (.cells #[.int .i64 r0, .int .i64 c0, .slice a0 z0.length z0.length] 36)).alloc (.cells #[.int .i64 r1, .int .i64 c1, .slice a1 z1.length z1.length] 36)).heap.size (((w).alloc (.cells #[.int .i64 r0, .int .i64 c0, .slice a0 z0.length z0.length] 36)).alloc (.cells #[.int .i64 r1, .int .i64 c1, .slice a1 z1.length z1.length] 36))).alloc (Nat.le_refl _) (.cells #[.int .i64 0, .int .i64 0, .slice none 0 0] 36)
    have hn := Blk.new (((w).alloc (.cells #[.int .i64 r0, .int .i64 c0, .slice a0 z0.length z0.length] 36)).alloc (.cells #[.int .i64 r1, .int .i64 c1, .slice a1 z1.length z1.length] 36)) 36 #[.int .i64 0, .int .i64 0, .slice none 0 0]
    simp only [World.size_alloc] at hn
    have B_3 := Lib.hid (Below.next B_2.out bl)
    have K_3 := Lib.hid (K_2.out.below bl)
    have L_3 := Lib.hid (L_2.out.below bl)
    clear bl B_2 K_2 L_2
    have Q_3 := Lib.hid hn
    clear hn
    generalize (((w).alloc (.cells #[.int .i64 r0, .int .i64 c0, .slice a0 z0.length z0.length] 36)).alloc (.cells #[.int .i64 r1, .int .i64 c1, .slice a1 z1.length z1.length] 36)).alloc (.cells #[.int .i64 0, .int .i64 0, .slice none 0 0] 36) = w3 at B_3 K_3 L_3 Q_3 ⊢
    obtain ⟨pK0, pK1, pK2, pK3⟩ := tb K_3.out
    obtain ⟨pL0, pL1, pL2, pL3⟩ := tb L_3.out
    obtain ⟨pQ0, pQ1, pQ2, pQ3⟩ := tb Q_3.out
    obtain ⟨fq0, fq1, fq2⟩ := tbf Q_3.out
    have CL := c_l02Like w.heap.size (w.heap.size + 1) r0 c0 r1 c1 a0 a1 z0.length z1.length z0.length z1.length hn hn' w3 pK0 pK1 pK2 pL0 pL1 pL2
    rw [HV.out] at CL
    refine (CL).mono ?_
    rintro e w4 ⟨rfl, dn⟩
    have bl := dn.below
    clear dn
    have B_4 := Lib.hid (Below.next B_3.out bl)
    have K_4 := Lib.hid (K_3.out.below bl)
    have L_4 := Lib.hid (L_3.out.below bl)
    have Q_4 := Lib.hid (Q_3.out.below bl)
    clear bl B_3 K_3 L_3 Q_3
    clear CL
    clear pK0 pK1 pK2 pK3 pL0 pL1 pL2 pL3 pQ0 pQ1 pQ2 pQ3 fq0 fq1 fq2
    obtain ⟨pK0, pK1, pK2, pK3⟩ := tb K_4.out
    obtain ⟨pL0, pL1, pL2, pL3⟩ := tb L_4.out
    obtain ⟨pQ0, pQ1, pQ2, pQ3⟩ := tb Q_4.out
    obtain ⟨fq0, fq1, fq2⟩ := tbf Q_4.out
    go_wp2_with fail
    clear pK0 pK1 pK2 pK3 pL0 pL1 pL2 pL3 pQ0 pQ1 pQ2 pQ3 fq0 fq1 fq2
    obtain ⟨pK0, pK1, pK2, pK3⟩ := tb K_4.out
    obtain ⟨pL0, pL1, pL2, pL3⟩ := tb L_4.out
    obtain ⟨pQ0, pQ1, pQ2, pQ3⟩ := tb Q_4.out
    obtain ⟨fq0, fq1, fq2⟩ := tbf Q_4.out
    have HJ' := HJ.out.kept B_4.out
    rw [← HL.out] at pL2 HJ'
    refine (c_l02Mul w.heap.size (w.heap.size + 1) r0 c0 a0 a1 z0.length z0.length z0.length z0 z1 _ (HI.out.kept B_4.out) HJ' h256 pK0 pK1 pK2 pL2).mono ?_
    rintro e w5 ⟨b, cc, ys, rfl, hf, hy, bl⟩
    have HW := Lib.hid (hf.base B_4.out.size)
    have HYS := Lib.hid hy
    clear hf hy
    have B_5 := Lib.hid (Below.next B_4.out bl)
    have K_5 := Lib.hid (K_4.out.below bl)
    have L_5 := Lib.hid (L_4.out.below bl)
    have Q_5 := Lib.hid (Q_4.out.below bl)
    clear bl B_4 K_4 L_4 Q_4
    clear HJ'
    clear pK0 pK1 pK2 pK3 pL0 pL1 pL2 pL3 pQ0 pQ1 pQ2 pQ3 fq0 fq1 fq2
    obtain ⟨pK0, pK1, pK2, pK3⟩ := tb K_5.out
    obtain ⟨pL0, pL1, pL2, pL3⟩ := tb L_5.out
    obtain ⟨pQ0, pQ1, pQ2, pQ3⟩ := tb Q_5.out
    obtain ⟨fq0, fq1, fq2⟩ := tbf Q_5.out
    go_wp2_with fail
    exact bodyPost_ret (v := .tuple #[.agg #[.int .i64 r0, .int .i64 c0, .slice b ys.length cc], .bool true]) (by simp [results, Try.results33, go_sem, pQ0, pQ1, pQ2]) rfl ⟨b, cc, ys, rfl, HW.out.off (store3 Q_5.out).2 Q_5.out (by decide), HYS.out, ((B_5.out.setCell (by simp; omega) _).setCell (by simp; omega) _).setCell (by simp; omega) _⟩
set_option maxHeartbeats 2000000 in
theorem c_MulTensorsCombine (r0 c0 : Int) (z0 : List Nat) (r1 c1 : Int) (z1 : List Nat) (a0 a1 : Option Addr) (w : World) (h0 : IsFloats .f32 w a0 z0.length z0.length z0) (h1 : IsFloats .f32 w a1 z1.length z1.length z1) :
    Calls Try.prog 65 #[.agg #[.int .i64 r0, .int .i64 c0, .slice a0 z0.length z0.length], .agg #[.int .i64 r1, .int .i64 c1, .slice a1 z1.length z1.length], .func (.func 68) #[] #[]] w (RetT (vMulTensors r0 c0 z0 r1 c1 z1).1 (vMulTensors r0 c0 z0 r1 c1 z1).2.1 (vMulTensors r0 c0 z0 r1 c1 z1).2.2.1 (vMulTensors r0 c0 z0 r1 c1 z1).2.2.2 w) := by
  have hn : z0.length ≤ 9223372036854775807 := by have := h0.2.1; unfold maxLen at this; exact this
  have hn' : z1.length ≤ 9223372036854775807 := by have := h1.2.1; unfold maxLen at this; exact this
  have HI := Lib.hid h0
  have HJ := Lib.hid h1
  clear h0 h1
  cases hv : likeB r0 c0 r1 c1 z0.length z1.length with
  | false =>
    have HV := Lib.hid hv
    have HX := Lib.hid (show vMulTensors r0 c0 z0 r1 c1 z1 = (0, 0, false, []) by unfold vMulTensors; rw [if_neg (by rw [hv]; decide)])
    clear hv
    rw [HX.out]
    go_enter Try.func65, Try.ntmps65
    go_wp2_with fail
    have B_0 := Lib.hid (Below.refl w.heap.size w)
    have bl := (Below.refl (w).heap.size (w)).alloc (Nat.le_refl _) (.cells #[.int .i64 r0, .int .i64 c0, .slice a0 z0.length z0.length] 36)
    have hn := Blk.new (w) 36 #[.int .i64 r0, .int .i64 c0, .slice a0 z0.length z0.length]
    have B_1 := Lib.hid (Below.next B_0.out bl)
    clear bl B_0
    have K_1 := Lib.hid hn
    clear hn
    have bl := (Below.refl ((w).alloc (.cells #[.int .i64 r0, .int .i64 c0, .slice a0 z0.length z0.length] 36)).heap.size ((w).alloc (.cells #[.int .i64 r0, .int .i64 c0, .slice a0 z0.length z0.length] 36))).alloc (Nat.le_refl _) (.cells #[.int .i64 r1, .int .i64 c1, .slice a1 z1.length z1.length] 36)
    have hn := Blk.new ((w).alloc (.cells #[.int .i64 r0, .int .i64 c0, .slice a0 z0.length z0.length] 36)) 36 #[.int .i64 r1, .int .i64 c1, .slice a1 z1.length z1.length]
    simp only [World.size_alloc] at hn
    have B_2 := Lib.hid (Below.next B_1.out bl)
    have K_2 := Lib.hid (K_1.out.below bl)
    clear bl B_1 K_1
    have L_2 := Lib.hid hn
    clear hn
    have bl := (Below.refl (((w).alloc (.cells #[.int .i64 r0, .int .i64 c0, .slice a0 z0.length z0.length] 36)).alloc (.cells #[.int .i64 r1, .int .i64 c1, .slice a1 z1.length z1.length] 36)).heap.size (((w).alloc (.cells #[.int .i64 r0, .int .i64 c0, .slice a0 z0.length z0.length] 36)).alloc (.cells #[.int .i64 r1, .int .i64 c1, .slice a1 z1.length z1.length] 36))).alloc (Nat.le_refl _) (.cells #[.int .i64 0, .int .i64 0, .slice none 0 0] 36)
    have hn := Blk.new (((w).alloc (.cells #[.int .i64 r0, .int .i64 c0, .slice a0 z0.length z0.length] 36)).alloc (.cells #[.int .i64 r1, .int .i64 c1, .slice a1 z1.length z1.length] 36)) 36 #[.int .i64 0, .int .i64 0, .slice none 0 0]
    simp only [World.size_alloc] at hn
    have B_3 := Lib.hid (Below.next B_2.out bl)
    have K_3 := Lib.hid (K_2.out.below bl)
    have L_3 := Lib.hid (L_2.out.below bl)
    clear bl B_2 K_2 L_2
    have Q_3 := Lib.hid hn
    clear hn
    generalize (((w).alloc (.cells #[.int .i64 r0, .int .i64 c0, .slice a0 z0.length z0.length] 36)).alloc (.cells #[.int .i64 r1, .int .i64 c1, .slice a1 z1.length z1.length] 36)).alloc (.cells #[.int .i64 0, .int .i64 0, .slice none 0 0] 36) = w3 at B_3 K_3 L_3 Q_3 ⊢
    have CL := c_haveSameShape r0 c0 r1 c1 a0 a1 z0.length z1.length z0.length z1.length w3
    rw [HV.out] at CL
    refine (CL).mono ?_
    rintro e w4 ⟨rfl, bl⟩
    have B_4 := Lib.hid (Below.next B_3.out bl)
    have K_4 := Lib.hid (K_3.out.below bl)
    have L_4 := Lib.hid (L_3.out.below bl)
    have Q_4 := Lib.hid (Q_3.out.below bl)
    clear bl B_3 K_3 L_3 Q_3
    clear CL
    obtain ⟨pK0, pK1, pK2, pK3⟩ := tb K_4.out
    obtain ⟨pL0, pL1, pL2, pL3⟩ := tb L_4.out
    obtain ⟨pQ0, pQ1, pQ2, pQ3⟩ := tb Q_4.out
    obtain ⟨fq0, fq1, fq2⟩ := tbf Q_4.out
    go_wp2_with fail
    exact bodyPost_ret (v := .tuple #[.agg #[.int .i64 0, .int .i64 0, .slice none 0 0], .bool false]) (by simp [results, Try.results65, go_sem, pQ0, pQ1, pQ2]) rfl ⟨none, 0, [], rfl, nil_own _ _, rfl, ((B_4.out.setCell (by simp; omega) _).setCell (by simp; omega) _).setCell (by simp; omega) _⟩
  | true =>
    have HV := Lib.hid hv
    have HX := Lib.hid (show vMulTensors r0 c0 z0 r1 c1 z1 = (r0, c0, true, (List.range z0.length).map fun i => cop .mul .f32 (canon .f32 (z0.getD i 0)) (canon .f32 (z1.getD i 0))) by unfold vMulTensors; rw [if_pos hv])
    obtain ⟨hl, h256, h1⟩ := like_len hv
    have HL := Lib.hid hl
    clear hl
    clear hv
    rw [HX.out]
    go_enter Try.func65, Try.ntmps65
    go_wp2_with fail
    have B_0 := Lib.hid (Below.refl w.heap.size w)
    have bl := (Below.refl (w).heap.size (w)).alloc (Nat.le_refl _) (.cells #[.int .i64 r0, .int .i64 c0, .slice a0 z0.length z0.length] 36)
    have hn := Blk.new (w) 36 #[.int .i64 r0, .int .i64 c0, .slice a0 z0.length z0.length]
    have B_1 := Lib.hid (Below.next B_0.out bl)
    clear bl B_0
    have K_1 := Lib.hid hn
    clear hn
    have bl := (Below.refl ((w).alloc (.cells #[.int .i64 r0, .int .i64 c0, .slice a0 z0.length z0.length] 36)).heap.size ((w).alloc (.cells #[.int .i64 r0, .int .i64 c0, .slice a0 z0.length z0.length] 36))).alloc (Nat.le_refl _) (.cells #[.int .i64 r1, .int .i64 c1, .slice a1 z1.length z1.length] 36)
    have hn := Blk.new ((w).alloc (.cells #[.int .i64 r0, .int .i64 c0, .slice a0 z0.length z0.length] 36)) 36 #[.int .i64 r1, .int .i64 c1, .slice a1 z1.length z1.length]
    simp only [World.size_alloc] at hn
    have B_2 := Lib.hid (Below.next B_1.out bl)
    have K_2 := Lib.hid (K_1.out.below bl)
    clear bl B_1 K_1
    have L_2 := Lib.hid hn
    clear hn
    have bl := (Below.refl (((w).alloc (.cells #[.int .i64 r0, .int .i64 c0, .slice a0 z0.length z0.length] 36)).alloc (.cells #[.int .i64 r1, .int .i64 c1, .slice a1 z1.length z1.length] 36)).heap.size (((w).alloc (.cells #[.int .i64 r0, .int .i64 c0, .slice a0 z0.length z0.length] 36)).alloc (.cells #[.int .i64 r1, .int .i64 c1, .slice a1 z1.length z1.length] 36))).alloc (Nat.le_refl _) (.cells #[.int .i64 0, .int .i64 0, .slice none 0 0] 36)
    have hn := Blk.new (((w).alloc (.cells #[.int .i64 r0, .int .i64 c0, .slice a0 z0.length z0.length] 36)).alloc (.cells #[.int .i64 r1, .int .i64 c1, .slice a1 z1.length z1.length] 36)) 36 #[.int .i64 0, .int .i64 0, .slice none 0 0]
    simp only [World.size_alloc] at hn
    have B_3 := Lib.hid (Below.next B_2.out bl)
    have K_3 := Lib.hid (K_2.out.below bl)
    have L_3 := Lib.hid (L_2.out.below bl)
    clear bl B_2 K_2 L_2
    have Q_3 := Lib.hid hn
    clear hn
    generalize (((w).alloc (.cells #[.int .i64 r0, .int .i64 c0, .slice a0 z0.length z0.length] 36)).alloc (.cells #[.int .i64 r1, .int .i64 c1, .slice a1 z1.length z1.length] 36)).alloc (.cells #[.int .i64 0, .int .i64 0, .slice none 0 0] 36) = w3 at B_3 K_3 L_3 Q_3 ⊢
    have CL := c_haveSameShape r0 c0 r1 c1 a0 a1 z0.length z1.length z0.length z1.length w3
    rw [HV.out] at CL
    refine (CL).mono ?_
    rintro e w4 ⟨rfl, bl⟩
    have B_4 := Lib.hid (Below.next B_3.out bl)
    have K_4 := Lib.hid (K_3.out.below bl)
    have L_4 := Lib.hid (L_3.out.below bl)
    have Q_4 := Lib.hid (Q_3.out.below bl)
    clear bl B_3 K_3 L_3 Q_3
    clear CL
    obtain ⟨pK0, pK1, pK2, pK3⟩ := tb K_4.out
    obtain ⟨pL0, pL1, pL2, pL3⟩ := tb L_4.out
    obtain ⟨pQ0, pQ1, pQ2, pQ3⟩ := tb Q_4.out
    obtain ⟨fq0, fq1, fq2⟩ := tbf Q_4.out
    go_wp2_with fail
    clear pK0 pK1 pK2 pK3 pL0 pL1 pL2 pL3 pQ0 pQ1 pQ2 pQ3 fq0 fq1 fq2
    refine (c_combineProd r0 c0 a0 a1 z0.length z0.length z1.length z1.length z0 z1 _ (HI.out.kept B_4.out) (HJ.out.kept B_4.out) h256 (by have := HL.out; omega) (by have := HL.out; omega)).mono ?_
    rintro e w5 ⟨b, cc, ys, rfl, hf, hy, bl⟩
    have HW := Lib.hid (hf.base B_4.out.size)
    have HYS := Lib.hid hy
    clear hf hy
    have B_5 := Lib.hid (Below.next B_4.out bl)
    have K_5 := Lib.hid (K_4.out.below bl)
    have L_5 := Lib.hid (L_4.out.below bl)
    have Q_5 := Lib.hid (Q_4.out.below bl)
    clear bl B_4 K_4 L_4 Q_4
    have HYS' := Lib.hid (HYS.out.trans (mod_self_map HL.out fun x y => cop .mul .f32 (canon .f32 (z0.getD x 0)) (canon .f32 (z1.getD y 0))))
    clear HYS
    have HYS := Lib.hid (show ys.map (canon .f32) = (List.range z0.length).map fun i => cop .mul .f32 (canon .f32 (z0.getD i 0)) (canon .f32 (z1.getD i 0)) from HYS'.out)
    obtain ⟨pK0, pK1, pK2, pK3⟩ := tb K_5.out
    obtain ⟨pL0, pL1, pL2, pL3⟩ := tb L_5.out
    obtain ⟨pQ0, pQ1, pQ2, pQ3⟩ := tb Q_5.out
    obtain ⟨fq0, fq1, fq2⟩ := tbf Q_5.out
    go_wp2_with fail
    exact bodyPost_ret (v := .tuple #[.agg #[.int .i64 r0, .int .i64 c0, .slice b ys.length cc], .bool true]) (by simp [results, Try.results65, go_sem, pQ0, pQ1, pQ2]) rfl ⟨b, cc, ys, rfl, HW.out.off (store3 Q_5.out).2 Q_5.out (by decide), HYS.out, ((B_5.out.setCell (by simp; omega) _).setCell (by simp; omega) _).setCell (by simp; omega) _⟩
set_option maxHeartbeats 2000000 in
theorem t_iMulTensors (r0 c0 : Int) (z0 : List Nat) (r1 c1 : Int) (z1 : List Nat) (a0 a1 : Option Addr) (w : World) (h0 : IsFloats .f32 w a0 z0.length z0.length z0) (h1 : IsFloats .f32 w a1 z1.length z1.length z1) :
    Calls Try.prog 34 #[.agg #[.int .i64 r0, .int .i64 c0, .slice a0 z0.length z0.length], .agg #[.int .i64 r1, .int .i64 c1, .slice a1 z1.length z1.length]] w (RetT (vMulTensors r0 c0 z0 r1 c1 z1).1 (vMulTensors r0 c0 z0 r1 c1 z1).2.1 (vMulTensors r0 c0 z0 r1 c1 z1).2.2.1 (vMulTensors r0 c0 z0 r1 c1 z1).2.2.2 w) := by
  have hn : z0.length ≤ 9223372036854775807 := by have := h0.2.1; unfold maxLen at this; exact this
  have hn' : z1.length ≤ 9223372036854775807 := by have := h1.2.1; unfold maxLen at this; exact this
  have HI := Lib.hid h0
  have HJ := Lib.hid h1
  clear h0 h1
  obtain ⟨X, hX⟩ : ∃ X, vMulTensors r0 c0 z0 r1 c1 z1 = X := ⟨_, rfl⟩
  have HX := Lib.hid hX
  rw [hX]
  clear hX
  obtain ⟨XR, XC, XB, XZ⟩ := X
  go_enter Try.func34, Try.ntmps34
  go_wp2_with fail
  have B_0 := Lib.hid (Below.refl w.heap.size w)
  have bl := (Below.refl (w).heap.size (w)).alloc (Nat.le_refl _) (.cells #[.int .i64 r0, .int .i64 c0, .slice a0 z0.length z0.length] 36)
  have hn := Blk.new (w) 36 #[.int .i64 r0, .int .i64 c0, .slice a0 z0.length z0.length]
  have B_1 := Lib.hid (Below.next B_0.out bl)
  clear bl B_0
  have K_1 := Lib.hid hn
  clear hn
  have bl := (Below.refl ((w).alloc (.cells #[.int .i64 r0, .int .i64 c0, .slice a0 z0.length z0.length] 36)).heap.size ((w).alloc (.cells #[.int .i64 r0, .int .i64 c0, .slice a0 z0.length z0.length] 36))).alloc (Nat.le_refl _) (.cells #[.int .i64 r1, .int .i64 c1, .slice a1 z1.length z1.length] 36)
  have hn := Blk.new ((w).alloc (.cells #[.int .i64 r0, .int .i64 c0, .slice a0 z0.length z0.length] 36)) 36 #[.int .i64 r1, .int .i64 c1, .slice a1 z1.length z1.length]
  simp only [World.size_alloc] at hn
  have B_2 := Lib.hid (Below.next B_1.out bl)
  have K_2 := Lib.hid (K_1.out.below bl)
  clear bl B_1 K_1
  have L_2 := Lib.hid hn
  clear hn
  have bl := (Below.refl (((w).alloc (.cells #[.int .i64 r0, .int .i64 c0, .slice a0 z0.length z0.length] 36)).alloc (.cells #[.int .i64 r1, .int .i64 c1, .slice a1 z1.length z1.length] 36)).heap.size (((w).alloc (.cells #[.int .i64 r0, .int .i64 c0, .slice a0 z0.length z0.length] 36)).alloc (.cells #[.int .i64 r1, .int .i64 c1, .slice a1 z1.length z1.length] 36))).alloc (Nat.le_refl _) (.cells #[.int .i64 0, .int .i64 0, .slice none 0 0] 36)
  have hn := Blk.new (((w).alloc (.cells #[.int .i64 r0, .int .i64 c0, .slice a0 z0.length z0.length] 36)).alloc (.cells #[.int .i64 r1, .int .i64 c1, .slice a1 z1.length z1.length] 36)) 36 #[.int .i64 0, .int .i64 0, .slice none 0 0]
  simp only [World.size_alloc] at hn
  have B_3 := Lib.hid (Below.next B_2.out bl)
  have K_3 := Lib.hid (K_2.out.below bl)
  have L_3 := Lib.hid (L_2.out.below bl)
  clear bl B_2 K_2 L_2
  have Q_3 := Lib.hid hn
  clear hn
  generalize (((w).alloc (.cells #[.int .i64 r0, .int .i64 c0, .slice a0 z0.length z0.length] 36)).alloc (.cells #[.int .i64 r1, .int .i64 c1, .slice a1 z1.length z1.length] 36)).alloc (.cells #[.int .i64 0, .int .i64 0, .slice none 0 0] 36) = w3 at B_3 K_3 L_3 Q_3 ⊢
  have CC := c_MulTensorsCombine r0 c0 z0 r1 c1 z1 a0 a1 w3 (HI.out.kept B_3.out) (HJ.out.kept B_3.out)
  rw [HX.out] at CC
  refine CC.mono ?_
  clear CC
  rintro e w4 ⟨b, cc, ys, rfl, hf, hy, bl⟩
  have HW := Lib.hid (hf.base B_3.out.size)
  have HYS := Lib.hid hy
  clear hf hy
  have B_4 := Lib.hid (Below.next B_3.out bl)
  have K_4 := Lib.hid (K_3.out.below bl)
  have L_4 := Lib.hid (L_3.out.below bl)
  have Q_4 := Lib.hid (Q_3.out.below bl)
  clear bl B_3 K_3 L_3 Q_3
  obtain ⟨pK0, pK1, pK2, pK3⟩ := tb K_4.out
  obtain ⟨pL0, pL1, pL2, pL3⟩ := tb L_4.out
  obtain ⟨pQ0, pQ1, pQ2, pQ3⟩ := tb Q_4.out
  obtain ⟨fq0, fq1, fq2⟩ := tbf Q_4.out
  go_wp2_with fail
  exact bodyPost_ret (v := .tuple #[.agg #[.int .i64 XR, .int .i64 XC, .slice b ys.length cc], .bool XB]) (by simp [results, Try.results34, go_sem, pQ0, pQ1, pQ2]) rfl ⟨b, cc, ys, rfl, HW.out.off (store3 Q_4.out).2 Q_4.out (by decide), HYS.out, ((B_4.out.setCell (by simp; omega) _).setCell (by simp; omega) _).setCell (by simp; omega) _⟩
end Go.Proofs.Ytaonfaeinoackaa
