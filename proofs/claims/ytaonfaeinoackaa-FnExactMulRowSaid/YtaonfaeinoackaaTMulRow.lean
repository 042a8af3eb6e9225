/-
  What MulRow returns, as the model and as the program make it. Conditions: the numbers can be read.
-/
import Derived.Test.YtaonfaeinoackaaEachMulRow
import Derived.Test.YtaonfaeinoackaaLike
import Derived.Test.YtaonfaeinoackaaComb
namespace Go.Proofs.Ytaonfaeinoackaa
open Go.RowKit Go.Deep Go.WideShapes Go.ChangeShapes
set_option linter.unusedVariables false

def vMulRow (r0 c0 : Int) (z0 z1 : List Nat) : Int × Int × Bool × List Nat := if (vokB r0 c0 z0.length && ((z1.length : Int) == c0)) = true then (r0, c0, true, (List.range z0.length).map fun i => cop .mul .f32 (canon .f32 (z0.getD i 0)) (canon .f32 (z1.getD (i % z1.length) 0))) else (0, 0, false, [])
theorem vMulRow_len (r0 c0 : Int) (z0 z1 : List Nat) : (vMulRow r0 c0 z0 z1).2.2.2.length ≤ 1048576 := by
  unfold vMulRow
  split
  · rename_i h
    simp only [Bool.and_eq_true] at h
    obtain ⟨R, C, rfl, rfl, h1, h2, h3, h4, h5⟩ := vok_nat h.1
    have := (row_facts (A := 0) (n := z0.length) (cap := 0) h2 h3 h4 (by omega) h5).2.1
    simp; omega
  · simp
set_option maxHeartbeats 2000000 in
theorem t_sMulRow (r0 c0 : Int) (z0 z1 : List Nat) (a0 a1 : Option Addr) (w : World) (h0 : IsFloats .f32 w a0 z0.length z0.length z0) (h1 : IsFloats .f32 w a1 z1.length z1.length z1) :
    Calls Try.prog 38 #[.agg #[.int .i64 r0, .int .i64 c0, .slice a0 z0.length z0.length], .slice a1 z1.length z1.length] w (RetT (vMulRow r0 c0 z0 z1).1 (vMulRow r0 c0 z0 z1).2.1 (vMulRow r0 c0 z0 z1).2.2.1 (vMulRow r0 c0 z0 z1).2.2.2 w) := by
  have hn : z0.length ≤ 9223372036854775807 := by have := h0.2.1; unfold maxLen at this; exact this
  have hn' : z1.length ≤ 9223372036854775807 := by have := h1.2.1; unfold maxLen at this; exact this
  have HI := Lib.hid h0
  have HJ := Lib.hid h1
  clear h0 h1
  cases hv : vokB r0 c0 z0.length with
  | false =>
    have HV := Lib.hid hv
    have HX := Lib.hid (show vMulRow r0 c0 z0 z1 = (0, 0, false, []) by unfold vMulRow; rw [if_neg (by rw [hv]; simp)])
    clear hv
    rw [HX.out]
    go_enter Try.func38, Try.ntmps38
    go_wp2_with fail
    have B_0 := Lib.hid (Below.refl w.heap.size w)
    have bl := (Below.refl (w).heap.size (w)).alloc (Nat.le_refl _) (.cells #[.int .i64 r0, .int .i64 c0, .slice a0 z0.length z0.length] 36)
    have hn := Blk.new (w) 36 #[.int .i64 r0, .int .i64 c0, .slice a0 z0.length z0.length]
    have B_1 := Lib.hid (Below.next B_0.out bl)
    clear bl B_0
    have K_1 := Lib.hid hn
    clear hn
    have bl := (Below.refl ((w).alloc (.cells #[.int .i64 r0, .int .i64 c0, .slice a0 z0.length z0.length] 36)).heap.size ((w).alloc (.cells #[.int .i64 r0, .int .i64 c0, .slice a0 z0.length z0.length] 36))).alloc (Nat.le_refl _) (.cells #[.int .i64 0, .int .i64 0, .slice none 0 0] 36)
    have hn := Blk.new ((w).alloc (.cells #[.int .i64 r0, .int .i64 c0, .slice a0 z0.length z0.length] 36)) 36 #[.int .i64 0, .int .i64 0, .slice none 0 0]
    simp only [World.size_alloc] at hn
    have B_2 := Lib.hid (Below.next B_1.out bl)
    have K_2 := Lib.hid (K_1.out.below bl)
    clear bl B_1 K_1
    have Q_2 := Lib.hid hn
    clear hn
    generalize ((w).alloc (.cells #[.int .i64 r0, .int .i64 c0, .slice a0 z0.length z0.length] 36)).alloc (.cells #[.int .i64 0, .int .i64 0, .slice none 0 0] 36) = w2 at B_2 K_2 Q_2 ⊢
    obtain ⟨pK0, pK1, pK2, pK3⟩ := tb K_2.out
    obtain ⟨pQ0, pQ1, pQ2, pQ3⟩ := tb Q_2.out
    obtain ⟨fq0, fq1, fq2⟩ := tbf Q_2.out
    refine (c_l02Is w.heap.size 0 r0 c0 a0 z0.length z0.length false HV.out hn _ pK0 pK1 pK2).mono ?_
    rintro e w3 ⟨rfl, dn⟩
    have bl := dn.below
    clear dn
    have B_3 := Lib.hid (Below.next B_2.out bl)
    have K_3 := Lib.hid (K_2.out.below bl)
    have Q_3 := Lib.hid (Q_2.out.below bl)
    clear bl B_2 K_2 Q_2
    clear pK0 pK1 pK2 pK3 pQ0 pQ1 pQ2 pQ3 fq0 fq1 fq2
    obtain ⟨pK0, pK1, pK2, pK3⟩ := tb K_3.out
    obtain ⟨pQ0, pQ1, pQ2, pQ3⟩ := tb Q_3.out
    obtain ⟨fq0, fq1, fq2⟩ := tbf Q_3.out
    go_wp2_with fail
    exact bodyPost_ret (v := .tuple #[.agg #[.int .i64 0, .int .i64 0, .slice none 0 0], .bool false]) (by simp [results, Try.results38, go_sem, pQ0, pQ1, pQ2]) rfl ⟨none, 0, [], rfl, nil_own _ _, rfl, ((B_3.out.setCell (by simp) _).setCell (by simp) _).setCell (by simp) _⟩
  | true =>
    have HV := Lib.hid hv
    obtain ⟨R, C, rfl, rfl, h1, h2, h3, h4, h5⟩ := vok_nat hv
    have h256 : z0.length ≤ 256 := (row_facts (A := 0) (n := z0.length) (cap := 0) h2 h3 h4 (by omega) h5).2.1
    clear h5
    cases hc : ((z1.length : Int) == (C : Int)) with
    | false =>
      have HX := Lib.hid (show vMulRow R C z0 z1 = (0, 0, false, []) by unfold vMulRow; rw [if_neg (by rw [hv, hc]; simp)])
      have hcn : ((z1.length : Int) != (C : Int)) = true := by rw [bne, hc]; rfl
      have hcd : ¬ z1.length = C := by simp at hc; omega
      rw [HX.out]
      clear hv hc
      go_enter Try.func38, Try.ntmps38
      go_wp2_with fail
      have B_0 := Lib.hid (Below.refl w.heap.size w)
      have bl := (Below.refl (w).heap.size (w)).alloc (Nat.le_refl _) (.cells #[.int .i64 R, .int .i64 C, .slice a0 z0.length z0.length] 36)
      have hn := Blk.new (w) 36 #[.int .i64 R, .int .i64 C, .slice a0 z0.length z0.length]
      have B_1 := Lib.hid (Below.next B_0.out bl)
      clear bl B_0
      have K_1 := Lib.hid hn
      clear hn
      have bl := (Below.refl ((w).alloc (.cells #[.int .i64 R, .int .i64 C, .slice a0 z0.length z0.length] 36)).heap.size ((w).alloc (.cells #[.int .i64 R, .int .i64 C, .slice a0 z0.length z0.length] 36))).alloc (Nat.le_refl _) (.cells #[.int .i64 0, .int .i64 0, .slice none 0 0] 36)
      have hn := Blk.new ((w).alloc (.cells #[.int .i64 R, .int .i64 C, .slice a0 z0.length z0.length] 36)) 36 #[.int .i64 0, .int .i64 0, .slice none 0 0]
      simp only [World.size_alloc] at hn
      have B_2 := Lib.hid (Below.next B_1.out bl)
      have K_2 := Lib.hid (K_1.out.below bl)
      clear bl B_1 K_1
      have Q_2 := Lib.hid hn
      clear hn
      generalize ((w).alloc (.cells #[.int .i64 R, .int .i64 C, .slice a0 z0.length z0.length] 36)).alloc (.cells #[.int .i64 0, .int .i64 0, .slice none 0 0] 36) = w2 at B_2 K_2 Q_2 ⊢
      obtain ⟨pK0, pK1, pK2, pK3⟩ := tb K_2.out
      obtain ⟨pQ0, pQ1, pQ2, pQ3⟩ := tb Q_2.out
      obtain ⟨fq0, fq1, fq2⟩ := tbf Q_2.out
      refine (c_l02Is w.heap.size 0 R C a0 z0.length z0.length true HV.out hn _ pK0 pK1 pK2).mono ?_
      rintro e w3 ⟨rfl, dn⟩
      have bl := dn.below
      clear dn
      have B_3 := Lib.hid (Below.next B_2.out bl)
      have K_3 := Lib.hid (K_2.out.below bl)
      have Q_3 := Lib.hid (Q_2.out.below bl)
      clear bl B_2 K_2 Q_2
      clear pK0 pK1 pK2 pK3 pQ0 pQ1 pQ2 pQ3 fq0 fq1 fq2
      obtain ⟨pK0, pK1, pK2, pK3⟩ := tb K_3.out
      obtain ⟨pQ0, pQ1, pQ2, pQ3⟩ := tb Q_3.out
      obtain ⟨fq0, fq1, fq2⟩ := tbf Q_3.out
      go_wp2_with fail
      exact bodyPost_ret (v := .tuple #[.agg #[.int .i64 0, .int .i64 0, .slice none 0 0], .bool false]) (by simp [results, Try.results38, go_sem, pQ0, pQ1, pQ2]) rfl ⟨none, 0, [], rfl, nil_own _ _, rfl, ((B_3.out.setCell (by simp) _).setCell (by simp) _).setCell (by simp) _⟩
    | true =>
      have HX := Lib.hid (show vMulRow R C z0 z1 = ((R : Int), (C : Int), true, (List.range z0.length).map fun i => cop .mul .f32 (canon .f32 (z0.getD i 0)) (canon .f32 (z1.getD (i % z1.length) 0))) by unfold vMulRow; rw [if_pos (by rw [hv, hc]; rfl)])
      have HC := Lib.hid (show z1.length = C by simp at hc; omega)
      have hcn : ((z1.length : Int) != (C : Int)) = false := by rw [bne, hc]; rfl
      rw [HX.out]
      clear hv hc
      obtain rfl : z1.length = C := HC.out
      clear HC
      go_enter Try.func38, Try.ntmps38
      go_wp2_with fail
      have B_0 := Lib.hid (Below.refl w.heap.size w)
      have bl := (Below.refl (w).heap.size (w)).alloc (Nat.le_refl _) (.cells #[.int .i64 R, .int .i64 z1.length, .slice a0 z0.length z0.length] 36)
      have hn := Blk.new (w) 36 #[.int .i64 R, .int .i64 z1.length, .slice a0 z0.length z0.length]
      have B_1 := Lib.hid (Below.next B_0.out bl)
      clear bl B_0
      have K_1 := Lib.hid hn
      clear hn
      have bl := (Below.refl ((w).alloc (.cells #[.int .i64 R, .int .i64 z1.length, .slice a0 z0.length z0.length] 36)).heap.size ((w).alloc (.cells #[.int .i64 R, .int .i64 z1.length, .slice a0 z0.length z0.length] 36))).alloc (Nat.le_refl _) (.cells #[.int .i64 0, .int .i64 0, .slice none 0 0] 36)
      have hn := Blk.new ((w).alloc (.cells #[.int .i64 R, .int .i64 z1.length, .slice a0 z0.length z0.length] 36)) 36 #[.int .i64 0, .int .i64 0, .slice none 0 0]
      simp only [World.size_alloc] at hn
      have B_2 := Lib.hid (Below.next B_1.out bl)
      have K_2 := Lib.hid (K_1.out.below bl)
      clear bl B_1 K_1
      have Q_2 := Lib.hid hn
      clear hn
      generalize ((w).alloc (.cells #[.int .i64 R, .int .i64 z1.length, .slice a0 z0.length z0.length] 36)).alloc (.cells #[.int .i64 0, .int .i64 0, .slice none 0 0] 36) = w2 at B_2 K_2 Q_2 ⊢
      obtain ⟨pK0, pK1, pK2, pK3⟩ := tb K_2.out
      obtain ⟨pQ0, pQ1, pQ2, pQ3⟩ := tb Q_2.out
      obtain ⟨fq0, fq1, fq2⟩ := tbf Q_2.out
      refine (c_l02Is w.heap.size 0 R z1.length a0 z0.length z0.length true HV.out hn _ pK0 pK1 pK2).mono ?_
      rintro e w3 ⟨rfl, dn⟩
      have bl := dn.below
      clear dn
      have B_3 := Lib.hid (Below.next B_2.out bl)
      have K_3 := Lib.hid (K_2.out.below bl)
      have Q_3 := Lib.hid (Q_2.out.below bl)
      clear bl B_2 K_2 Q_2
      clear pK0 pK1 pK2 pK3 pQ0 pQ1 pQ2 pQ3 fq0 fq1 fq2
      obtain ⟨pK0, pK1, pK2, pK3⟩ := tb K_3.out
      obtain ⟨pQ0, pQ1, pQ2, pQ3⟩ := tb Q_3.out
      obtain ⟨fq0, fq1, fq2⟩ := tbf Q_3.out
      go_wp2_with fail
      clear pK0 pK1 pK2 pK3 pQ0 pQ1 pQ2 pQ3 fq0 fq1 fq2
      obtain ⟨pK0, pK1, pK2, pK3⟩ := tb K_3.out
      obtain ⟨pQ0, pQ1, pQ2, pQ3⟩ := tb Q_3.out
      obtain ⟨fq0, fq1, fq2⟩ := tbf Q_3.out
      refine (c_l02MulRow w.heap.size (R : Int) z1.length h3 h4 a0 a1 z0.length z0.length z1.length z0 z1 _ (HI.out.kept B_3.out) (HJ.out.kept B_3.out) h256 pK0 pK1 pK2).mono ?_
      rintro e w4 ⟨b, cc, ys, rfl, hf, hy, bl⟩
      have HW := Lib.hid (hf.base B_3.out.size)
      have HYS := Lib.hid hy
      clear hf hy
      have B_4 := Lib.hid (Below.next B_3.out bl)
      have K_4 := Lib.hid (K_3.out.below bl)
      have Q_4 := Lib.hid (Q_3.out.below bl)
      clear bl B_3 K_3 Q_3
      clear pK0 pK1 pK2 pK3 pQ0 pQ1 pQ2 pQ3 fq0 fq1 fq2
      obtain ⟨pK0, pK1, pK2, pK3⟩ := tb K_4.out
      obtain ⟨pQ0, pQ1, pQ2, pQ3⟩ := tb Q_4.out
      obtain ⟨fq0, fq1, fq2⟩ := tbf Q_4.out
      go_wp2_with fail
      exact bodyPost_ret (v := .tuple #[.agg #[.int .i64 R, .int .i64 z1.length, .slice b ys.length cc], .bool true]) (by simp [results, Try.results38, go_sem, pQ0, pQ1, pQ2]) rfl ⟨b, cc, ys, rfl, HW.out.off (store3 Q_4.out).2 Q_4.out (by decide), HYS.out, ((B_4.out.setCell (by simp) _).setCell (by simp) _).setCell (by simp) _⟩
set_option maxHeartbeats 2000000 in
theorem c_MulRowCombine (r0 c0 : Int) (z0 z1 : List Nat) (a0 a1 : Option Addr) (w : World) (h0 : IsFloats .f32 w a0 z0.length z0.length z0) (h1 : IsFloats .f32 w a1 z1.length z1.length z1) :
    Calls Try.prog 70 #[.agg #[.int .i64 r0, .int .i64 c0, .slice a0 z0.length z0.length], .slice a1 z1.length z1.length, .func (.func 68) #[] #[]] w (RetT (vMulRow r0 c0 z0 z1).1 (vMulRow r0 c0 z0 z1).2.1 (vMulRow r0 c0 z0 z1).2.2.1 (vMulRow r0 c0 z0 z1).2.2.2 w) := by
  have hn : z0.length ≤ 9223372036854775807 := by have := h0.2.1; unfold maxLen at this; exact this
  have hn' : z1.length ≤ 9223372036854775807 := by have := h1.2.1; unfold maxLen at this; exact this
  have HI := Lib.hid h0
  have HJ := Lib.hid h1
  clear h0 h1
  cases hv : vokB r0 c0 z0.length with
  | false =>
    have HV := Lib.hid hv
    have HX := Lib.hid (show vMulRow r0 c0 z0 z1 = (0, 0, false, []) by unfold vMulRow; rw [if_neg (by rw [hv]; simp)])
    clear hv
    rw [HX.out]
    go_enter Try.func70, Try.ntmps70
    go_wp2_with fail
    have B_0 := Lib.hid (Below.refl w.heap.size w)
    have bl := (Below.refl (w).heap.size (w)).alloc (Nat.le_refl _) (.cells #[.int .i64 r0, .int .i64 c0, .slice a0 z0.length z0.length] 36)
    have hn := Blk.new (w) 36 #[.int .i64 r0, .int .i64 c0, .slice a0 z0.length z0.length]
    have B_1 := Lib.hid (Below.next B_0.out bl)
    clear bl B_0
    have K_1 := Lib.hid hn
    clear hn
    have bl := (Below.refl ((w).alloc (.cells #[.int .i64 r0, .int .i64 c0, .slice a0 z0.length z0.length] 36)).heap.size ((w).alloc (.cells #[.int .i64 r0, .int .i64 c0, .slice a0 z0.length z0.length] 36))).alloc (Nat.le_refl _) (.cells #[.int .i64 0, .int .i64 0, .slice none 0 0] 36)
    have hn := Blk.new ((w).alloc (.cells #[.int .i64 r0, .int .i64 c0, .slice a0 z0.length z0.length] 36)) 36 #[.int .i64 0, .int .i64 0, .slice none 0 0]
    simp only [World.size_alloc] at hn
    have B_2 := Lib.hid (Below.next B_1.out bl)
    have K_2 := Lib.hid (K_1.out.below bl)
    clear bl B_1 K_1
    have Q_2 := Lib.hid hn
    clear hn
    generalize ((w).alloc (.cells #[.int .i64 r0, .int .i64 c0, .slice a0 z0.length z0.length] 36)).alloc (.cells #[.int .i64 0, .int .i64 0, .slice none 0 0] 36) = w2 at B_2 K_2 Q_2 ⊢
    refine (c_iValid r0 c0 _ _ _ false HV.out _).mono ?_
    rintro e w3 ⟨rfl, bl⟩
    have B_3 := Lib.hid (Below.next B_2.out bl)
    have K_3 := Lib.hid (K_2.out.below bl)
    have Q_3 := Lib.hid (Q_2.out.below bl)
    clear bl B_2 K_2 Q_2
    obtain ⟨pK0, pK1, pK2, pK3⟩ := tb K_3.out
    obtain ⟨pQ0, pQ1, pQ2, pQ3⟩ := tb Q_3.out
    obtain ⟨fq0, fq1, fq2⟩ := tbf Q_3.out
    go_wp2_with fail
    exact bodyPost_ret (v := .tuple #[.agg #[.int .i64 0, .int .i64 0, .slice none 0 0], .bool false]) (by simp [results, Try.results70, go_sem, pQ0, pQ1, pQ2]) rfl ⟨none, 0, [], rfl, nil_own _ _, rfl, ((B_3.out.setCell (by simp) _).setCell (by simp) _).setCell (by simp) _⟩
  | true =>
    have HV := Lib.hid hv
    obtain ⟨R, C, rfl, rfl, h1, h2, h3, h4, h5⟩ := vok_nat hv
    have h256 : z0.length ≤ 256 := (row_facts (A := 0) (n := z0.length) (cap := 0) h2 h3 h4 (by omega) h5).2.1
    clear h5
    cases hc : ((z1.length : Int) == (C : Int)) with
    | false =>
      have HX := Lib.hid (show vMulRow R C z0 z1 = (0, 0, false, []) by unfold vMulRow; rw [if_neg (by rw [hv, hc]; simp)])
      have hcn : ((z1.length : Int) != (C : Int)) = true := by rw [bne, hc]; rfl
      have hcd : ¬ z1.length = C := by simp at hc; omega
      rw [HX.out]
      clear hv hc
      go_enter Try.func70, Try.ntmps70
      go_wp2_with fail
      have B_0 := Lib.hid (Below.refl w.heap.size w)
      have bl := (Below.refl (w).heap.size (w)).alloc (Nat.le_refl _) (.cells #[.int .i64 R, .int .i64 C, .slice a0 z0.length z0.length] 36)
      have hn := Blk.new (w) 36 #[.int .i64 R, .int .i64 C, .slice a0 z0.length z0.length]
      have B_1 := Lib.hid (Below.next B_0.out bl)
      clear bl B_0
      have K_1 := Lib.hid hn
      clear hn
      have bl := (Below.refl ((w).alloc (.cells #[.int .i64 R, .int .i64 C, .slice a0 z0.length z0.length] 36)).heap.size ((w).alloc (.cells #[.int .i64 R, .int .i64 C, .slice a0 z0.length z0.length] 36))).alloc (Nat.le_refl _) (.cells #[.int .i64 0, .int .i64 0, .slice none 0 0] 36)
      have hn := Blk.new ((w).alloc (.cells #[.int .i64 R, .int .i64 C, .slice a0 z0.length z0.length] 36)) 36 #[.int .i64 0, .int .i64 0, .slice none 0 0]
      simp only [World.size_alloc] at hn
      have B_2 := Lib.hid (Below.next B_1.out bl)
      have K_2 := Lib.hid (K_1.out.below bl)
      clear bl B_1 K_1
      have Q_2 := Lib.hid hn
      clear hn
      generalize ((w).alloc (.cells #[.int .i64 R, .int .i64 C, .slice a0 z0.length z0.length] 36)).alloc (.cells #[.int .i64 0, .int .i64 0, .slice none 0 0] 36) = w2 at B_2 K_2 Q_2 ⊢
      refine (c_iValid R C _ _ _ true HV.out _).mono ?_
      rintro e w3 ⟨rfl, bl⟩
      have B_3 := Lib.hid (Below.next B_2.out bl)
      have K_3 := Lib.hid (K_2.out.below bl)
      have Q_3 := Lib.hid (Q_2.out.below bl)
      clear bl B_2 K_2 Q_2
      obtain ⟨pK0, pK1, pK2, pK3⟩ := tb K_3.out
      obtain ⟨pQ0, pQ1, pQ2, pQ3⟩ := tb Q_3.out
      obtain ⟨fq0, fq1, fq2⟩ := tbf Q_3.out
      go_wp2_with fail
      exact bodyPost_ret (v := .tuple #[.agg #[.int .i64 0, .int .i64 0, .slice none 0 0], .bool false]) (by simp [results, Try.results70, go_sem, pQ0, pQ1, pQ2]) rfl ⟨none, 0, [], rfl, nil_own _ _, rfl, ((B_3.out.setCell (by simp) _).setCell (by simp) _).setCell (by simp) _⟩
    | true =>
      have HX := Lib.hid (show vMulRow R C z0 z1 = ((R : Int), (C : Int), true, (List.range z0.length).map fun i => cop .mul .f32 (canon .f32 (z0.getD i 0)) (canon .f32 (z1.getD (i % z1.length) 0))) by unfold vMulRow; rw [if_pos (by rw [hv, hc]; rfl)])
      have HC := Lib.hid (show z1.length = C by simp at hc; omega)
      have hcn : ((z1.length : Int) != (C : Int)) = false := by rw [bne, hc]; rfl
      rw [HX.out]
      clear hv hc
      obtain rfl : z1.length = C := HC.out
      clear HC
      go_enter Try.func70, Try.ntmps70
      go_wp2_with fail
      have B_0 := Lib.hid (Below.refl w.heap.size w)
      have bl := (Below.refl (w).heap.size (w)).alloc (Nat.le_refl _) (.cells #[.int .i64 R, .int .i64 z1.length, .slice a0 z0.length z0.length] 36)
      have hn := Blk.new (w) 36 #[.int .i64 R, .int .i64 z1.length, .slice a0 z0.length z0.length]
      have B_1 := Lib.hid (Below.next B_0.out bl)
      clear bl B_0
      have K_1 := Lib.hid hn
      clear hn
      have bl := (Below.refl ((w).alloc (.cells #[.int .i64 R, .int .i64 z1.length, .slice a0 z0.length z0.length] 36)).heap.size ((w).alloc (.cells #[.int .i64 R, .int .i64 z1.length, .slice a0 z0.length z0.length] 36))).alloc (Nat.le_refl _) (.cells #[.int .i64 0, .int .i64 0, .slice none 0 0] 36)
      have hn := Blk.new ((w).alloc (.cells #[.int .i64 R, .int .i64 z1.length, .slice a0 z0.length z0.length] 36)) 36 #[.int .i64 0, .int .i64 0, .slice none 0 0]
      simp only [World.size_alloc] at hn
      have B_2 := Lib.hid (Below.next B_1.out bl)
      have K_2 := Lib.hid (K_1.out.below bl)
      clear bl B_1 K_1
      have Q_2 := Lib.hid hn
      clear hn
      generalize ((w).alloc (.cells #[.int .i64 R, .int .i64 z1.length, .slice a0 z0.length z0.length] 36)).alloc (.cells #[.int .i64 0, .int .i64 0, .slice none 0 0] 36) = w2 at B_2 K_2 Q_2 ⊢
      refine (c_iValid R z1.length _ _ _ true HV.out _).mono ?_
      rintro e w3 ⟨rfl, bl⟩
      have B_3 := Lib.hid (Below.next B_2.out bl)
      have K_3 := Lib.hid (K_2.out.below bl)
      have Q_3 := Lib.hid (Q_2.out.below bl)
      clear bl B_2 K_2 Q_2
      obtain ⟨pK0, pK1, pK2, pK3⟩ := tb K_3.out
      obtain ⟨pQ0, pQ1, pQ2, pQ3⟩ := tb Q_3.out
      obtain ⟨fq0, fq1, fq2⟩ := tbf Q_3.out
      go_wp2_with fail
      clear pK0 pK1 pK2 pK3 pQ0 pQ1 pQ2 pQ3 fq0 fq1 fq2
      refine (c_combineProd (R : Int) (z1.length : Int) a0 a1 z0.length z0.length z1.length z1.length z0 z1 _ (HI.out.kept B_3.out) (HJ.out.kept B_3.out) h256 h3 (by omega)).mono ?_
      rintro e w4 ⟨b, cc, ys, rfl, hf, hy, bl⟩
      have HW := Lib.hid (hf.base B_3.out.size)
      have HYS := Lib.hid hy
      clear hf hy
      have B_4 := Lib.hid (Below.next B_3.out bl)
      have K_4 := Lib.hid (K_3.out.below bl)
      have Q_4 := Lib.hid (Q_3.out.below bl)
      clear bl B_3 K_3 Q_3
      obtain ⟨pK0, pK1, pK2, pK3⟩ := tb K_4.out
      obtain ⟨pQ0, pQ1, pQ2, pQ3⟩ := tb Q_4.out
      obtain ⟨fq0, fq1, fq2⟩ := tbf Q_4.out
      go_wp2_with fail
      exact bodyPost_ret (v := .tuple #[.agg #[.int .i64 R, .int .i64 z1.length, .slice b ys.length cc], .bool true]) (by simp [results, Try.results70, go_sem, pQ0, pQ1, pQ2]) rfl ⟨b, cc, ys, rfl, HW.out.off (store3 Q_4.out).2 Q_4.out (by decide), HYS.out, ((B_4.out.setCell (by simp) _).setCell (by simp) _).setCell (by simp) _⟩
set_option maxHeartbeats 2000000 in
theorem t_iMulRow (r0 c0 : Int) (z0 z1 : List Nat) (a0 a1 : Option Addr) (w : World) (h0 : IsFloats .f32 w a0 z0.length z0.length z0) (h1 : IsFloats .f32 w a1 z1.length z1.length z1) :
    Calls Try.prog 39 #[.agg #[.int .i64 r0, .int .i64 c0, .slice a0 z0.length z0.length], .slice a1 z1.length z1.length] w (RetT (vMulRow r0 c0 z0 z1).1 (vMulRow r0 c0 z0 z1).2.1 (vMulRow r0 c0 z0 z1).2.2.1 (vMulRow r0 c0 z0 z1).2.2.2 w) := by
  have hn : z0.length ≤ 9223372036854775807 := by have := h0.2.1; unfold maxLen at this; exact this
  have hn' : z1.length ≤ 9223372036854775807 := by have := h1.2.1; unfold maxLen at this; exact this
  have HI := Lib.hid h0
  have HJ := Lib.hid h1
  clear h0 h1
  obtain ⟨X, hX⟩ : ∃ X, vMulRow r0 c0 z0 z1 = X := ⟨_, rfl⟩
  have HX := Lib.hid hX
  rw [hX]
  clear hX
  obtain ⟨XR, XC, XB, XZ⟩ := X
  go_enter Try.func39, Try.ntmps39
  go_wp2_with fail
  have B_0 := Lib.hid (Below.refl w.heap.size w)
  have bl := (Below.refl (w).heap.size (w)).alloc (Nat.le_refl _) (.cells #[.int .i64 r0, .int .i64 c0, .slice a0 z0.length z0.length] 36)
  have hn := Blk.new (w) 36 #[.int .i64 r0, .int .i64 c0, .slice a0 z0.length z0.length]
  have B_1 := Lib.hid (Below.next B_0.out bl)
  clear bl B_0
  have K_1 := Lib.hid hn
  clear hn
  have bl := (Below.refl ((w).alloc (.cells #[.int .i64 r0, .int .i64 c0, .slice a0 z0.length z0.length] 36)).heap.size ((w).alloc (.cells #[.int .i64 r0, .int .i64 c0, .slice a0 z0.length z0.length] 36))).alloc (Nat.le_refl _) (.cells #[.int .i64 0, .int .i64 0, .slice none 0 0] 36)
  have hn := Blk.new ((w).alloc (.cells #[.int .i64 r0, .int .i64 c0, .slice a0 z0.length z0.length] 36)) 36 #[.int .i64 0, .int .i64 0, .slice none 0 0]
  simp only [World.size_alloc] at hn
  have B_2 := Lib.hid (Below.next B_1.out bl)
  have K_2 := Lib.hid (K_1.out.below bl)
  clear bl B_1 K_1
  have Q_2 := Lib.hid hn
  clear hn
  generalize ((w).alloc (.cells #[.int .i64 r0, .int .i64 c0, .slice a0 z0.length z0.length] 36)).alloc (.cells #[.int .i64 0, .int .i64 0, .slice none 0 0] 36) = w2 at B_2 K_2 Q_2 ⊢
  have CC := c_MulRowCombine r0 c0 z0 z1 a0 a1 w2 (HI.out.kept B_2.out) (HJ.out.kept B_2.out)
  rw [HX.out] at CC
  refine CC.mono ?_
  clear CC
  rintro e w3 ⟨b, cc, ys, rfl, hf, hy, bl⟩
  have HW := Lib.hid (hf.base B_2.out.size)
  have HYS := Lib.hid hy
  clear hf hy
  have B_3 := Lib.hid (Below.next B_2.out bl)
  have K_3 := Lib.hid (K_2.out.below bl)
  have Q_3 := Lib.hid (Q_2.out.below bl)
  clear bl B_2 K_2 Q_2
  obtain ⟨pK0, pK1, pK2, pK3⟩ := tb K_3.out
  obtain ⟨pQ0, pQ1, pQ2, pQ3⟩ := tb Q_3.out
  obtain ⟨fq0, fq1, fq2⟩ := tbf Q_3.out
  go_wp2_with fail
  exact bodyPost_ret (v := .tuple #[.agg #[.int .i64 XR, .int .i64 XC, .slice b ys.length cc], .bool XB]) (by simp [results, Try.results39, go_sem, pQ0, pQ1, pQ2]) rfl ⟨b, cc, ys, rfl, HW.out.off (store3 Q_3.out).2 Q_3.out (by decide), HYS.out, ((B_3.out.setCell (by simp) _).setCell (by simp) _).setCell (by simp) _⟩
end Go.Proofs.Ytaonfaeinoackaa
