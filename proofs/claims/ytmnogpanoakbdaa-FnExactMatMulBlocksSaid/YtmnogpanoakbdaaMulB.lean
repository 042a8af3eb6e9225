/-
  Products of tensors that do not fit, as the program answers them. Conditions: the numbers can be read.
-/
import Derived.Test.YtmnogpanoakbdaaMulA
namespace Go.Proofs.Ytmnogpanoakbdaa
open Go.RowKit Go.Deep Go.WideShapes Go.ChangeShapes

set_option linter.unusedVariables false in
set_option maxRecDepth 20000 in
set_option maxHeartbeats 2000000 in
theorem c_multiplyNo (D : FuncId) (caps : Array Value) (dotv : List Nat → List Nat → Nat) (r c r' c' : Int) (za : List Nat) (zb : List Nat) (a0 a1 : Option Addr) (w : World) (w0 : IsFloats .f32 w a0 za.length za.length za) (w1 : IsFloats .f32 w a1 zb.length zb.length zb) (hfit : fitB r c r' c' za.length zb.length = false) :
    Calls Try.prog 85 #[.agg #[.int .i64 r, .int .i64 c, .slice a0 za.length za.length], .agg #[.int .i64 r', .int .i64 c', .slice a1 zb.length zb.length], .func (.func D) #[] caps] w (RetT 0 0 false [] w) := by
  cases e1 : vokB r c za.length with
  | false =>
    have HV := Lib.hid e1
    clear e1 hfit w0 w1
    go_enter Try.func85, Try.ntmps85
    go_wp2_with fail
    have B_0 := Lib.hid (Below.refl w.heap.size w)
    have bl := (Below.refl (w).heap.size (w)).alloc (Nat.le_refl _) (.cells #[.int .i64 r, .int .i64 c, .slice a0 za.length za.length] 26)
    have hn := Blk.new (w) 26 #[.int .i64 r, .int .i64 c, .slice a0 za.length za.length]
    have B_1 := Lib.hid (Below.next B_0.out bl)
    clear bl B_0
    have K_1 := Lib.hid hn
    clear hn
    have bl := (Below.refl ((w).alloc (.cells #[.int .i64 r, .int .i64 c, .slice a0 za.length za.length] 26)).heap.size ((w).alloc (.cells #[.int .i64 r, .int .i64 c, .slice a0 za.length za.length] 26))).alloc (Nat.le_refl _) (.cells #[.int .i64 r', .int .i64 c', .slice a1 zb.length zb.length] 26)
    have hn := Blk.new ((w).alloc (.cells #[.int .i64 r, .int .i64 c, .slice a0 za.length za.length] 26)) 26 #[.int .i64 r', .int .i64 c', .slice a1 zb.length zb.length]
    simp only [World.size_alloc] at hn
    have B_2 := Lib.hid (Below.next B_1.out bl)
    have K_2 := Lib.hid (K_1.out.below bl)
    clear bl B_1 K_1
    have L_2 := Lib.hid hn
    clear hn
    have bl := (Below.refl (((w).alloc (.cells #[.int .i64 r, .int .i64 c, .slice a0 za.length za.length] 26)).alloc (.cells #[.int .i64 r', .int .i64 c', .slice a1 zb.length zb.length] 26)).heap.size (((w).alloc (.cells #[.int .i64 r, .int .i64 c, .slice a0 za.length za.length] 26)).alloc (.cells #[.int .i64 r', .int .i64 c', .slice a1 zb.length zb.length] 26))).alloc (Nat.le_refl _) (.cells #[.func (.func D) #[] caps] 88)
    have hn := Blk.new (((w).alloc (.cells #[.int .i64 r, .int .i64 c, .slice a0 za.length za.length] 26)).alloc (.cells #[.int .i64 r', .int .i64 c', .slice a1 zb.length zb.length] 26)) 88 #[.func (.func D) #[] caps]
    simp only [World.size_alloc] at hn
    have B_3 := Lib.hid (Below.next B_2.out bl)
    have K_3 := Lib.hid (K_2.out.below bl)
    have L_3 := Lib.hid (L_2.out.below bl)
    clear bl B_2 K_2 L_2
    have D_3 := Lib.hid hn
    clear hn
    have bl := (Below.refl ((((w).alloc (.cells #[.int .i64 r, .int .i64 c, .slice a0 za.length za.length] 26)).alloc (.cells #[.int .i64 r', .int .i64 c', .slice a1 zb.length zb.length] 26)).alloc (.cells #[.func (.func D) #[] caps] 88)).heap.size ((((w).alloc (.cells #[.int .i64 r, .int .i64 c, .slice a0 za.length za.length] 26)).alloc (.cells #[.int .i64 r', .int .i64 c', .slice a1 zb.length zb.length] 26)).alloc (.cells #[.func (.func D) #[] caps] 88))).alloc (Nat.le_refl _) (.cells #[.int .i64 0, .int .i64 0, .slice none 0 0] 26)
    have hn := Blk.new ((((w).alloc (.cells #[.int .i64 r, .int .i64 c, .slice a0 za.length za.length] 26)).alloc (.cells #[.int .i64 r', .int .i64 c', .slice a1 zb.length zb.length] 26)).alloc (.cells #[.func (.func D) #[] caps] 88)) 26 #[.int .i64 0, .int .i64 0, .slice none 0 0]
    simp only [World.size_alloc] at hn
    have B_4 := Lib.hid (Below.next B_3.out bl)
    have K_4 := Lib.hid (K_3.out.below bl)
    have L_4 := Lib.hid (L_3.out.below bl)
    have D_4 := Lib.hid (D_3.out.below bl)
    clear bl B_3 K_3 L_3 D_3
    have Q_4 := Lib.hid hn
    clear hn
    generalize ((((w).alloc (.cells #[.int .i64 r, .int .i64 c, .slice a0 za.length za.length] 26)).alloc (.cells #[.int .i64 r', .int .i64 c', .slice a1 zb.length zb.length] 26)).alloc (.cells #[.func (.func D) #[] caps] 88)).alloc (.cells #[.int .i64 0, .int .i64 0, .slice none 0 0] 26) = w4 at B_4 K_4 L_4 D_4 Q_4 ⊢
    refine (c_iValid r c _ _ _ false HV.out _).mono ?_
    rintro e w5 ⟨rfl, bl⟩
    have B_5 := Lib.hid (Below.next B_4.out bl)
    have K_5 := Lib.hid (K_4.out.below bl)
    have L_5 := Lib.hid (L_4.out.below bl)
    have D_5 := Lib.hid (D_4.out.below bl)
    have Q_5 := Lib.hid (Q_4.out.below bl)
    clear bl B_4 K_4 L_4 D_4 Q_4
    obtain ⟨pK0, pK1, pK2, pK3⟩ := tb K_5.out
    obtain ⟨pL0, pL1, pL2, pL3⟩ := tb L_5.out
    obtain ⟨pQ0, pQ1, pQ2, pQ3⟩ := tb Q_5.out
    obtain ⟨fq0, fq1, fq2⟩ := tbf Q_5.out
    go_wp2_with fail
    exact bodyPost_ret (v := .tuple #[.agg #[.int .i64 0, .int .i64 0, .slice none 0 0], .bool false]) (by simp [results, Try.results85, go_sem, pQ0, pQ1, pQ2]) rfl ⟨none, 0, [], rfl, nil_own _ _, rfl, ((B_5.out.setCell (by simp; omega) _).setCell (by simp; omega) _).setCell (by simp; omega) _⟩
  | true =>
    have HV := Lib.hid e1
    cases e2 : vokB r' c' zb.length with
    | false =>
      have HV2 := Lib.hid e2
      clear e1 e2 hfit w0 w1
      go_enter Try.func85, Try.ntmps85
      go_wp2_with fail
      have B_0 := Lib.hid (Below.refl w.heap.size w)
      have bl := (Below.refl (w).heap.size (w)).alloc (Nat.le_refl _) (.cells #[.int .i64 r, .int .i64 c, .slice a0 za.length za.length] 26)
      have hn := Blk.new (w) 26 #[.int .i64 r, .int .i64 c, .slice a0 za.length za.length]
      have B_1 := Lib.hid (Below.next B_0.out bl)
      clear bl B_0
      have K_1 := Lib.hid hn
      clear hn
      have bl := (Below.refl ((w).alloc (.cells #[.int .i64 r, .int .i64 c, .slice a0 za.length za.length] 26)).heap.size ((w).alloc (.cells #[.int .i64 r, .int .i64 c, .slice a0 za.length za.length] 26))).alloc (Nat.le_refl _) (.cells #[.int .i64 r', .int .i64 c', .slice a1 zb.length zb.length] 26)
      have hn := Blk.new ((w).alloc (.cells #[.int .i64 r, .int .i64 c, .slice a0 za.length za.length] 26)) 26 #[.int .i64 r', .int .i64 c', .slice a1 zb.length zb.length]
      simp only [World.size_alloc] at hn
      have B_2 := Lib.hid (Below.next B_1.out bl)
      have K_2 := Lib.hid (K_1.out.below bl)
      clear bl B_1 K_1
      have L_2 := Lib.hid hn
      clear hn
      have bl := (Below.refl (((w).alloc (.cells #[.int .i64 r, .int .i64 c, .slice a0 za.length za.length] 26)).alloc (.cells #[.int .i64 r', .int .i64 c', .slice a1 zb.length zb.length] 26)).heap.size (((w).alloc (.cells #[.int .i64 r, .int .i64 c, .slice a0 za.length za.length] 26)).alloc (.cells #[.int .i64 r', .int .i64 c', .slice a1 zb.length zb.length] 26))).alloc (Nat.le_refl _) (.cells #[.func (.func D) #[] caps] 88)
      have hn := Blk.new (((w).alloc (.cells #[.int .i64 r, .int .i64 c, .slice a0 za.length za.length] 26)).alloc (.cells #[.int .i64 r', .int .i64 c', .slice a1 zb.length zb.length] 26)) 88 #[.func (.func D) #[] caps]
      simp only [World.size_alloc] at hn
      have B_3 := Lib.hid (Below.next B_2.out bl)
      have K_3 := Lib.hid (K_2.out.below bl)
      have L_3 := Lib.hid (L_2.out.below bl)
      clear bl B_2 K_2 L_2
      have D_3 := Lib.hid hn
      clear hn
      have bl := (Below.refl ((((w).alloc (.cells #[.int .i64 r, .int .i64 c, .slice a0 za.length za.length] 26)).alloc (.cells #[.int .i64 r', .int .i64 c', .slice a1 zb.length zb.length] 26)).alloc (.cells #[.func (.func D) #[] caps] 88)).heap.size ((((w).alloc (.cells #[.int .i64 r, .int .i64 c, .slice a0 za.length za.length] 26)).alloc (.cells #[.int .i64 r', .int .i64 c', .slice a1 zb.length zb.length] 26)).alloc (.cells #[.func (.func D) #[] caps] 88))).alloc (Nat.le_refl _) (.cells #[.int .i64 0, .int .i64 0, .slice none 0 0] 26)
      have hn := Blk.new ((((w).alloc (.cells #[.int .i64 r, .int .i64 c, .slice a0 za.length za.length] 26)).alloc (.cells #[.int .i64 r', .int .i64 c', .slice a1 zb.length zb.length] 26)).alloc (.cells #[.func (.func D) #[] caps] 88)) 26 #[.int .i64 0, .int .i64 0, .slice none 0 0]
      simp only [World.size_alloc] at hn
      have B_4 := Lib.hid (Below.next B_3.out bl)
      have K_4 := Lib.hid (K_3.out.below bl)
      have L_4 := Lib.hid (L_3.out.below bl)
      have D_4 := Lib.hid (D_3.out.below bl)
      clear bl B_3 K_3 L_3 D_3
      have Q_4 := Lib.hid hn
      clear hn
      generalize ((((w).alloc (.cells #[.int .i64 r, .int .i64 c, .slice a0 za.length za.length] 26)).alloc (.cells #[.int .i64 r', .int .i64 c', .slice a1 zb.length zb.length] 26)).alloc (.cells #[.func (.func D) #[] caps] 88)).alloc (.cells #[.int .i64 0, .int .i64 0, .slice none 0 0] 26) = w4 at B_4 K_4 L_4 D_4 Q_4 ⊢
      refine (c_iValid r c _ _ _ true HV.out _).mono ?_
      rintro e w5 ⟨rfl, bl⟩
      have B_5 := Lib.hid (Below.next B_4.out bl)
      have K_5 := Lib.hid (K_4.out.below bl)
      have L_5 := Lib.hid (L_4.out.below bl)
      have D_5 := Lib.hid (D_4.out.below bl)
      have Q_5 := Lib.hid (Q_4.out.below bl)
      clear bl B_4 K_4 L_4 D_4 Q_4
      obtain ⟨pK0, pK1, pK2, pK3⟩ := tb K_5.out
      obtain ⟨pL0, pL1, pL2, pL3⟩ := tb L_5.out
      obtain ⟨pQ0, pQ1, pQ2, pQ3⟩ := tb Q_5.out
      obtain ⟨fq0, fq1, fq2⟩ := tbf Q_5.out
      go_wp2_with fail
      clear pK0 pK1 pK2 pK3 pL0 pL1 pL2 pL3 pQ0 pQ1 pQ2 pQ3 fq0 fq1 fq2
      refine (c_iValid r' c' _ _ _ false HV2.out _).mono ?_
      rintro e w6 ⟨rfl, bl⟩
      have B_6 := Lib.hid (Below.next B_5.out bl)
      have K_6 := Lib.hid (K_5.out.below bl)
      have L_6 := Lib.hid (L_5.out.below bl)
      have D_6 := Lib.hid (D_5.out.below bl)
      have Q_6 := Lib.hid (Q_5.out.below bl)
      clear bl B_5 K_5 L_5 D_5 Q_5
      obtain ⟨pK0, pK1, pK2, pK3⟩ := tb K_6.out
      obtain ⟨pL0, pL1, pL2, pL3⟩ := tb L_6.out
      obtain ⟨pQ0, pQ1, pQ2, pQ3⟩ := tb Q_6.out
      obtain ⟨fq0, fq1, fq2⟩ := tbf Q_6.out
      go_wp2_with fail
      exact bodyPost_ret (v := .tuple #[.agg #[.int .i64 0, .int .i64 0, .slice none 0 0], .bool false]) (by simp [results, Try.results85, go_sem, pQ0, pQ1, pQ2]) rfl ⟨none, 0, [], rfl, nil_own _ _, rfl, ((B_6.out.setCell (by simp; omega) _).setCell (by simp; omega) _).setCell (by simp; omega) _⟩
    | true =>
      have HV2 := Lib.hid e2
      have hne : (c == r') = false := by
        unfold fitB at hfit
        rw [e1, e2] at hfit
        simpa using hfit
      have hne' : (c != r') = true := by simpa using hne
      have hne2 : ¬ c = r' := by simpa using hne
      clear e1 e2 hfit w0 w1
      go_enter Try.func85, Try.ntmps85
      go_wp2_with fail
      have B_0 := Lib.hid (Below.refl w.heap.size w)
      have bl := (Below.refl (w).heap.size (w)).alloc (Nat.le_refl _) (.cells #[.int .i64 r, .int .i64 c, .slice a0 za.length za.length] 26)
      have hn := Blk.new (w) 26 #[.int .i64 r, .int .i64 c, .slice a0 za.length za.length]
      have B_1 := Lib.hid (Below.next B_0.out bl)
      clear bl B_0
      have K_1 := Lib.hid hn
      clear hn
      have bl := (Below.refl ((w).alloc (.cells #[.int .i64 r, .int .i64 c, .slice a0 za.length za.length] 26)).heap.size ((w).alloc (.cells #[.int .i64 r, .int .i64 c, .slice a0 za.length za.length] 26))).alloc (Nat.le_refl _) (.cells #[.int .i64 r', .int .i64 c', .slice a1 zb.length zb.length] 26)
      have hn := Blk.new ((w).alloc (.cells #[.int .i64 r, .int .i64 c, .slice a0 za.length za.length] 26)) 26 #[.int .i64 r', .int .i64 c', .slice a1 zb.length zb.length]
      simp only [World.size_alloc] at hn
      have B_2 := Lib.hid (Below.next B_1.out bl)
      have K_2 := Lib.hid (K_1.out.below bl)
      clear bl B_1 K_1
      have L_2 := Lib.hid hn
      clear hn
      have bl := (Below.refl (((w).alloc (.cells #[.int .i64 r, .int .i64 c, .slice a0 za.length za.length] 26)).alloc (.cells #[.int .i64 r', .int .i64 c', .slice a1 zb.length zb.length] 26)).heap.size (((w).alloc (.cells #[.int .i64 r, .int .i64 c, .slice a0 za.length za.length] 26)).alloc (.cells #[.int .i64 r', .int .i64 c', .slice a1 zb.length zb.length] 26))).alloc (Nat.le_refl _) (.cells #[.func (.func D) #[] caps] 88)
      have hn := Blk.new (((w).alloc (.cells #[.int .i64 r, .int .i64 c, .slice a0 za.length za.length] 26)).alloc (.cells #[.int .i64 r', .int .i64 c', .slice a1 zb.length zb.length] 26)) 88 #[.func (.func D) #[] caps]
      simp only [World.size_alloc] at hn
      have B_3 := Lib.hid (Below.next B_2.out bl)
      have K_3 := Lib.hid (K_2.out.below bl)
      have L_3 := Lib.hid (L_2.out.below bl)
      clear bl B_2 K_2 L_2
      have D_3 := Lib.hid hn
      clear hn
      have bl := (Below.refl ((((w).alloc (.cells #[.int .i64 r, .int .i64 c, .slice a0 za.length za.length] 26)).alloc (.cells #[.int .i64 r', .int .i64 c', .slice a1 zb.length zb.length] 26)).alloc (.cells #[.func (.func D) #[] caps] 88)).heap.size ((((w).alloc (.cells #[.int .i64 r, .int .i64 c, .slice a0 za.length za.length] 26)).alloc (.cells #[.int .i64 r', .int .i64 c', .slice a1 zb.length zb.length] 26)).alloc (.cells #[.func (.func D) #[] caps] 88))).alloc (Nat.le_refl _) (.cells #[.int .i64 0, .int .i64 0, .slice none 0 0] 26)
      have hn := Blk.new ((((w).alloc (.cells #[.int .i64 r, .int .i64 c, .slice a0 za.length za.length] 26)).alloc (.cells #[.int .i64 r', .int .i64 c', .slice a1 zb.length zb.length] 26)).alloc (.cells #[.func (.func D) #[] caps] 88)) 26 #[.int .i64 0, .int .i64 0, .slice none 0 0]
      simp only [World.size_alloc] at hn
      have B_4 := Lib.hid (Below.next B_3.out bl)
      have K_4 := Lib.hid (K_3.out.below bl)
      have L_4 := Lib.hid (L_3.out.below bl)
      have D_4 := Lib.hid (D_3.out.below bl)
      clear bl B_3 K_3 L_3 D_3
      have Q_4 := Lib.hid hn
      clear hn
      generalize ((((w).alloc (.cells #[.int .i64 r, .int .i64 c, .slice a0 za.length za.length] 26)).alloc (.cells #[.int .i64 r', .int .i64 c', .slice a1 zb.length zb.length] 26)).alloc (.cells #[.func (.func D) #[] caps] 88)).alloc (.cells #[.int .i64 0, .int .i64 0, .slice none 0 0] 26) = w4 at B_4 K_4 L_4 D_4 Q_4 ⊢
      refine (c_iValid r c _ _ _ true HV.out _).mono ?_
      rintro e w5 ⟨rfl, bl⟩
      have B_5 := Lib.hid (Below.next B_4.out bl)
      have K_5 := Lib.hid (K_4.out.below bl)
      have L_5 := Lib.hid (L_4.out.below bl)
      have D_5 := Lib.hid (D_4.out.below bl)
      have Q_5 := Lib.hid (Q_4.out.below bl)
      clear bl B_4 K_4 L_4 D_4 Q_4
      obtain ⟨pK0, pK1, pK2, pK3⟩ := tb K_5.out
      obtain ⟨pL0, pL1, pL2, pL3⟩ := tb L_5.out
      obtain ⟨pQ0, pQ1, pQ2, pQ3⟩ := tb Q_5.out
      obtain ⟨fq0, fq1, fq2⟩ := tbf Q_5.out
      go_wp2_with fail
      clear pK0 pK1 pK2 pK3 pL0 pL1 pL2 pL3 pQ0 pQ1 pQ2 pQ3 fq0 fq1 fq2
      refine (c_iValid r' c' _ _ _ true HV2.out _).mono ?_
      rintro e w6 ⟨rfl, bl⟩
      have B_6 := Lib.hid (Below.next B_5.out bl)
      have K_6 := Lib.hid (K_5.out.below bl)
      have L_6 := Lib.hid (L_5.out.below bl)
      have D_6 := Lib.hid (D_5.out.below bl)
      have Q_6 := Lib.hid (Q_5.out.below bl)
      clear bl B_5 K_5 L_5 D_5 Q_5
      obtain ⟨pK0, pK1, pK2, pK3⟩ := tb K_6.out
      obtain ⟨pL0, pL1, pL2, pL3⟩ := tb L_6.out
      obtain ⟨pQ0, pQ1, pQ2, pQ3⟩ := tb Q_6.out
      obtain ⟨fq0, fq1, fq2⟩ := tbf Q_6.out
      go_wp2_with fail
      exact bodyPost_ret (v := .tuple #[.agg #[.int .i64 0, .int .i64 0, .slice none 0 0], .bool false]) (by simp [results, Try.results85, go_sem, pQ0, pQ1, pQ2]) rfl ⟨none, 0, [], rfl, nil_own _ _, rfl, ((B_6.out.setCell (by simp; omega) _).setCell (by simp; omega) _).setCell (by simp; omega) _⟩
end Go.Proofs.Ytmnogpanoakbdaa
