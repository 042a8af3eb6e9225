/-
  Products of tensors that do not fit, as the program answers them. Conditions: the numbers can be read.
-/
import Derived.Test.YtkfpaehalfjhhaaMulA
namespace Go.Proofs.Ytkfpaehalfjhhaa
open Go.RowKit Go.Deep Go.WideShapes Go.ChangeShapes

set_option linter.unusedVariables false in
set_option maxRecDepth 20000 in
set_option maxHeartbeats 2000000 in
theorem c_multiplyNo (D : FuncId) (caps : Array Value) (dotv : List Nat → List Nat → Nat) (r c r' c' : Int) (za : List Nat) (zb : List Nat) (a0 a1 : Option Addr) (w : World) (w0 : IsFloats .f32 w a0 za.length za.length za) (w1 : IsFloats .f32 w a1 zb.length zb.length zb) (hfit : fitB r c r' c' za.length zb.length = false) :
    Calls Try.prog 49 #[.agg #[.int .i64 r, .int .i64 c, .slice a0 za.length za.length], .agg #[.int .i64 r', .int .i64 c', .slice a1 zb.length zb.length], .func (.func D) #[] caps] w (RetT 0 0 false [] w) := by
  cases e1 : vokB r c za.length with
  | false =>
    have HV := Lib.hid e1
    clear e1 hfit w0 w1
    go_enter Try.func49, Try.ntmps49
    go_wp2_with fail
    have B_4 := Lib.hid ((((Below.refl w.heap.size w).alloc (Nat.le_refl _) (.cells #[.int .i64 r, .int .i64 c, .slice a0 za.length za.length] 26)).alloc (by simp) (.cells #[.int .i64 r', .int .i64 c', .slice a1 zb.length zb.length] 26)).alloc (by simp; omega) (.cells #[.int .i64 0, .int .i64 0, .slice none 0 0] 26))
    have hK := ((Blk.new w 26 #[.int .i64 r, .int .i64 c, .slice a0 za.length za.length]).below ((Below.refl _ _).alloc (Nat.le_refl _) (.cells #[.int .i64 r', .int .i64 c', .slice a1 zb.length zb.length] 26))).below ((Below.refl _ _).alloc (Nat.le_refl _) (.cells #[.int .i64 0, .int .i64 0, .slice none 0 0] 26))
    have hL := (Blk.new (w.alloc (.cells #[.int .i64 r, .int .i64 c, .slice a0 za.length za.length] 26)) 26 #[.int .i64 r', .int .i64 c', .slice a1 zb.length zb.length]).below ((Below.refl _ _).alloc (Nat.le_refl _) (.cells #[.int .i64 0, .int .i64 0, .slice none 0 0] 26))
    have hQ := Blk.new ((w.alloc (.cells #[.int .i64 r, .int .i64 c, .slice a0 za.length za.length] 26)).alloc (.cells #[.int .i64 r', .int .i64 c', .slice a1 zb.length zb.length] 26)) 26 #[.int .i64 0, .int .i64 0, .slice none 0 0]
    simp only [World.size_alloc] at hL hQ
    have K_4 := Lib.hid hK
    have L_4 := Lib.hid hL
    have Q_4 := Lib.hid hQ
    clear hK hL hQ
    generalize ((w.alloc (.cells #[.int .i64 r, .int .i64 c, .slice a0 za.length za.length] 26)).alloc (.cells #[.int .i64 r', .int .i64 c', .slice a1 zb.length zb.length] 26)).alloc (.cells #[.int .i64 0, .int .i64 0, .slice none 0 0] 26) = w4 at B_4 K_4 L_4 Q_4 ⊢
    refine (c_iValid r c _ _ _ false HV.out _).mono ?_
    rintro e w5 ⟨rfl, bl⟩
    have B_5 := Lib.hid (Below.next B_4.out bl)
    have K_5 := Lib.hid (K_4.out.below bl)
    have L_5 := Lib.hid (L_4.out.below bl)
    have Q_5 := Lib.hid (Q_4.out.below bl)
    clear bl B_4 K_4 L_4 Q_4
    obtain ⟨pK0, pK1, pK2, pK3⟩ := tb K_5.out
    obtain ⟨pL0, pL1, pL2, pL3⟩ := tb L_5.out
    obtain ⟨pQ0, pQ1, pQ2, pQ3⟩ := tb Q_5.out
    obtain ⟨fq0, fq1, fq2⟩ := tbf Q_5.out
    go_wp2_with fail
    exact bodyPost_ret (v := .tuple #[.agg #[.int .i64 0, .int .i64 0, .slice none 0 0], .bool false]) (by simp [results, Try.results49, go_sem, pQ0, pQ1, pQ2]) rfl ⟨none, 0, [], rfl, nil_own _ _, rfl, ((B_5.out.setCell (by simp; omega) _).setCell (by simp; omega) _).setCell (by simp; omega) _⟩
  | true =>
    have HV := Lib.hid e1
    cases e2 : vokB r' c' zb.length with
    | false =>
      have HV2 := Lib.hid e2
      clear e1 e2 hfit w0 w1
      go_enter Try.func49, Try.ntmps49
      go_wp2_with fail
      have B_4 := Lib.hid ((((Below.refl w.heap.size w).alloc (Nat.le_refl _) (.cells #[.int .i64 r, .int .i64 c, .slice a0 za.length za.length] 26)).alloc (by simp) (.cells #[.int .i64 r', .int .i64 c', .slice a1 zb.length zb.length] 26)).alloc (by simp; omega) (.cells #[.int .i64 0, .int .i64 0, .slice none 0 0] 26))
      have hK := ((Blk.new w 26 #[.int .i64 r, .int .i64 c, .slice a0 za.length za.length]).below ((Below.refl _ _).alloc (Nat.le_refl _) (.cells #[.int .i64 r', .int .i64 c', .slice a1 zb.length zb.length] 26))).below ((Below.refl _ _).alloc (Nat.le_refl _) (.cells #[.int .i64 0, .int .i64 0, .slice none 0 0] 26))
      have hL := (Blk.new (w.alloc (.cells #[.int .i64 r, .int .i64 c, .slice a0 za.length za.length] 26)) 26 #[.int .i64 r', .int .i64 c', .slice a1 zb.length zb.length]).below ((Below.refl _ _).alloc (Nat.le_refl _) (.cells #[.int .i64 0, .int .i64 0, .slice none 0 0] 26))
      have hQ := Blk.new ((w.alloc (.cells #[.int .i64 r, .int .i64 c, .slice a0 za.length za.length] 26)).alloc (.cells #[.int .i64 r', .int .i64 c', .slice a1 zb.length zb.length] 26)) 26 #[.int .i64 0, .int .i64 0, .slice none 0 0]
      simp only [World.size_alloc] at hL hQ
      have K_4 := Lib.hid hK
      have L_4 := Lib.hid hL
      have Q_4 := Lib.hid hQ
      clear hK hL hQ
      generalize ((w.alloc (.cells #[.int .i64 r, .int .i64 c, .slice a0 za.length za.length] 26)).alloc (.cells #[.int .i64 r', .int .i64 c', .slice a1 zb.length zb.length] 26)).alloc (.cells #[.int .i64 0, .int .i64 0, .slice none 0 0] 26) = w4 at B_4 K_4 L_4 Q_4 ⊢
      refine (c_iValid r c _ _ _ true HV.out _).mono ?_
      rintro e w5 ⟨rfl, bl⟩
      have B_5 := Lib.hid (Below.next B_4.out bl)
      have K_5 := Lib.hid (K_4.out.below bl)
      have L_5 := Lib.hid (L_4.out.below bl)
      have Q_5 := Lib.hid (Q_4.out.below bl)
      clear bl B_4 K_4 L_4 Q_4
      obtain ⟨pK0, pK1, pK2, pK3⟩ := tb K_5.out
      obtain ⟨pL0, pL1, pL2, pL3⟩ := tb L_5.out
      obtain ⟨pQ0, pQ1, pQ2, pQ3⟩ := tb Q_5.out
      obtain ⟨fq0, fq1, fq2⟩ := tbf Q_5.out
      go_wp2_with fail
      clear pK0 pK1 pK2 pK3 pL0 pL1 pL2 pL3 pQ0 pQ1 pQ2 pQ3 fq0 fq1 fq2
      refine (c_iValid r' c' _ _ _ false HV2.out _).mono ?_
      rintro e w6 ⟨rfl, bl⟩
      have B_6 := Lib.hid (Below.next B_5.out bl)
      have K_6 := Lib.hid (K_5.out.below bl)
      have L_6 := Lib.hid (L_5.out.below bl)
      have Q_6 := Lib.hid (Q_5.out.below bl)
      clear bl B_5 K_5 L_5 Q_5
      obtain ⟨pK0, pK1, pK2, pK3⟩ := tb K_6.out
      obtain ⟨pL0, pL1, pL2, pL3⟩ := tb L_6.out
      obtain ⟨pQ0, pQ1, pQ2, pQ3⟩ := tb Q_6.out
      obtain ⟨fq0, fq1, fq2⟩ := tbf Q_6.out
      go_wp2_with fail
      exact bodyPost_ret (v := .tuple #[.agg #[.int .i64 0, .int .i64 0, .slice none 0 0], .bool false]) (by simp [results, Try.results49, go_sem, pQ0, pQ1, pQ2]) rfl ⟨none, 0, [], rfl, nil_own _ _, rfl, ((B_6.out.setCell (by simp; omega) _).setCell (by simp; omega) _).setCell (by simp; omega) _⟩
    | true =>
      have HV2 := Lib.hid e2
      have hne : (c == r') = false := by
        unfold fitB at hfit
        rw [e1, e2] at hfit
        simpa using hfit
      have hne' : (c != r') = true := by simpa using hne
      have hne2 : ¬ c = r' := by simpa using hne
      clear e1 e2 hfit w0 w1
      go_enter Try.func49, Try.ntmps49
      go_wp2_with fail
      have B_4 := Lib.hid ((((Below.refl w.heap.size w).alloc (Nat.le_refl _) (.cells #[.int .i64 r, .int .i64 c, .slice a0 za.length za.length] 26)).alloc (by simp) (.cells #[.int .i64 r', .int .i64 c', .slice a1 zb.length zb.length] 26)).alloc (by simp; omega) (.cells #[.int .i64 0, .int .i64 0, .slice none 0 0] 26))
      have hK := ((Blk.new w 26 #[.int .i64 r, .int .i64 c, .slice a0 za.length za.length]).below ((Below.refl _ _).alloc (Nat.le_refl _) (.cells #[.int .i64 r', .int .i64 c', .slice a1 zb.length zb.length] 26))).below ((Below.refl _ _).alloc (Nat.le_refl _) (.cells #[.int .i64 0, .int .i64 0, .slice none 0 0] 26))
      have hL := (Blk.new (w.alloc (.cells #[.int .i64 r, .int .i64 c, .slice a0 za.length za.length] 26)) 26 #[.int .i64 r', .int .i64 c', .slice a1 zb.length zb.length]).below ((Below.refl _ _).alloc (Nat.le_refl _) (.cells #[.int .i64 0, .int .i64 0, .slice none 0 0] 26))
      have hQ := Blk.new ((w.alloc (.cells #[.int .i64 r, .int .i64 c, .slice a0 za.length za.length] 26)).alloc (.cells #[.int .i64 r', .int .i64 c', .slice a1 zb.length zb.length] 26)) 26 #[.int .i64 0, .int .i64 0, .slice none 0 0]
      simp only [World.size_alloc] at hL hQ
      have K_4 := Lib.hid hK
      have L_4 := Lib.hid hL
      have Q_4 := Lib.hid hQ
      clear hK hL hQ
      generalize ((w.alloc (.cells #[.int .i64 r, .int .i64 c, .slice a0 za.length za.length] 26)).alloc (.cells #[.int .i64 r', .int .i64 c', .slice a1 zb.length zb.length] 26)).alloc (.cells #[.int .i64 0, .int .i64 0, .slice none 0 0] 26) = w4 at B_4 K_4 L_4 Q_4 ⊢
      refine (c_iValid r c _ _ _ true HV.out _).mono ?_
      rintro e w5 ⟨rfl, bl⟩
      have B_5 := Lib.hid (Below.next B_4.out bl)
      have K_5 := Lib.hid (K_4.out.below bl)
      have L_5 := Lib.hid (L_4.out.below bl)
      have Q_5 := Lib.hid (Q_4.out.below bl)
      clear bl B_4 K_4 L_4 Q_4
      obtain ⟨pK0, pK1, pK2, pK3⟩ := tb K_5.out
      obtain ⟨pL0, pL1, pL2, pL3⟩ := tb L_5.out
      obtain ⟨pQ0, pQ1, pQ2, pQ3⟩ := tb Q_5.out
      obtain ⟨fq0, fq1, fq2⟩ := tbf Q_5.out
      go_wp2_with fail
      clear pK0 pK1 pK2 pK3 pL0 pL1 pL2 pL3 pQ0 pQ1 pQ2 pQ3 fq0 fq1 fq2
      refine (c_iValid r' c' _ _ _ true HV2.out _).mono ?_
      rintro e w6 ⟨rfl, bl⟩
      have B_6 := Lib.hid (Below.next B_5.out bl)
      have K_6 := Lib.hid (K_5.out.below bl)
      have L_6 := Lib.hid (L_5.out.below bl)
      have Q_6 := Lib.hid (Q_5.out.below bl)
      clear bl B_5 K_5 L_5 Q_5
      obtain ⟨pK0, pK1, pK2, pK3⟩ := tb K_6.out
      obtain ⟨pL0, pL1, pL2, pL3⟩ := tb L_6.out
      obtain ⟨pQ0, pQ1, pQ2, pQ3⟩ := tb Q_6.out
      obtain ⟨fq0, fq1, fq2⟩ := tbf Q_6.out
      go_wp2_with fail
      exact bodyPost_ret (v := .tuple #[.agg #[.int .i64 0, .int .i64 0, .slice none 0 0], .bool false]) (by simp [results, Try.results49, go_sem, pQ0, pQ1, pQ2]) rfl ⟨none, 0, [], rfl, nil_own _ _, rfl, ((B_6.out.setCell (by simp; omega) _).setCell (by simp; omega) _).setCell (by simp; omega) _⟩
end Go.Proofs.Ytkfpaehalfjhhaa
