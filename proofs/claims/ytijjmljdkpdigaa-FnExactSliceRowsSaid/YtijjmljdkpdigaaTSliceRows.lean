/-
  What SliceRows returns, as the model and as the program make it. Conditions: the numbers can be read.
-/
import Derived.Test.YtijjmljdkpdigaaTSlice
import Derived.Test.YtijjmljdkpdigaaLike
namespace Go.Proofs.Ytijjmljdkpdigaa
open Go.RowKit Go.Deep Go.WideShapes Go.ChangeShapes

set_option maxHeartbeats 2000000 in
theorem t_sSliceRows (r c : Int) (z : List Nat) (f n : Int) (a0 : Option Addr) (w : World) (h0 : IsFloats .f32 w a0 z.length z.length z) :
    Calls Try.prog 31 #[.agg #[.int .i64 r, .int .i64 c, .slice a0 z.length z.length], .int .i64 f, .int .i64 n] w (RetT (vSliceRows r c z f n).1 (vSliceRows r c z f n).2.1 (vSliceRows r c z f n).2.2.1 (vSliceRows r c z f n).2.2.2 w) := by
  have hn : z.length ≤ 9223372036854775807 := by have := h0.2.1; unfold maxLen at this; exact this
  have HI := Lib.hid h0
  clear h0
  cases hv : vokB r c z.length with
  | false =>
    have HV := Lib.hid hv
    have HX := Lib.hid (vSliceRows_no (r := r) (c := c) (z := z) (f := f) (n := n) (by rw [hv]; rfl))
    clear hv
    rw [HX.out]
    go_enter Try.func31, Try.ntmps31
    go_wp2_with fail
    have B_0 := Lib.hid (Below.refl w.heap.size w)
    have bl := (Below.refl (w).heap.size (w)).alloc (Nat.le_refl _) (.cells #[.int .i64 r, .int .i64 c, .slice a0 z.length z.length] 27)
    have hn := Blk.new (w) 27 #[.int .i64 r, .int .i64 c, .slice a0 z.length z.length]
    have B_1 := Lib.hid (Below.next B_0.out bl)
    clear bl B_0
    have K_1 := Lib.hid hn
    clear hn
    have bl := (Below.refl ((w).alloc (.cells #[.int .i64 r, .int .i64 c, .slice a0 z.length z.length] 27)).heap.size ((w).alloc (.cells #[.int .i64 r, .int .i64 c, .slice a0 z.length z.length] 27))).alloc (Nat.le_refl _) (.cells #[.int .i64 0, .int .i64 0, .slice none 0 0] 27)
    have hn := Blk.new ((w).alloc (.cells #[.int .i64 r, .int .i64 c, .slice a0 z.length z.length] 27)) 27 #[.int .i64 0, .int .i64 0, .slice none 0 0]
    simp only [World.size_alloc] at hn
    have B_2 := Lib.hid (Below.next B_1.out bl)
    have K_2 := Lib.hid (K_1.out.below bl)
    clear bl B_1 K_1
    have Q_2 := Lib.hid hn
    clear hn
    generalize ((w).alloc (.cells #[.int .i64 r, .int .i64 c, .slice a0 z.length z.length] 27)).alloc (.cells #[.int .i64 0, .int .i64 0, .slice none 0 0] 27) = w2 at B_2 K_2 Q_2 ⊢
    obtain ⟨pK0, pK1, pK2, pK3⟩ := tb K_2.out
    obtain ⟨pQ0, pQ1, pQ2, pQ3⟩ := tb Q_2.out
    obtain ⟨fq0, fq1, fq2⟩ := tbf Q_2.out
    refine (c_l02Is w.heap.size 0 r c a0 z.length z.length false HV.out hn _ pK0 pK1 pK2).mono ?_
    rintro e w3 ⟨rfl, dn⟩
    have bl := dn.below
    clear dn
    have B_3 := Lib.hid (Below.next B_2.out bl)
    have K_3 := Lib.hid (K_2.out.below bl)
    have Q_3 := Lib.hid (Q_2.out.below bl)
    clear bl B_2 K_2 Q_2
    clear pK0 pK1 pK2 pK3 pQ0 pQ1 pQ2 pQ3 fq0 fq1 fq2
    obtain ⟨pK0, pK1, pK2, pK3⟩ := tb K_3.out
    obtain ⟨pQ0, pQ1, pQ2, pQ3⟩ := tb Q_3.out
    obtain ⟨fq0, fq1, fq2⟩ := tbf Q_3.out
    go_wp2_with fail
    exact bodyPost_ret (v := .tuple #[.agg #[.int .i64 0, .int .i64 0, .slice none 0 0], .bool false]) (by simp [results, Try.results31, go_sem, pQ0, pQ1, pQ2]) rfl ⟨none, 0, [], rfl, nil_own _ _, rfl, ((B_3.out.setCell (by simp) _).setCell (by simp) _).setCell (by simp) _⟩
  | true =>
    obtain ⟨R, C, rfl, rfl, h1, h2, h3, h4, h5⟩ := vok_nat hv
    have H5 := Lib.hid h5
    clear h5
    have HV := Lib.hid hv
    cases hs : sliceOk (R : Int) f n with
    | false =>
      have HX := Lib.hid (vSliceRows_no (r := (R : Int)) (c := (C : Int)) (z := z) (f := f) (n := n) (by rw [hv, hs]; rfl))
      clear hv
      rw [HX.out]
      cases h1' : (decide (0 ≤ f) && decide (f ≤ (R : Int) - 1)) with
      | false =>
        have H1 := Lib.hid h1'
        have k1 : IntKind.i64.wrap ((R : Int) - 1) = (R : Int) - 1 := IntWalk.i64_in _ (by omega)
        clear h1' hs
        go_enter Try.func31, Try.ntmps31
        go_wp2_with fail
        have B_0 := Lib.hid (Below.refl w.heap.size w)
        have bl := (Below.refl (w).heap.size (w)).alloc (Nat.le_refl _) (.cells #[.int .i64 (R : Int), .int .i64 (C : Int), .slice a0 z.length z.length] 27)
        have hn := Blk.new (w) 27 #[.int .i64 (R : Int), .int .i64 (C : Int), .slice a0 z.length z.length]
        have B_1 := Lib.hid (Below.next B_0.out bl)
        clear bl B_0
        have K_1 := Lib.hid hn
        clear hn
        have bl := (Below.refl ((w).alloc (.cells #[.int .i64 (R : Int), .int .i64 (C : Int), .slice a0 z.length z.length] 27)).heap.size ((w).alloc (.cells #[.int .i64 (R : Int), .int .i64 (C : Int), .slice a0 z.length z.length] 27))).alloc (Nat.le_refl _) (.cells #[.int .i64 0, .int .i64 0, .slice none 0 0] 27)
        have hn := Blk.new ((w).alloc (.cells #[.int .i64 (R : Int), .int .i64 (C : Int), .slice a0 z.length z.length] 27)) 27 #[.int .i64 0, .int .i64 0, .slice none 0 0]
        simp only [World.size_alloc] at hn
        have B_2 := Lib.hid (Below.next B_1.out bl)
        have K_2 := Lib.hid (K_1.out.below bl)
        clear bl B_1 K_1
        have Q_2 := Lib.hid hn
        clear hn
        generalize ((w).alloc (.cells #[.int .i64 (R : Int), .int .i64 (C : Int), .slice a0 z.length z.length] 27)).alloc (.cells #[.int .i64 0, .int .i64 0, .slice none 0 0] 27) = w2 at B_2 K_2 Q_2 ⊢
        obtain ⟨pK0, pK1, pK2, pK3⟩ := tb K_2.out
        obtain ⟨pQ0, pQ1, pQ2, pQ3⟩ := tb Q_2.out
        obtain ⟨fq0, fq1, fq2⟩ := tbf Q_2.out
        refine (c_l02Is w.heap.size 0 (R : Int) (C : Int) a0 z.length z.length true HV.out hn _ pK0 pK1 pK2).mono ?_
        rintro e w3 ⟨rfl, dn⟩
        have bl := dn.below
        clear dn
        have B_3 := Lib.hid (Below.next B_2.out bl)
        have K_3 := Lib.hid (K_2.out.below bl)
        have Q_3 := Lib.hid (Q_2.out.below bl)
        clear bl B_2 K_2 Q_2
        clear pK0 pK1 pK2 pK3 pQ0 pQ1 pQ2 pQ3 fq0 fq1 fq2
        obtain ⟨pK0, pK1, pK2, pK3⟩ := tb K_3.out
        obtain ⟨pQ0, pQ1, pQ2, pQ3⟩ := tb Q_3.out
        obtain ⟨fq0, fq1, fq2⟩ := tbf Q_3.out
        go_wp2_with fail
        clear pK0 pK1 pK2 pK3 pQ0 pQ1 pQ2 pQ3 fq0 fq1 fq2
        refine (c_l00In _ _ _ false H1.out _).mono ?_
        rintro e w' ⟨rfl, rfl⟩
        obtain ⟨pK0, pK1, pK2, pK3⟩ := tb K_3.out
        obtain ⟨pQ0, pQ1, pQ2, pQ3⟩ := tb Q_3.out
        obtain ⟨fq0, fq1, fq2⟩ := tbf Q_3.out
        go_wp2_with fail
        exact bodyPost_ret (v := .tuple #[.agg #[.int .i64 0, .int .i64 0, .slice none 0 0], .bool false]) (by simp [results, Try.results31, go_sem, pQ0, pQ1, pQ2]) rfl ⟨none, 0, [], rfl, nil_own _ _, rfl, ((B_3.out.setCell (by simp) _).setCell (by simp) _).setCell (by simp) _⟩
      | true =>
        have H1 := Lib.hid h1'
        have k1 : IntKind.i64.wrap ((R : Int) - 1) = (R : Int) - 1 := IntWalk.i64_in _ (by omega)
        have h2' : (decide (1 ≤ n) && decide (n ≤ (R : Int) - f)) = false := by rw [sliceOk, h1', Bool.true_and] at hs; exact hs
        have H2 := Lib.hid h2'
        have hb : 0 ≤ f ∧ f ≤ (R : Int) - 1 := by simpa using h1'
        obtain ⟨hb1, hb2⟩ := hb
        clear h2'
        clear h1' hs
        go_enter Try.func31, Try.ntmps31
        go_wp2_with fail
        have B_0 := Lib.hid (Below.refl w.heap.size w)
        have bl := (Below.refl (w).heap.size (w)).alloc (Nat.le_refl _) (.cells #[.int .i64 (R : Int), .int .i64 (C : Int), .slice a0 z.length z.length] 27)
        have hn := Blk.new (w) 27 #[.int .i64 (R : Int), .int .i64 (C : Int), .slice a0 z.length z.length]
        have B_1 := Lib.hid (Below.next B_0.out bl)
        clear bl B_0
        have K_1 := Lib.hid hn
        clear hn
        have bl := (Below.refl ((w).alloc (.cells #[.int .i64 (R : Int), .int .i64 (C : Int), .slice a0 z.length z.length] 27)).heap.size ((w).alloc (.cells #[.int .i64 (R : Int), .int .i64 (C : Int), .slice a0 z.length z.length] 27))).alloc (Nat.le_refl _) (.cells #[.int .i64 0, .int .i64 0, .slice none 0 0] 27)
        have hn := Blk.new ((w).alloc (.cells #[.int .i64 (R : Int), .int .i64 (C : Int), .slice a0 z.length z.length] 27)) 27 #[.int .i64 0, .int .i64 0, .slice none 0 0]
        simp only [World.size_alloc] at hn
        have B_2 := Lib.hid (Below.next B_1.out bl)
        have K_2 := Lib.hid (K_1.out.below bl)
        clear bl B_1 K_1
        have Q_2 := Lib.hid hn
        clear hn
        generalize ((w).alloc (.cells #[.int .i64 (R : Int), .int .i64 (C : Int), .slice a0 z.length z.length] 27)).alloc (.cells #[.int .i64 0, .int .i64 0, .slice none 0 0] 27) = w2 at B_2 K_2 Q_2 ⊢
        obtain ⟨pK0, pK1, pK2, pK3⟩ := tb K_2.out
        obtain ⟨pQ0, pQ1, pQ2, pQ3⟩ := tb Q_2.out
        obtain ⟨fq0, fq1, fq2⟩ := tbf Q_2.out
        refine (c_l02Is w.heap.size 0 (R : Int) (C : Int) a0 z.length z.length true HV.out hn _ pK0 pK1 pK2).mono ?_
        rintro e w3 ⟨rfl, dn⟩
        have bl := dn.below
        clear dn
        have B_3 := Lib.hid (Below.next B_2.out bl)
        have K_3 := Lib.hid (K_2.out.below bl)
        have Q_3 := Lib.hid (Q_2.out.below bl)
        clear bl B_2 K_2 Q_2
        clear pK0 pK1 pK2 pK3 pQ0 pQ1 pQ2 pQ3 fq0 fq1 fq2
        obtain ⟨pK0, pK1, pK2, pK3⟩ := tb K_3.out
        obtain ⟨pQ0, pQ1, pQ2, pQ3⟩ := tb Q_3.out
        obtain ⟨fq0, fq1, fq2⟩ := tbf Q_3.out
        go_wp2_with fail
        clear pK0 pK1 pK2 pK3 pQ0 pQ1 pQ2 pQ3 fq0 fq1 fq2
        refine (c_l00In _ _ _ true H1.out _).mono ?_
        rintro e w' ⟨rfl, rfl⟩
        obtain ⟨pK0, pK1, pK2, pK3⟩ := tb K_3.out
        obtain ⟨pQ0, pQ1, pQ2, pQ3⟩ := tb Q_3.out
        obtain ⟨fq0, fq1, fq2⟩ := tbf Q_3.out
        go_wp2_with fail
        clear pK0 pK1 pK2 pK3 pQ0 pQ1 pQ2 pQ3 fq0 fq1 fq2
        refine (c_l00In _ _ _ false H2.out _).mono ?_
        rintro e w' ⟨rfl, rfl⟩
        obtain ⟨pK0, pK1, pK2, pK3⟩ := tb K_3.out
        obtain ⟨pQ0, pQ1, pQ2, pQ3⟩ := tb Q_3.out
        obtain ⟨fq0, fq1, fq2⟩ := tbf Q_3.out
        go_wp2_with fail
        exact bodyPost_ret (v := .tuple #[.agg #[.int .i64 0, .int .i64 0, .slice none 0 0], .bool false]) (by simp [results, Try.results31, go_sem, pQ0, pQ1, pQ2]) rfl ⟨none, 0, [], rfl, nil_own _ _, rfl, ((B_3.out.setCell (by simp) _).setCell (by simp) _).setCell (by simp) _⟩
    | true =>
      obtain ⟨A, M, rfl, rfl, hM, hA⟩ := slice_nat hs
      obtain ⟨zr, hz⟩ : ∃ zr, (z.drop (A * C)).take (M * C) = zr := ⟨_, rfl⟩
      have HZ := Lib.hid hz
      have HX := Lib.hid (vSliceRows_yes hv hs hz)
      clear hz hv
      rw [HX.out]
      have hs' := hs
      simp only [sliceOk, Bool.and_eq_true] at hs'
      have H1 := Lib.hid (show (decide ((0 : Int) ≤ (A : Int)) && decide ((A : Int) ≤ (R : Int) - 1)) = true by simp; omega)
      have H2 := Lib.hid (show (decide ((1 : Int) ≤ (M : Int)) && decide ((M : Int) ≤ (R : Int) - (A : Int))) = true by simp; omega)
      have k1 : IntKind.i64.wrap ((R : Int) - 1) = (R : Int) - 1 := IntWalk.i64_in _ (by omega)
      have hAR : (A : Int) ≤ (R : Int) := by omega
      clear hs hs'
      go_enter Try.func31, Try.ntmps31
      go_wp2_with fail
      have B_0 := Lib.hid (Below.refl w.heap.size w)
      have bl := (Below.refl (w).heap.size (w)).alloc (Nat.le_refl _) (.cells #[.int .i64 (R : Int), .int .i64 (C : Int), .slice a0 z.length z.length] 27)
      have hn := Blk.new (w) 27 #[.int .i64 (R : Int), .int .i64 (C : Int), .slice a0 z.length z.length]
      have B_1 := Lib.hid (Below.next B_0.out bl)
      clear bl B_0
      have K_1 := Lib.hid hn
      clear hn
      have bl := (Below.refl ((w).alloc (.cells #[.int .i64 (R : Int), .int .i64 (C : Int), .slice a0 z.length z.length] 27)).heap.size ((w).alloc (.cells #[.int .i64 (R : Int), .int .i64 (C : Int), .slice a0 z.length z.length] 27))).alloc (Nat.le_refl _) (.cells #[.int .i64 0, .int .i64 0, .slice none 0 0] 27)
      have hn := Blk.new ((w).alloc (.cells #[.int .i64 (R : Int), .int .i64 (C : Int), .slice a0 z.length z.length] 27)) 27 #[.int .i64 0, .int .i64 0, .slice none 0 0]
      simp only [World.size_alloc] at hn
      have B_2 := Lib.hid (Below.next B_1.out bl)
      have K_2 := Lib.hid (K_1.out.below bl)
      clear bl B_1 K_1
      have Q_2 := Lib.hid hn
      clear hn
      generalize ((w).alloc (.cells #[.int .i64 (R : Int), .int .i64 (C : Int), .slice a0 z.length z.length] 27)).alloc (.cells #[.int .i64 0, .int .i64 0, .slice none 0 0] 27) = w2 at B_2 K_2 Q_2 ⊢
      obtain ⟨pK0, pK1, pK2, pK3⟩ := tb K_2.out
      obtain ⟨pQ0, pQ1, pQ2, pQ3⟩ := tb Q_2.out
      obtain ⟨fq0, fq1, fq2⟩ := tbf Q_2.out
      refine (c_l02Is w.heap.size 0 (R : Int) (C : Int) a0 z.length z.length true HV.out hn _ pK0 pK1 pK2).mono ?_
      rintro e w3 ⟨rfl, dn⟩
      have bl := dn.below
      clear dn
      have B_3 := Lib.hid (Below.next B_2.out bl)
      have K_3 := Lib.hid (K_2.out.below bl)
      have Q_3 := Lib.hid (Q_2.out.below bl)
      clear bl B_2 K_2 Q_2
      clear pK0 pK1 pK2 pK3 pQ0 pQ1 pQ2 pQ3 fq0 fq1 fq2
      obtain ⟨pK0, pK1, pK2, pK3⟩ := tb K_3.out
      obtain ⟨pQ0, pQ1, pQ2, pQ3⟩ := tb Q_3.out
      obtain ⟨fq0, fq1, fq2⟩ := tbf Q_3.out
      go_wp2_with fail
      clear pK0 pK1 pK2 pK3 pQ0 pQ1 pQ2 pQ3 fq0 fq1 fq2
      refine (c_l00In _ _ _ true H1.out _).mono ?_
      rintro e w' ⟨rfl, rfl⟩
      obtain ⟨pK0, pK1, pK2, pK3⟩ := tb K_3.out
      obtain ⟨pQ0, pQ1, pQ2, pQ3⟩ := tb Q_3.out
      obtain ⟨fq0, fq1, fq2⟩ := tbf Q_3.out
      go_wp2_with fail
      clear pK0 pK1 pK2 pK3 pQ0 pQ1 pQ2 pQ3 fq0 fq1 fq2
      refine (c_l00In _ _ _ true H2.out _).mono ?_
      rintro e w' ⟨rfl, rfl⟩
      obtain ⟨pK0, pK1, pK2, pK3⟩ := tb K_3.out
      obtain ⟨pQ0, pQ1, pQ2, pQ3⟩ := tb Q_3.out
      obtain ⟨fq0, fq1, fq2⟩ := tbf Q_3.out
      go_wp2_with fail
      clear pK0 pK1 pK2 pK3 pQ0 pQ1 pQ2 pQ3 fq0 fq1 fq2
      obtain ⟨pK0, pK1, pK2, pK3⟩ := tb K_3.out
      obtain ⟨pQ0, pQ1, pQ2, pQ3⟩ := tb Q_3.out
      obtain ⟨fq0, fq1, fq2⟩ := tbf Q_3.out
      refine (c_l02Slice w.heap.size R C A M a0 z.length z.length z _ (HI.out.kept B_3.out) h2 h3 h4 hM hA H5.out zr HZ.out pK1 pK2).mono ?_
      rintro e w4 ⟨b, cc, ys, rfl, hf, hy, bl⟩
      have HW := Lib.hid (hf.base B_3.out.size)
      have HYS := Lib.hid hy
      clear hf hy
      have B_4 := Lib.hid (Below.next B_3.out bl)
      have K_4 := Lib.hid (K_3.out.below bl)
      have Q_4 := Lib.hid (Q_3.out.below bl)
      clear bl B_3 K_3 Q_3
      clear pK0 pK1 pK2 pK3 pQ0 pQ1 pQ2 pQ3 fq0 fq1 fq2
      obtain ⟨pK0, pK1, pK2, pK3⟩ := tb K_4.out
      obtain ⟨pQ0, pQ1, pQ2, pQ3⟩ := tb Q_4.out
      obtain ⟨fq0, fq1, fq2⟩ := tbf Q_4.out
      go_wp2_with fail
      exact bodyPost_ret (v := .tuple #[.agg #[.int .i64 M, .int .i64 C, .slice b ys.length cc], .bool true]) (by simp [results, Try.results31, go_sem, pQ0, pQ1, pQ2]) rfl ⟨b, cc, ys, rfl, HW.out.off (store3 Q_4.out).2 Q_4.out (by decide), HYS.out, ((B_4.out.setCell (by simp) _).setCell (by simp) _).setCell (by simp) _⟩
set_option maxHeartbeats 2000000 in
theorem t_iSliceRows (r c : Int) (z : List Nat) (f n : Int) (a0 : Option Addr) (w : World) (h0 : IsFloats .f32 w a0 z.length z.length z) :
    Calls Try.prog 32 #[.agg #[.int .i64 r, .int .i64 c, .slice a0 z.length z.length], .int .i64 f, .int .i64 n] w (RetT (vSliceRows r c z f n).1 (vSliceRows r c z f n).2.1 (vSliceRows r c z f n).2.2.1 (vSliceRows r c z f n).2.2.2 w) := by
  have hn : z.length ≤ 9223372036854775807 := by have := h0.2.1; unfold maxLen at this; exact this
  have HI := Lib.hid h0
  clear h0
  cases hv : vokB r c z.length with
  | false =>
    have HV := Lib.hid hv
    have HX := Lib.hid (vSliceRows_no (r := r) (c := c) (z := z) (f := f) (n := n) (by rw [hv]; rfl))
    clear hv
    rw [HX.out]
    go_enter Try.func32, Try.ntmps32
    go_wp2_with fail
    have B_0 := Lib.hid (Below.refl w.heap.size w)
    have bl := (Below.refl (w).heap.size (w)).alloc (Nat.le_refl _) (.cells #[.int .i64 r, .int .i64 c, .slice a0 z.length z.length] 27)
    have hn := Blk.new (w) 27 #[.int .i64 r, .int .i64 c, .slice a0 z.length z.length]
    have B_1 := Lib.hid (Below.next B_0.out bl)
    clear bl B_0
    have K_1 := Lib.hid hn
    clear hn
    have bl := (Below.refl ((w).alloc (.cells #[.int .i64 r, .int .i64 c, .slice a0 z.length z.length] 27)).heap.size ((w).alloc (.cells #[.int .i64 r, .int .i64 c, .slice a0 z.length z.length] 27))).alloc (Nat.le_refl _) (.cells #[.int .i64 0, .int .i64 0, .slice none 0 0] 27)
    have hn := Blk.new ((w).alloc (.cells #[.int .i64 r, .int .i64 c, .slice a0 z.length z.length] 27)) 27 #[.int .i64 0, .int .i64 0, .slice none 0 0]
    simp only [World.size_alloc] at hn
    have B_2 := Lib.hid (Below.next B_1.out bl)
    have K_2 := Lib.hid (K_1.out.below bl)
    clear bl B_1 K_1
    have Q_2 := Lib.hid hn
    clear hn
    generalize ((w).alloc (.cells #[.int .i64 r, .int .i64 c, .slice a0 z.length z.length] 27)).alloc (.cells #[.int .i64 0, .int .i64 0, .slice none 0 0] 27) = w2 at B_2 K_2 Q_2 ⊢
    refine (c_iValid r c _ _ _ false HV.out _).mono ?_
    rintro e w3 ⟨rfl, bl⟩
    have B_3 := Lib.hid (Below.next B_2.out bl)
    have K_3 := Lib.hid (K_2.out.below bl)
    have Q_3 := Lib.hid (Q_2.out.below bl)
    clear bl B_2 K_2 Q_2
    obtain ⟨pK0, pK1, pK2, pK3⟩ := tb K_3.out
    obtain ⟨pQ0, pQ1, pQ2, pQ3⟩ := tb Q_3.out
    obtain ⟨fq0, fq1, fq2⟩ := tbf Q_3.out
    go_wp2_with fail
    exact bodyPost_ret (v := .tuple #[.agg #[.int .i64 0, .int .i64 0, .slice none 0 0], .bool false]) (by simp [results, Try.results32, go_sem, pQ0, pQ1, pQ2]) rfl ⟨none, 0, [], rfl, nil_own _ _, rfl, ((B_3.out.setCell (by simp) _).setCell (by simp) _).setCell (by simp) _⟩
  | true =>
    obtain ⟨R, C, rfl, rfl, h1, h2, h3, h4, h5⟩ := vok_nat hv
    have H5 := Lib.hid h5
    clear h5
    have HV := Lib.hid hv
    cases hs : sliceOk (R : Int) f n with
    | false =>
      have HX := Lib.hid (vSliceRows_no (r := (R : Int)) (c := (C : Int)) (z := z) (f := f) (n := n) (by rw [hv, hs]; rfl))
      clear hv
      rw [HX.out]
      have hno : f < 0 ∨ (0 ≤ f ∧ (R : Int) ≤ f) ∨ ((0 ≤ f ∧ f < (R : Int)) ∧ n < 1) ∨ ((0 ≤ f ∧ f < (R : Int)) ∧ 1 ≤ n ∧ (R : Int) - f < n) := by
        by_cases q1 : 0 ≤ f
        · by_cases q2 : f < (R : Int)
          · by_cases q3 : 1 ≤ n
            · by_cases q4 : n ≤ (R : Int) - f
              · exfalso
                have : sliceOk (R : Int) f n = true := by simp [sliceOk]; omega
                rw [hs] at this; cases this
              · omega
            · omega
          · omega
        · omega
      clear hs
      rcases hno with q | ⟨q1, q2⟩ | ⟨⟨q1, q2⟩, q3⟩ | ⟨⟨q1, q2⟩, q3, q4⟩
      · have d0 : decide (f < 0) = true := decide_eq_true (by omega)
        go_enter Try.func32, Try.ntmps32
        go_wp2_with fail
        have B_0 := Lib.hid (Below.refl w.heap.size w)
        have bl := (Below.refl (w).heap.size (w)).alloc (Nat.le_refl _) (.cells #[.int .i64 (R : Int), .int .i64 (C : Int), .slice a0 z.length z.length] 27)
        have hn := Blk.new (w) 27 #[.int .i64 (R : Int), .int .i64 (C : Int), .slice a0 z.length z.length]
        have B_1 := Lib.hid (Below.next B_0.out bl)
        clear bl B_0
        have K_1 := Lib.hid hn
        clear hn
        have bl := (Below.refl ((w).alloc (.cells #[.int .i64 (R : Int), .int .i64 (C : Int), .slice a0 z.length z.length] 27)).heap.size ((w).alloc (.cells #[.int .i64 (R : Int), .int .i64 (C : Int), .slice a0 z.length z.length] 27))).alloc (Nat.le_refl _) (.cells #[.int .i64 0, .int .i64 0, .slice none 0 0] 27)
        have hn := Blk.new ((w).alloc (.cells #[.int .i64 (R : Int), .int .i64 (C : Int), .slice a0 z.length z.length] 27)) 27 #[.int .i64 0, .int .i64 0, .slice none 0 0]
        simp only [World.size_alloc] at hn
        have B_2 := Lib.hid (Below.next B_1.out bl)
        have K_2 := Lib.hid (K_1.out.below bl)
        clear bl B_1 K_1
        have Q_2 := Lib.hid hn
        clear hn
        generalize ((w).alloc (.cells #[.int .i64 (R : Int), .int .i64 (C : Int), .slice a0 z.length z.length] 27)).alloc (.cells #[.int .i64 0, .int .i64 0, .slice none 0 0] 27) = w2 at B_2 K_2 Q_2 ⊢
        refine (c_iValid (R : Int) (C : Int) _ _ _ true HV.out _).mono ?_
        rintro e w3 ⟨rfl, bl⟩
        have B_3 := Lib.hid (Below.next B_2.out bl)
        have K_3 := Lib.hid (K_2.out.below bl)
        have Q_3 := Lib.hid (Q_2.out.below bl)
        clear bl B_2 K_2 Q_2
        obtain ⟨pK0, pK1, pK2, pK3⟩ := tb K_3.out
        obtain ⟨pQ0, pQ1, pQ2, pQ3⟩ := tb Q_3.out
        obtain ⟨fq0, fq1, fq2⟩ := tbf Q_3.out
        go_wp2_with fail
        exact bodyPost_ret (v := .tuple #[.agg #[.int .i64 0, .int .i64 0, .slice none 0 0], .bool false]) (by simp [results, Try.results32, go_sem, pQ0, pQ1, pQ2]) rfl ⟨none, 0, [], rfl, nil_own _ _, rfl, ((B_3.out.setCell (by simp) _).setCell (by simp) _).setCell (by simp) _⟩
      · have d0 : decide (f < 0) = false := decide_eq_false (by omega)
        have d1 : decide ((R : Int) ≤ f) = true := decide_eq_true (by omega)
        go_enter Try.func32, Try.ntmps32
        go_wp2_with fail
        have B_0 := Lib.hid (Below.refl w.heap.size w)
        have bl := (Below.refl (w).heap.size (w)).alloc (Nat.le_refl _) (.cells #[.int .i64 (R : Int), .int .i64 (C : Int), .slice a0 z.length z.length] 27)
        have hn := Blk.new (w) 27 #[.int .i64 (R : Int), .int .i64 (C : Int), .slice a0 z.length z.length]
        have B_1 := Lib.hid (Below.next B_0.out bl)
        clear bl B_0
        have K_1 := Lib.hid hn
        clear hn
        have bl := (Below.refl ((w).alloc (.cells #[.int .i64 (R : Int), .int .i64 (C : Int), .slice a0 z.length z.length] 27)).heap.size ((w).alloc (.cells #[.int .i64 (R : Int), .int .i64 (C : Int), .slice a0 z.length z.length] 27))).alloc (Nat.le_refl _) (.cells #[.int .i64 0, .int .i64 0, .slice none 0 0] 27)
        have hn := Blk.new ((w).alloc (.cells #[.int .i64 (R : Int), .int .i64 (C : Int), .slice a0 z.length z.length] 27)) 27 #[.int .i64 0, .int .i64 0, .slice none 0 0]
        simp only [World.size_alloc] at hn
        have B_2 := Lib.hid (Below.next B_1.out bl)
        have K_2 := Lib.hid (K_1.out.below bl)
        clear bl B_1 K_1
        have Q_2 := Lib.hid hn
        clear hn
        generalize ((w).alloc (.cells #[.int .i64 (R : Int), .int .i64 (C : Int), .slice a0 z.length z.length] 27)).alloc (.cells #[.int .i64 0, .int .i64 0, .slice none 0 0] 27) = w2 at B_2 K_2 Q_2 ⊢
        refine (c_iValid (R : Int) (C : Int) _ _ _ true HV.out _).mono ?_
        rintro e w3 ⟨rfl, bl⟩
        have B_3 := Lib.hid (Below.next B_2.out bl)
        have K_3 := Lib.hid (K_2.out.below bl)
        have Q_3 := Lib.hid (Q_2.out.below bl)
        clear bl B_2 K_2 Q_2
        obtain ⟨pK0, pK1, pK2, pK3⟩ := tb K_3.out
        obtain ⟨pQ0, pQ1, pQ2, pQ3⟩ := tb Q_3.out
        obtain ⟨fq0, fq1, fq2⟩ := tbf Q_3.out
        go_wp2_with fail
        exact bodyPost_ret (v := .tuple #[.agg #[.int .i64 0, .int .i64 0, .slice none 0 0], .bool false]) (by simp [results, Try.results32, go_sem, pQ0, pQ1, pQ2]) rfl ⟨none, 0, [], rfl, nil_own _ _, rfl, ((B_3.out.setCell (by simp) _).setCell (by simp) _).setCell (by simp) _⟩
      · have d0 : decide (f < 0) = false := decide_eq_false (by omega)
        have d1 : decide ((R : Int) ≤ f) = false := decide_eq_false (by omega)
        have d2 : decide (n < 1) = true := decide_eq_true (by omega)
        go_enter Try.func32, Try.ntmps32
        go_wp2_with fail
        have B_0 := Lib.hid (Below.refl w.heap.size w)
        have bl := (Below.refl (w).heap.size (w)).alloc (Nat.le_refl _) (.cells #[.int .i64 (R : Int), .int .i64 (C : Int), .slice a0 z.length z.length] 27)
        have hn := Blk.new (w) 27 #[.int .i64 (R : Int), .int .i64 (C : Int), .slice a0 z.length z.length]
        have B_1 := Lib.hid (Below.next B_0.out bl)
        clear bl B_0
        have K_1 := Lib.hid hn
        clear hn
        have bl := (Below.refl ((w).alloc (.cells #[.int .i64 (R : Int), .int .i64 (C : Int), .slice a0 z.length z.length] 27)).heap.size ((w).alloc (.cells #[.int .i64 (R : Int), .int .i64 (C : Int), .slice a0 z.length z.length] 27))).alloc (Nat.le_refl _) (.cells #[.int .i64 0, .int .i64 0, .slice none 0 0] 27)
        have hn := Blk.new ((w).alloc (.cells #[.int .i64 (R : Int), .int .i64 (C : Int), .slice a0 z.length z.length] 27)) 27 #[.int .i64 0, .int .i64 0, .slice none 0 0]
        simp only [World.size_alloc] at hn
        have B_2 := Lib.hid (Below.next B_1.out bl)
        have K_2 := Lib.hid (K_1.out.below bl)
        clear bl B_1 K_1
        have Q_2 := Lib.hid hn
        clear hn
        generalize ((w).alloc (.cells #[.int .i64 (R : Int), .int .i64 (C : Int), .slice a0 z.length z.length] 27)).alloc (.cells #[.int .i64 0, .int .i64 0, .slice none 0 0] 27) = w2 at B_2 K_2 Q_2 ⊢
        refine (c_iValid (R : Int) (C : Int) _ _ _ true HV.out _).mono ?_
        rintro e w3 ⟨rfl, bl⟩
        have B_3 := Lib.hid (Below.next B_2.out bl)
        have K_3 := Lib.hid (K_2.out.below bl)
        have Q_3 := Lib.hid (Q_2.out.below bl)
        clear bl B_2 K_2 Q_2
        obtain ⟨pK0, pK1, pK2, pK3⟩ := tb K_3.out
        obtain ⟨pQ0, pQ1, pQ2, pQ3⟩ := tb Q_3.out
        obtain ⟨fq0, fq1, fq2⟩ := tbf Q_3.out
        go_wp2_with fail
        exact bodyPost_ret (v := .tuple #[.agg #[.int .i64 0, .int .i64 0, .slice none 0 0], .bool false]) (by simp [results, Try.results32, go_sem, pQ0, pQ1, pQ2]) rfl ⟨none, 0, [], rfl, nil_own _ _, rfl, ((B_3.out.setCell (by simp) _).setCell (by simp) _).setCell (by simp) _⟩
      · have d0 : decide (f < 0) = false := decide_eq_false (by omega)
        have d1 : decide ((R : Int) ≤ f) = false := decide_eq_false (by omega)
        have d2 : decide (n < 1) = false := decide_eq_false (by omega)
        have d3 : decide ((R : Int) - f < n) = true := decide_eq_true (by omega)
        go_enter Try.func32, Try.ntmps32
        go_wp2_with fail
        have B_0 := Lib.hid (Below.refl w.heap.size w)
        have bl := (Below.refl (w).heap.size (w)).alloc (Nat.le_refl _) (.cells #[.int .i64 (R : Int), .int .i64 (C : Int), .slice a0 z.length z.length] 27)
        have hn := Blk.new (w) 27 #[.int .i64 (R : Int), .int .i64 (C : Int), .slice a0 z.length z.length]
        have B_1 := Lib.hid (Below.next B_0.out bl)
        clear bl B_0
        have K_1 := Lib.hid hn
        clear hn
        have bl := (Below.refl ((w).alloc (.cells #[.int .i64 (R : Int), .int .i64 (C : Int), .slice a0 z.length z.length] 27)).heap.size ((w).alloc (.cells #[.int .i64 (R : Int), .int .i64 (C : Int), .slice a0 z.length z.length] 27))).alloc (Nat.le_refl _) (.cells #[.int .i64 0, .int .i64 0, .slice none 0 0] 27)
        have hn := Blk.new ((w).alloc (.cells #[.int .i64 (R : Int), .int .i64 (C : Int), .slice a0 z.length z.length] 27)) 27 #[.int .i64 0, .int .i64 0, .slice none 0 0]
        simp only [World.size_alloc] at hn
        have B_2 := Lib.hid (Below.next B_1.out bl)
        have K_2 := Lib.hid (K_1.out.below bl)
        clear bl B_1 K_1
        have Q_2 := Lib.hid hn
        clear hn
        generalize ((w).alloc (.cells #[.int .i64 (R : Int), .int .i64 (C : Int), .slice a0 z.length z.length] 27)).alloc (.cells #[.int .i64 0, .int .i64 0, .slice none 0 0] 27) = w2 at B_2 K_2 Q_2 ⊢
        refine (c_iValid (R : Int) (C : Int) _ _ _ true HV.out _).mono ?_
        rintro e w3 ⟨rfl, bl⟩
        have B_3 := Lib.hid (Below.next B_2.out bl)
        have K_3 := Lib.hid (K_2.out.below bl)
        have Q_3 := Lib.hid (Q_2.out.below bl)
        clear bl B_2 K_2 Q_2
        obtain ⟨pK0, pK1, pK2, pK3⟩ := tb K_3.out
        obtain ⟨pQ0, pQ1, pQ2, pQ3⟩ := tb Q_3.out
        obtain ⟨fq0, fq1, fq2⟩ := tbf Q_3.out
        go_wp2_with fail
        exact bodyPost_ret (v := .tuple #[.agg #[.int .i64 0, .int .i64 0, .slice none 0 0], .bool false]) (by simp [results, Try.results32, go_sem, pQ0, pQ1, pQ2]) rfl ⟨none, 0, [], rfl, nil_own _ _, rfl, ((B_3.out.setCell (by simp) _).setCell (by simp) _).setCell (by simp) _⟩
    | true =>
      obtain ⟨A, M, rfl, rfl, hM, hA⟩ := slice_nat hs
      obtain ⟨zr, hz⟩ : ∃ zr, (z.drop (A * C)).take (M * C) = zr := ⟨_, rfl⟩
      have HZ := Lib.hid hz
      have HX := Lib.hid (vSliceRows_yes hv hs hz)
      clear hz hv
      rw [HX.out]
      have d0 : decide ((A : Int) < 0) = false := decide_eq_false (by omega)
      have d1 : decide ((R : Int) ≤ (A : Int)) = false := decide_eq_false (by omega)
      have d2 : decide ((M : Int) < 1) = false := decide_eq_false (by omega)
      have d3 : decide ((R : Int) - (A : Int) < (M : Int)) = false := decide_eq_false (by omega)
      obtain ⟨f1, f2, f3, f4, f5, f6⟩ := slice_facts h2 h3 h4 hM hA H5.out
      obtain ⟨b0, off, rfl⟩ : ∃ b off, a0 = some ⟨b, off, none⟩ := by
        rcases HI.out.2.2.2.2 with h' | ⟨b, off, rfl, _⟩
        · omega
        · exact ⟨b, off, rfl⟩
      obtain ⟨P, hP⟩ : ∃ P, A * C = P := ⟨_, rfl⟩
      obtain ⟨Q', hQ⟩ : ∃ Q, (A + M) * C = Q := ⟨_, rfl⟩
      rw [hP] at f1 f4 f6
      rw [hQ] at f1 f2 f5 f6
      have hf0 := HI.out.part P Q' (by omega) (by omega) (z.length - P) (by omega) (by have := HI.out.2.1; omega)
      have hzr : (z.drop P).take (Q' - P) = zr := by rw [← HZ.out, hP, f6]
      rw [hzr] at hf0
      have HF := Lib.hid hf0
      have hq1 : (P : Int) < (Q' : Int) := by omega
      have hq2 : (Q' : Int) ≤ (z.length : Int) := by omega
      have hq0 : (0 : Int) ≤ (P : Int) := by omega
      have hq4 : P ≤ Q' := by omega
      have hne : ¬ z.length = P := by omega
      have k1 : IntKind.i64.wrap ((A : Int) * (C : Int)) = (P : Int) := by rw [f4]; exact IntWalk.i64_in _ (by omega)
      have k2 : (A : Int) * (C : Int) = (P : Int) := f4
      have k3 : ((A : Int) + (M : Int)) * (C : Int) = (Q' : Int) := f5
      have h256 : z.length ≤ 256 := f3
      clear hs f1 f2 f3 f4 f5 f6 hP hQ hf0 hzr
      go_enter Try.func32, Try.ntmps32
      go_wp2_with fail
      have B_0 := Lib.hid (Below.refl w.heap.size w)
      have bl := (Below.refl (w).heap.size (w)).alloc (Nat.le_refl _) (.cells #[.int .i64 (R : Int), .int .i64 (C : Int), .slice (some ⟨b0, off, none⟩) z.length z.length] 27)
      have hn := Blk.new (w) 27 #[.int .i64 (R : Int), .int .i64 (C : Int), .slice (some ⟨b0, off, none⟩) z.length z.length]
      have B_1 := Lib.hid (Below.next B_0.out bl)
      clear bl B_0
      have K_1 := Lib.hid hn
      clear hn
      have bl := (Below.refl ((w).alloc (.cells #[.int .i64 (R : Int), .int .i64 (C : Int), .slice (some ⟨b0, off, none⟩) z.length z.length] 27)).heap.size ((w).alloc (.cells #[.int .i64 (R : Int), .int .i64 (C : Int), .slice (some ⟨b0, off, none⟩) z.length z.length] 27))).alloc (Nat.le_refl _) (.cells #[.int .i64 0, .int .i64 0, .slice none 0 0] 27)
      have hn := Blk.new ((w).alloc (.cells #[.int .i64 (R : Int), .int .i64 (C : Int), .slice (some ⟨b0, off, none⟩) z.length z.length] 27)) 27 #[.int .i64 0, .int .i64 0, .slice none 0 0]
      simp only [World.size_alloc] at hn
      have B_2 := Lib.hid (Below.next B_1.out bl)
      have K_2 := Lib.hid (K_1.out.below bl)
      clear bl B_1 K_1
      have Q_2 := Lib.hid hn
      clear hn
      generalize ((w).alloc (.cells #[.int .i64 (R : Int), .int .i64 (C : Int), .slice (some ⟨b0, off, none⟩) z.length z.length] 27)).alloc (.cells #[.int .i64 0, .int .i64 0, .slice none 0 0] 27) = w2 at B_2 K_2 Q_2 ⊢
      refine (c_iValid (R : Int) (C : Int) _ _ _ true HV.out _).mono ?_
      rintro e w3 ⟨rfl, bl⟩
      have B_3 := Lib.hid (Below.next B_2.out bl)
      have K_3 := Lib.hid (K_2.out.below bl)
      have Q_3 := Lib.hid (Q_2.out.below bl)
      clear bl B_2 K_2 Q_2
      obtain ⟨pK0, pK1, pK2, pK3⟩ := tb K_3.out
      obtain ⟨pQ0, pQ1, pQ2, pQ3⟩ := tb Q_3.out
      obtain ⟨fq0, fq1, fq2⟩ := tbf Q_3.out
      go_wp2_with fail
      clear pK0 pK1 pK2 pK3 pQ0 pQ1 pQ2 pQ3 fq0 fq1 fq2
      refine (c_copyOf _ _ _ zr _ (by have := HF.out.kept B_3.out; simpa [add_plain] using this) (by omega)).mono ?_
      rintro e w4 ⟨b, cc, rfl, hf, bl⟩
      have HW := Lib.hid (hf.base B_3.out.size)
      clear hf
      have B_4 := Lib.hid (Below.next B_3.out bl)
      have K_4 := Lib.hid (K_3.out.below bl)
      have Q_4 := Lib.hid (Q_3.out.below bl)
      clear bl B_3 K_3 Q_3
      obtain ⟨pK0, pK1, pK2, pK3⟩ := tb K_4.out
      obtain ⟨pQ0, pQ1, pQ2, pQ3⟩ := tb Q_4.out
      obtain ⟨fq0, fq1, fq2⟩ := tbf Q_4.out
      go_wp2_with fail
      exact bodyPost_ret (v := .tuple #[.agg #[.int .i64 M, .int .i64 C, .slice b zr.length cc], .bool true]) (by simp [results, Try.results32, go_sem, pQ0, pQ1, pQ2]) rfl ⟨b, cc, zr, rfl, HW.out.off (store3 Q_4.out).2 Q_4.out (by decide), rfl, ((B_4.out.setCell (by simp) _).setCell (by simp) _).setCell (by simp) _⟩
end Go.Proofs.Ytijjmljdkpdigaa
