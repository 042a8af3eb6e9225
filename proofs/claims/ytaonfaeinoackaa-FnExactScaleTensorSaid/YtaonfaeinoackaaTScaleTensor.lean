/-
  What ScaleTensor returns, as the model and as the program make it. Conditions: the numbers can be read.
-/
import Derived.Test.YtaonfaeinoackaaLike
import Derived.Test.YtaonfaeinoackaaComb
namespace Go.Proofs.Ytaonfaeinoackaa
open Go.RowKit Go.Deep Go.WideShapes Go.ChangeShapes
set_option linter.unusedVariables false

def vScaleTensor (r c : Int) (z : List Nat) (x : Nat) : Int × Int × Bool × List Nat := if vokB r c z.length = true then (r, c, true, (List.range z.length).map fun i => cop .mul .f32 (canon .f32 (z.getD i 0)) (canon .f32 x)) else (0, 0, false, [])
theorem vScaleTensor_len (r c : Int) (z : List Nat) (x : Nat) : (vScaleTensor r c z x).2.2.2.length ≤ 1048576 := by
  unfold vScaleTensor
  split
  · rename_i h
    obtain ⟨R, C, rfl, rfl, h1, h2, h3, h4, h5⟩ := vok_nat h
    have := (row_facts (A := 0) (n := z.length) (cap := 0) h2 h3 h4 (by omega) h5).2.1
    simp; omega
  · simp
set_option maxHeartbeats 2000000 in
theorem t_sScaleTensor (r c : Int) (z : List Nat) (x : Nat) (a0 : Option Addr) (w : World) (h0 : IsFloats .f32 w a0 z.length z.length z) (hx : x < 4294967296) :
    Calls Try.prog 40 #[.agg #[.int .i64 r, .int .i64 c, .slice a0 z.length z.length], .float .f32 x] w (RetT (vScaleTensor r c z x).1 (vScaleTensor r c z x).2.1 (vScaleTensor r c z x).2.2.1 (vScaleTensor r c z x).2.2.2 w) := by
  have hn : z.length ≤ 9223372036854775807 := by have := h0.2.1; unfold maxLen at this; exact this
  have HI := Lib.hid h0
  clear h0
  cases hv : vokB r c z.length with
  | false =>
    have HV := Lib.hid hv
    have HX := Lib.hid (show vScaleTensor r c z x = (0, 0, false, []) by unfold vScaleTensor; rw [if_neg (by rw [hv]; decide)])
    clear hv
    rw [HX.out]
    go_enter Try.func40, Try.ntmps40
    go_wp2_with fail
    have B_0 := Lib.hid (Below.refl w.heap.size w)
    have bl := (Below.refl (w).heap.size (w)).alloc (Nat.le_refl _) (.cells #[.int .i64 r, .int .i64 c, .slice a0 z.length z.length] 36)
    have hn := Blk.new (w) 36 #[.int .i64 r, .int .i64 c, .slice a0 z.length z.length]
    have B_1 := Lib.hid (Below.next B_0.out bl)
    clear bl B_0
    have K_1 := Lib.hid hn
    clear hn
    have bl := (Below.refl ((w).alloc (.cells #[.int .i64 r, .int .i64 c, .slice a0 z.length z.length] 36)).heap.size ((w).alloc (.cells #[.int .i64 r, .int .i64 c, .slice a0 z.length z.length] 36))).alloc (Nat.le_refl _) (.cells #[.int .i64 0, .int .i64 0, .slice none 0 0] 36)
    have hn := Blk.new ((w).alloc (.cells #[.int .i64 r, .int .i64 c, .slice a0 z.length z.length] 36)) 36 #[.int .i64 0, .int .i64 0, .slice none 0 0]
    simp only [World.size_alloc] at hn
    have B_2 := Lib.hid (Below.next B_1.out bl)
    have K_2 := Lib.hid (K_1.out.below bl)
    clear bl B_1 K_1
    have Q_2 := Lib.hid hn
    clear hn
    generalize ((w).alloc (.cells #[.int .i64 r, .int .i64 c, .slice a0 z.length z.length] 36)).alloc (.cells #[.int .i64 0, .int .i64 0, .slice none 0 0] 36) = w2 at B_2 K_2 Q_2 ⊢
    obtain ⟨pK0, pK1, pK2, pK3⟩ := tb K_2.out
    obtain ⟨pQ0, pQ1, pQ2, pQ3⟩ := tb Q_2.out
    obtain ⟨fq0, fq1, fq2⟩ := tbf Q_2.out
    refine (c_l02Is w.heap.size 0 r c a0 z.length z.length false HV.out hn _ pK0 pK1 pK2).mono ?_
    rintro e w3 ⟨rfl, dn⟩
    have bl := dn.below
    clear dn
    have B_3 := Lib.hid (Below.next B_2.out bl)
    have K_3 := Lib.hid (K_2.out.below bl)
    have Q_3 := Lib.hid (Q_2.out.below bl)
    clear bl B_2 K_2 Q_2
    clear pK0 pK1 pK2 pK3 pQ0 pQ1 pQ2 pQ3 fq0 fq1 fq2
    obtain ⟨pK0, pK1, pK2, pK3⟩ := tb K_3.out
    obtain ⟨pQ0, pQ1, pQ2, pQ3⟩ := tb Q_3.out
    obtain ⟨fq0, fq1, fq2⟩ := tbf Q_3.out
    go_wp2_with fail
    exact bodyPost_ret (v := .tuple #[.agg #[.int .i64 0, .int .i64 0, .slice none 0 0], .bool false]) (by simp [results, Try.results40, go_sem, pQ0, pQ1, pQ2]) rfl ⟨none, 0, [], rfl, nil_own _ _, rfl, ((B_3.out.setCell (by simp) _).setCell (by simp) _).setCell (by simp) _⟩
  | true =>
    have HV := Lib.hid hv
    have HX := Lib.hid (show vScaleTensor r c z x = (r, c, true, (List.range z.length).map fun i => cop .mul .f32 (canon .f32 (z.getD i 0)) (canon .f32 x)) by unfold vScaleTensor; rw [if_pos hv])
    obtain ⟨R, C, hR, hC, h1, h2, h3, h4, h5⟩ := vok_nat hv
    have h256 : z.length ≤ 256 := (row_facts (A := 0) (n := z.length) (cap := 0) h2 h3 h4 (by omega) h5).2.1
    clear hR hC h1 h2 h3 h4 h5
    clear hv
    rw [HX.out]
    go_enter Try.func40, Try.ntmps40
    go_wp2_with fail
    have B_0 := Lib.hid (Below.refl w.heap.size w)
    have bl := (Below.refl (w).heap.size (w)).alloc (Nat.le_refl _) (.cells #[.int .i64 r, .int .i64 c, .slice a0 z.length z.length] 36)
    have hn := Blk.new (w) 36 #[.int .i64 r, .int .i64 c, .slice a0 z.length z.length]
    have B_1 := Lib.hid (Below.next B_0.out bl)
    clear bl B_0
    have K_1 := Lib.hid hn
    clear hn
    have bl := (Below.refl ((w).alloc (.cells #[.int .i64 r, .int .i64 c, .slice a0 z.length z.length] 36)).heap.size ((w).alloc (.cells #[.int .i64 r, .int .i64 c, .slice a0 z.length z.length] 36))).alloc (Nat.le_refl _) (.cells #[.int .i64 0, .int .i64 0, .slice none 0 0] 36)
    have hn := Blk.new ((w).alloc (.cells #[.int .i64 r, .int .i64 c, .slice a0 z.length z.length] 36)) 36 #[.int .i64 0, .int .i64 0, .slice none 0 0]
    simp only [World.size_alloc] at hn
    have B_2 := Lib.hid (Below.next B_1.out bl)
    have K_2 := Lib.hid (K_1.out.below bl)
    clear bl B_1 K_1
    have Q_2 := Lib.hid hn
    clear hn
    generalize ((w).alloc (.cells #[.int .i64 r, .int .i64 c, .slice a0 z.length z.length] 36)).alloc (.cells #[.int .i64 0, .int .i64 0, .slice none 0 0] 36) = w2 at B_2 K_2 Q_2 ⊢
    obtain ⟨pK0, pK1, pK2, pK3⟩ := tb K_2.out
    obtain ⟨pQ0, pQ1, pQ2, pQ3⟩ := tb Q_2.out
    obtain ⟨fq0, fq1, fq2⟩ := tbf Q_2.out
    refine (c_l02Is w.heap.size 0 r c a0 z.length z.length true HV.out hn _ pK0 pK1 pK2).mono ?_
    rintro e w3 ⟨rfl, dn⟩
    have bl := dn.below
    clear dn
    have B_3 := Lib.hid (Below.next B_2.out bl)
    have K_3 := Lib.hid (K_2.out.below bl)
    have Q_3 := Lib.hid (Q_2.out.below bl)
    clear bl B_2 K_2 Q_2
    clear pK0 pK1 pK2 pK3 pQ0 pQ1 pQ2 pQ3 fq0 fq1 fq2
    obtain ⟨pK0, pK1, pK2, pK3⟩ := tb K_3.out
    obtain ⟨pQ0, pQ1, pQ2, pQ3⟩ := tb Q_3.out
    obtain ⟨fq0, fq1, fq2⟩ := tbf Q_3.out
    go_wp2_with fail
    clear pK0 pK1 pK2 pK3 pQ0 pQ1 pQ2 pQ3 fq0 fq1 fq2
    obtain ⟨pK0, pK1, pK2, pK3⟩ := tb K_3.out
    obtain ⟨pQ0, pQ1, pQ2, pQ3⟩ := tb Q_3.out
    obtain ⟨fq0, fq1, fq2⟩ := tbf Q_3.out
    refine (c_l02Scale w.heap.size r c x a0 z.length z.length z _ (HI.out.kept B_3.out) h256 pK0 pK1 pK2).mono ?_
    rintro e w4 ⟨b, cc, ys, rfl, hf, hy, bl⟩
    have HW := Lib.hid (hf.base B_3.out.size)
    have HYS := Lib.hid hy
    clear hf hy
    have B_4 := Lib.hid (Below.next B_3.out bl)
    have K_4 := Lib.hid (K_3.out.below bl)
    have Q_4 := Lib.hid (Q_3.out.below bl)
    clear bl B_3 K_3 Q_3
    clear pK0 pK1 pK2 pK3 pQ0 pQ1 pQ2 pQ3 fq0 fq1 fq2
    obtain ⟨pK0, pK1, pK2, pK3⟩ := tb K_4.out
    obtain ⟨pQ0, pQ1, pQ2, pQ3⟩ := tb Q_4.out
    obtain ⟨fq0, fq1, fq2⟩ := tbf Q_4.out
    go_wp2_with fail
    exact bodyPost_ret (v := .tuple #[.agg #[.int .i64 r, .int .i64 c, .slice b ys.length cc], .bool true]) (by simp [results, Try.results40, go_sem, pQ0, pQ1, pQ2]) rfl ⟨b, cc, ys, rfl, HW.out.off (store3 Q_4.out).2 Q_4.out (by decide), HYS.out, ((B_4.out.setCell (by simp) _).setCell (by simp) _).setCell (by simp) _⟩
set_option maxHeartbeats 2000000 in
theorem t_iScaleTensor (r c : Int) (z : List Nat) (x : Nat) (a0 : Option Addr) (w : World) (h0 : IsFloats .f32 w a0 z.length z.length z) (hx : x < 4294967296) :
    Calls Try.prog 41 #[.agg #[.int .i64 r, .int .i64 c, .slice a0 z.length z.length], .float .f32 x] w (RetT (vScaleTensor r c z x).1 (vScaleTensor r c z x).2.1 (vScaleTensor r c z x).2.2.1 (vScaleTensor r c z x).2.2.2 w) := by
  have hn : z.length ≤ 9223372036854775807 := by have := h0.2.1; unfold maxLen at this; exact this
  have HI := Lib.hid h0
  clear h0
  cases hv : vokB r c z.length with
  | false =>
    have HV := Lib.hid hv
    have HX := Lib.hid (show vScaleTensor r c z x = (0, 0, false, []) by unfold vScaleTensor; rw [if_neg (by rw [hv]; decide)])
    clear hv
    rw [HX.out]
    go_enter Try.func41, Try.ntmps41
    go_wp2_with fail
    have B_0 := Lib.hid (Below.refl w.heap.size w)
    have bl := (Below.refl (w).heap.size (w)).alloc (Nat.le_refl _) (.cells #[.int .i64 r, .int .i64 c, .slice a0 z.length z.length] 36)
    have hn := Blk.new (w) 36 #[.int .i64 r, .int .i64 c, .slice a0 z.length z.length]
    have B_1 := Lib.hid (Below.next B_0.out bl)
    clear bl B_0
    have K_1 := Lib.hid hn
    clear hn
    have bl := (Below.refl ((w).alloc (.cells #[.int .i64 r, .int .i64 c, .slice a0 z.length z.length] 36)).heap.size ((w).alloc (.cells #[.int .i64 r, .int .i64 c, .slice a0 z.length z.length] 36))).alloc (Nat.le_refl _) (.cells #[.int .i64 0, .int .i64 0, .slice none 0 0] 36)
    have hn := Blk.new ((w).alloc (.cells #[.int .i64 r, .int .i64 c, .slice a0 z.length z.length] 36)) 36 #[.int .i64 0, .int .i64 0, .slice none 0 0]
    simp only [World.size_alloc] at hn
    have B_2 := Lib.hid (Below.next B_1.out bl)
    have K_2 := Lib.hid (K_1.out.below bl)
    clear bl B_1 K_1
    have Q_2 := Lib.hid hn
    clear hn
    generalize ((w).alloc (.cells #[.int .i64 r, .int .i64 c, .slice a0 z.length z.length] 36)).alloc (.cells #[.int .i64 0, .int .i64 0, .slice none 0 0] 36) = w2 at B_2 K_2 Q_2 ⊢
    refine (c_iValid r c _ _ _ false HV.out _).mono ?_
    rintro e w3 ⟨rfl, bl⟩
    have B_3 := Lib.hid (Below.next B_2.out bl)
    have K_3 := Lib.hid (K_2.out.below bl)
    have Q_3 := Lib.hid (Q_2.out.below bl)
    clear bl B_2 K_2 Q_2
    obtain ⟨pK0, pK1, pK2, pK3⟩ := tb K_3.out
    obtain ⟨pQ0, pQ1, pQ2, pQ3⟩ := tb Q_3.out
    obtain ⟨fq0, fq1, fq2⟩ := tbf Q_3.out
    go_wp2_with fail
    exact bodyPost_ret (v := .tuple #[.agg #[.int .i64 0, .int .i64 0, .slice none 0 0], .bool false]) (by simp [results, Try.results41, go_sem, pQ0, pQ1, pQ2]) rfl ⟨none, 0, [], rfl, nil_own _ _, rfl, ((B_3.out.setCell (by simp) _).setCell (by simp) _).setCell (by simp) _⟩
  | true =>
    have HV := Lib.hid hv
    have HX := Lib.hid (show vScaleTensor r c z x = (r, c, true, (List.range z.length).map fun i => cop .mul .f32 (canon .f32 (z.getD i 0)) (canon .f32 x)) by unfold vScaleTensor; rw [if_pos hv])
    obtain ⟨R, C, hR, hC, h1, h2, h3, h4, h5⟩ := vok_nat hv
    have h256 : z.length ≤ 256 := (row_facts (A := 0) (n := z.length) (cap := 0) h2 h3 h4 (by omega) h5).2.1
    clear hR hC h1 h2 h3 h4 h5
    clear hv
    rw [HX.out]
    go_enter Try.func41, Try.ntmps41
    go_wp2_with fail
    have B_0 := Lib.hid (Below.refl w.heap.size w)
    have bl := (Below.refl (w).heap.size (w)).alloc (Nat.le_refl _) (.cells #[.int .i64 r, .int .i64 c, .slice a0 z.length z.length] 36)
    have hn := Blk.new (w) 36 #[.int .i64 r, .int .i64 c, .slice a0 z.length z.length]
    have B_1 := Lib.hid (Below.next B_0.out bl)
    clear bl B_0
    have K_1 := Lib.hid hn
    clear hn
    have bl := (Below.refl ((w).alloc (.cells #[.int .i64 r, .int .i64 c, .slice a0 z.length z.length] 36)).heap.size ((w).alloc (.cells #[.int .i64 r, .int .i64 c, .slice a0 z.length z.length] 36))).alloc (Nat.le_refl _) (.cells #[.int .i64 0, .int .i64 0, .slice none 0 0] 36)
    have hn := Blk.new ((w).alloc (.cells #[.int .i64 r, .int .i64 c, .slice a0 z.length z.length] 36)) 36 #[.int .i64 0, .int .i64 0, .slice none 0 0]
    simp only [World.size_alloc] at hn
    have B_2 := Lib.hid (Below.next B_1.out bl)
    have K_2 := Lib.hid (K_1.out.below bl)
    clear bl B_1 K_1
    have Q_2 := Lib.hid hn
    clear hn
    generalize ((w).alloc (.cells #[.int .i64 r, .int .i64 c, .slice a0 z.length z.length] 36)).alloc (.cells #[.int .i64 0, .int .i64 0, .slice none 0 0] 36) = w2 at B_2 K_2 Q_2 ⊢
    refine (c_iValid r c _ _ _ true HV.out _).mono ?_
    rintro e w3 ⟨rfl, bl⟩
    have B_3 := Lib.hid (Below.next B_2.out bl)
    have K_3 := Lib.hid (K_2.out.below bl)
    have Q_3 := Lib.hid (Q_2.out.below bl)
    clear bl B_2 K_2 Q_2
    obtain ⟨pK0, pK1, pK2, pK3⟩ := tb K_3.out
    obtain ⟨pQ0, pQ1, pQ2, pQ3⟩ := tb Q_3.out
    obtain ⟨fq0, fq1, fq2⟩ := tbf Q_3.out
    go_wp2_with fail
    clear pK0 pK1 pK2 pK3 pQ0 pQ1 pQ2 pQ3 fq0 fq1 fq2
    have bl := (Below.refl w3.heap.size w3).alloc (Nat.le_refl _) (.cells #[.float .f32 x] 23)
    have hx1 := one_row w3 x hx
    have B_4 := Lib.hid (Below.next B_3.out bl)
    have K_4 := Lib.hid (K_3.out.below bl)
    have Q_4 := Lib.hid (Q_3.out.below bl)
    clear bl B_3 K_3 Q_3
    generalize w3.alloc (.cells #[.float .f32 x] 23) = w4 at hx1 B_4 K_4 Q_4 ⊢
    refine (c_combineProd r c a0 _ z.length z.length 1 1 z [x] _ (HI.out.kept B_4.out) hx1 h256 (Nat.le_refl _) (by omega)).mono ?_
    rintro e w5 ⟨b, cc, ys, rfl, hf, hy, bl⟩
    have HW := Lib.hid (hf.base B_4.out.size)
    have HYS := Lib.hid hy
    clear hf hy
    have B_5 := Lib.hid (Below.next B_4.out bl)
    have K_5 := Lib.hid (K_4.out.below bl)
    have Q_5 := Lib.hid (Q_4.out.below bl)
    clear bl B_4 K_4 Q_4
    have HYS' := Lib.hid (HYS.out.trans (by simp only [Nat.mod_one]; rfl))
    clear HYS
    have HYS := Lib.hid (show ys.map (canon .f32) = (List.range z.length).map fun i => cop .mul .f32 (canon .f32 (z.getD i 0)) (canon .f32 x) from HYS'.out)
    obtain ⟨pK0, pK1, pK2, pK3⟩ := tb K_5.out
    obtain ⟨pQ0, pQ1, pQ2, pQ3⟩ := tb Q_5.out
    obtain ⟨fq0, fq1, fq2⟩ := tbf Q_5.out
    go_wp2_with fail
    exact bodyPost_ret (v := .tuple #[.agg #[.int .i64 r, .int .i64 c, .slice b ys.length cc], .bool true]) (by simp [results, Try.results41, go_sem, pQ0, pQ1, pQ2]) rfl ⟨b, cc, ys, rfl, HW.out.off (store3 Q_5.out).2 Q_5.out (by decide), HYS.out, ((B_5.out.setCell (by simp) _).setCell (by simp) _).setCell (by simp) _⟩
end Go.Proofs.Ytaonfaeinoackaa
