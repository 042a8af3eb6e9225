/-
  What ReluTensor returns, as the model and as the program make it. Conditions: the numbers can be read.
-/
import Derived.Test.YtijjmljdkpdigabTRelu
import Derived.Test.YtijjmljdkpdigabLike
namespace Go.Proofs.Ytijjmljdkpdigab
open Go.RowKit Go.Deep Go.WideShapes Go.ChangeShapes

/-- the first k of n numbers are made, in a row of the call's own -/
def partR (ys : List Nat) (n : Nat) : List Value := ys.map (Value.float .f32) ++ List.replicate (n - ys.length) (Value.float .f32 0)
theorem partR_set (ys : List Nat) (n v : Nat) (h : ys.length < n) : (partR ys n).set ys.length (.float .f32 v) = partR (ys ++ [v]) n := by
  unfold partR
  rw [List.set_append_right _ _ (by simp), List.length_map, Nat.sub_self]
  obtain ⟨m, hm⟩ : ∃ m, n - ys.length = m + 1 := ⟨n - ys.length - 1, by omega⟩
  rw [hm, List.replicate_succ, List.set_cons_zero, show n - (ys ++ [v]).length = m by simp; omega]
  simp
def ReluRel (R C : Int) (a : Option Addr) (cap : Nat) (f : Nat → Nat) (n gd : Nat) (w : World) (i : Value) (wr : World) : Prop :=
  ∃ (k : Nat) (ys : List Nat), k ≤ n ∧ i = .int .i64 k ∧ ys.length = k ∧ wr.ownsRow w.heap.size 41 1 (.slice (some ⟨gd, 0, none⟩) n n) n (partR ys n) ∧ (∀ y ∈ ys, y < 2 ^ 32) ∧ ys.map (canon .f32) = (List.range k).map f ∧ Below w.heap.size w wr ∧
    Blk wr w.heap.size 26 #[.int .i64 R, .int .i64 C, .slice a n cap] ∧ Blk wr (w.heap.size + 1) 26 #[.int .i64 0, .int .i64 0, .slice none 0 0]
theorem relu_step {R C : Int} {a : Option Addr} {cap : Nat} {f : Nat → Nat} {n k v gd : Nat} {w wr w' : World} {ys : List Nat} (hgd : w.heap.size + 1 < gd) (hy : ys.length = k) (hk : k < n) (ho : wr.ownsRow w.heap.size 41 1 (.slice (some ⟨gd, 0, none⟩) n n) n (partR ys n)) (ht : ∀ y ∈ ys, y < 2 ^ 32)
    (he : ys.map (canon .f32) = (List.range k).map f) (hl : Below w.heap.size w wr) (k1 : Blk wr w.heap.size 26 #[.int .i64 R, .int .i64 C, .slice a n cap]) (k2 : Blk wr (w.heap.size + 1) 26 #[.int .i64 0, .int .i64 0, .slice none 0 0])
    (hv : v < 2 ^ 32) (hc : canon .f32 v = f k) (hw : w' = wr.setCell ⟨gd, k, none⟩ (.float .f32 v)) :
    ReluRel R C a cap f n gd w (.int .i64 ((k : Int) + 1)) w' := by
  subst hw
  obtain ⟨o1, o2⟩ := ho.stored k (.float .f32 v)
  have o1' := o1
  rw [← hy, partR_set ys n v (by omega)] at o1'
  refine ⟨k + 1, ys ++ [v], by omega, by go_num, by simp [hy], by rw [← hy]; exact o1', ?_, ?_, hl.setCell (by simp; omega) _, k1.off o2 (by omega), k2.off o2 (by omega)⟩
  · intro y h
    rcases List.mem_append.1 h with h | h
    · exact ht y h
    · simp at h; subst h; exact hv
  · rw [List.map_append, he, List.range_succ, List.map_append]
    simp [hc]
theorem relu_end {R C : Int} {f : Nat → Nat} {n gd : Nat} {w wr : World} {ys : List Nat} (hy : ys.length = n) (ho : wr.ownsRow w.heap.size 41 1 (.slice (some ⟨gd, 0, none⟩) n n) n (partR ys n)) (ht : ∀ y ∈ ys, y < 2 ^ 32)
    (he : ys.map (canon .f32) = (List.range n).map f) (hl : Below w.heap.size w wr) (k2 : Blk wr (w.heap.size + 1) 26 #[.int .i64 0, .int .i64 0, .slice none 0 0]) :
    RetT R C true ((List.range n).map f) w (.returned (.tuple #[.agg #[.int .i64 R, .int .i64 C, .slice (some ⟨gd, 0, none⟩) n n], .bool true])) (((wr.setCell ⟨w.heap.size + 1, 0, none⟩ (.int .i64 R)).setCell ⟨w.heap.size + 1, 1, none⟩ (.int .i64 C)).setCell ⟨w.heap.size + 1, 2, none⟩ (.slice (some ⟨gd, 0, none⟩) n n)) := by
  subst hy
  have e : partR ys ys.length = ys.map (Value.float .f32) := by simp [partR]
  rw [e] at ho
  exact ⟨_, _, ys, rfl, OwnF.off ⟨ho, ht⟩ (store3 k2).2 k2 (by decide), he, ((hl.setCell (by simp) _).setCell (by simp) _).setCell (by simp) _⟩
def vReluTensor (r c : Int) (z : List Nat) : Int × Int × Bool × List Nat := if vokB r c z.length = true then (r, c, true, (List.range z.length).map fun i => crelu (z.getD i 0)) else (0, 0, false, [])
theorem vok256 {r c : Int} {n : Nat} (h : vokB r c n = true) : n ≤ 256 ∧ 1 ≤ n := by
  obtain ⟨⟨e1, e2⟩, ⟨e3, e4⟩, e5⟩ := (vokB_iff _ _ _).1 h
  have := mul_small e1 e2 e3 e4
  omega
theorem vReluTensor_len (r c : Int) (z : List Nat) : (vReluTensor r c z).2.2.2.length ≤ 1048576 := by
  unfold vReluTensor
  split
  · rename_i h
    have := (vok256 h).1
    simp; omega
  · simp
set_option maxHeartbeats 2000000 in
theorem t_sReluTensor (r c : Int) (z : List Nat) (a0 : Option Addr) (w : World) (h0 : IsFloats .f32 w a0 z.length z.length z) :
    Calls Try.prog 16 #[.agg #[.int .i64 r, .int .i64 c, .slice a0 z.length z.length]] w (RetT (vReluTensor r c z).1 (vReluTensor r c z).2.1 (vReluTensor r c z).2.2.1 (vReluTensor r c z).2.2.2 w) := by
  have hn : z.length ≤ 9223372036854775807 := by have := h0.2.1; unfold maxLen at this; exact this
  have HI := Lib.hid h0
  clear h0
  cases hv : vokB r c z.length with
  | false =>
    have HV := Lib.hid hv
    have HX := Lib.hid (show vReluTensor r c z = (0, 0, false, []) by unfold vReluTensor; rw [if_neg (by rw [hv]; decide)])
    clear hv
    rw [HX.out]
    go_enter Try.func16, Try.ntmps16
    go_wp2_with fail
    have B_0 := Lib.hid (Below.refl w.heap.size w)
    have bl := (Below.refl (w).heap.size (w)).alloc (Nat.le_refl _) (.cells #[.int .i64 r, .int .i64 c, .slice a0 z.length z.length] 26)
    have hn := Blk.new (w) 26 #[.int .i64 r, .int .i64 c, .slice a0 z.length z.length]
    have B_1 := Lib.hid (Below.next B_0.out bl)
    clear bl B_0
    have K_1 := Lib.hid hn
    clear hn
    have bl := (Below.refl ((w).alloc (.cells #[.int .i64 r, .int .i64 c, .slice a0 z.length z.length] 26)).heap.size ((w).alloc (.cells #[.int .i64 r, .int .i64 c, .slice a0 z.length z.length] 26))).alloc (Nat.le_refl _) (.cells #[.int .i64 0, .int .i64 0, .slice none 0 0] 26)
    have hn := Blk.new ((w).alloc (.cells #[.int .i64 r, .int .i64 c, .slice a0 z.length z.length] 26)) 26 #[.int .i64 0, .int .i64 0, .slice none 0 0]
    simp only [World.size_alloc] at hn
    have B_2 := Lib.hid (Below.next B_1.out bl)
    have K_2 := Lib.hid (K_1.out.below bl)
    clear bl B_1 K_1
    have Q_2 := Lib.hid hn
    clear hn
    generalize ((w).alloc (.cells #[.int .i64 r, .int .i64 c, .slice a0 z.length z.length] 26)).alloc (.cells #[.int .i64 0, .int .i64 0, .slice none 0 0] 26) = w2 at B_2 K_2 Q_2 ⊢
    obtain ⟨pK0, pK1, pK2, pK3⟩ := tb K_2.out
    obtain ⟨pQ0, pQ1, pQ2, pQ3⟩ := tb Q_2.out
    obtain ⟨fq0, fq1, fq2⟩ := tbf Q_2.out
    refine (c_l02Is w.heap.size 0 r c a0 z.length z.length false HV.out hn _ pK0 pK1 pK2).mono ?_
    rintro e w3 ⟨rfl, dn⟩
    have bl := dn.below
    clear dn
    have B_3 := Lib.hid (Below.next B_2.out bl)
    have K_3 := Lib.hid (K_2.out.below bl)
    have Q_3 := Lib.hid (Q_2.out.below bl)
    clear bl B_2 K_2 Q_2
    clear pK0 pK1 pK2 pK3 pQ0 pQ1 pQ2 pQ3 fq0 fq1 fq2
    obtain ⟨pK0, pK1, pK2, pK3⟩ := tb K_3.out
    obtain ⟨pQ0, pQ1, pQ2, pQ3⟩ := tb Q_3.out
    obtain ⟨fq0, fq1, fq2⟩ := tbf Q_3.out
    go_wp2_with fail
    exact bodyPost_ret (v := .tuple #[.agg #[.int .i64 0, .int .i64 0, .slice none 0 0], .bool false]) (by simp [results, Try.results16, go_sem, pQ0, pQ1, pQ2]) rfl ⟨none, 0, [], rfl, nil_own _ _, rfl, ((B_3.out.setCell (by simp) _).setCell (by simp) _).setCell (by simp) _⟩
  | true =>
    have HV := Lib.hid hv
    have HX := Lib.hid (show vReluTensor r c z = (r, c, true, (List.range z.length).map fun i => crelu (z.getD i 0)) by unfold vReluTensor; rw [if_pos hv])
    have h256 := (vok256 hv).1
    clear hv
    rw [HX.out]
    go_enter Try.func16, Try.ntmps16
    go_wp2_with fail
    have B_0 := Lib.hid (Below.refl w.heap.size w)
    have bl := (Below.refl (w).heap.size (w)).alloc (Nat.le_refl _) (.cells #[.int .i64 r, .int .i64 c, .slice a0 z.length z.length] 26)
    have hn := Blk.new (w) 26 #[.int .i64 r, .int .i64 c, .slice a0 z.length z.length]
    have B_1 := Lib.hid (Below.next B_0.out bl)
    clear bl B_0
    have K_1 := Lib.hid hn
    clear hn
    have bl := (Below.refl ((w).alloc (.cells #[.int .i64 r, .int .i64 c, .slice a0 z.length z.length] 26)).heap.size ((w).alloc (.cells #[.int .i64 r, .int .i64 c, .slice a0 z.length z.length] 26))).alloc (Nat.le_refl _) (.cells #[.int .i64 0, .int .i64 0, .slice none 0 0] 26)
    have hn := Blk.new ((w).alloc (.cells #[.int .i64 r, .int .i64 c, .slice a0 z.length z.length] 26)) 26 #[.int .i64 0, .int .i64 0, .slice none 0 0]
    simp only [World.size_alloc] at hn
    have B_2 := Lib.hid (Below.next B_1.out bl)
    have K_2 := Lib.hid (K_1.out.below bl)
    clear bl B_1 K_1
    have Q_2 := Lib.hid hn
    clear hn
    generalize ((w).alloc (.cells #[.int .i64 r, .int .i64 c, .slice a0 z.length z.length] 26)).alloc (.cells #[.int .i64 0, .int .i64 0, .slice none 0 0] 26) = w2 at B_2 K_2 Q_2 ⊢
    obtain ⟨pK0, pK1, pK2, pK3⟩ := tb K_2.out
    obtain ⟨pQ0, pQ1, pQ2, pQ3⟩ := tb Q_2.out
    obtain ⟨fq0, fq1, fq2⟩ := tbf Q_2.out
    refine (c_l02Is w.heap.size 0 r c a0 z.length z.length true HV.out hn _ pK0 pK1 pK2).mono ?_
    rintro e w3 ⟨rfl, dn⟩
    have bl := dn.below
    clear dn
    have B_3 := Lib.hid (Below.next B_2.out bl)
    have K_3 := Lib.hid (K_2.out.below bl)
    have Q_3 := Lib.hid (Q_2.out.below bl)
    clear bl B_2 K_2 Q_2
    clear pK0 pK1 pK2 pK3 pQ0 pQ1 pQ2 pQ3 fq0 fq1 fq2
    obtain ⟨pK0, pK1, pK2, pK3⟩ := tb K_3.out
    obtain ⟨pQ0, pQ1, pQ2, pQ3⟩ := tb Q_3.out
    obtain ⟨fq0, fq1, fq2⟩ := tbf Q_3.out
    go_wp2_with fail
    clear pK0 pK1 pK2 pK3 pQ0 pQ1 pQ2 pQ3 fq0 fq1 fq2
    obtain ⟨pK0, pK1, pK2, pK3⟩ := tb K_3.out
    obtain ⟨pQ0, pQ1, pQ2, pQ3⟩ := tb Q_3.out
    obtain ⟨fq0, fq1, fq2⟩ := tbf Q_3.out
    refine (c_l02Relu w.heap.size r c a0 z.length z.length z _ (HI.out.kept B_3.out) h256 pK0 pK1 pK2).mono ?_
    rintro e w4 ⟨b, cc, ys, rfl, hf, hy, bl⟩
    have HW := Lib.hid (hf.base B_3.out.size)
    have HYS := Lib.hid hy
    clear hf hy
    have B_4 := Lib.hid (Below.next B_3.out bl)
    have K_4 := Lib.hid (K_3.out.below bl)
    have Q_4 := Lib.hid (Q_3.out.below bl)
    clear bl B_3 K_3 Q_3
    clear pK0 pK1 pK2 pK3 pQ0 pQ1 pQ2 pQ3 fq0 fq1 fq2
    obtain ⟨pK0, pK1, pK2, pK3⟩ := tb K_4.out
    obtain ⟨pQ0, pQ1, pQ2, pQ3⟩ := tb Q_4.out
    obtain ⟨fq0, fq1, fq2⟩ := tbf Q_4.out
    go_wp2_with fail
    exact bodyPost_ret (v := .tuple #[.agg #[.int .i64 r, .int .i64 c, .slice b ys.length cc], .bool true]) (by simp [results, Try.results16, go_sem, pQ0, pQ1, pQ2]) rfl ⟨b, cc, ys, rfl, HW.out.off (store3 Q_4.out).2 Q_4.out (by decide), HYS.out, ((B_4.out.setCell (by simp) _).setCell (by simp) _).setCell (by simp) _⟩
set_option maxHeartbeats 2000000 in
theorem t_iReluTensor (r c : Int) (z : List Nat) (a0 : Option Addr) (w : World) (h0 : IsFloats .f32 w a0 z.length z.length z) :
    Calls Try.prog 18 #[.agg #[.int .i64 r, .int .i64 c, .slice a0 z.length z.length]] w (RetT (vReluTensor r c z).1 (vReluTensor r c z).2.1 (vReluTensor r c z).2.2.1 (vReluTensor r c z).2.2.2 w) := by
  have hn : z.length ≤ 9223372036854775807 := by have := h0.2.1; unfold maxLen at this; exact this
  have HI := Lib.hid h0
  clear h0
  cases hv : vokB r c z.length with
  | false =>
    have HV := Lib.hid hv
    have HX := Lib.hid (show vReluTensor r c z = (0, 0, false, []) by unfold vReluTensor; rw [if_neg (by rw [hv]; decide)])
    clear hv
    rw [HX.out]
    go_enter Try.func18, Try.ntmps18
    go_wp2_with fail
    have B_0 := Lib.hid (Below.refl w.heap.size w)
    have bl := (Below.refl (w).heap.size (w)).alloc (Nat.le_refl _) (.cells #[.int .i64 r, .int .i64 c, .slice a0 z.length z.length] 26)
    have hn := Blk.new (w) 26 #[.int .i64 r, .int .i64 c, .slice a0 z.length z.length]
    have B_1 := Lib.hid (Below.next B_0.out bl)
    clear bl B_0
    have K_1 := Lib.hid hn
    clear hn
    have bl := (Below.refl ((w).alloc (.cells #[.int .i64 r, .int .i64 c, .slice a0 z.length z.length] 26)).heap.size ((w).alloc (.cells #[.int .i64 r, .int .i64 c, .slice a0 z.length z.length] 26))).alloc (Nat.le_refl _) (.cells #[.int .i64 0, .int .i64 0, .slice none 0 0] 26)
    have hn := Blk.new ((w).alloc (.cells #[.int .i64 r, .int .i64 c, .slice a0 z.length z.length] 26)) 26 #[.int .i64 0, .int .i64 0, .slice none 0 0]
    simp only [World.size_alloc] at hn
    have B_2 := Lib.hid (Below.next B_1.out bl)
    have K_2 := Lib.hid (K_1.out.below bl)
    clear bl B_1 K_1
    have Q_2 := Lib.hid hn
    clear hn
    generalize ((w).alloc (.cells #[.int .i64 r, .int .i64 c, .slice a0 z.length z.length] 26)).alloc (.cells #[.int .i64 0, .int .i64 0, .slice none 0 0] 26) = w2 at B_2 K_2 Q_2 ⊢
    refine (c_iValid r c _ _ _ false HV.out _).mono ?_
    rintro e w3 ⟨rfl, bl⟩
    have B_3 := Lib.hid (Below.next B_2.out bl)
    have K_3 := Lib.hid (K_2.out.below bl)
    have Q_3 := Lib.hid (Q_2.out.below bl)
    clear bl B_2 K_2 Q_2
    obtain ⟨pK0, pK1, pK2, pK3⟩ := tb K_3.out
    obtain ⟨pQ0, pQ1, pQ2, pQ3⟩ := tb Q_3.out
    obtain ⟨fq0, fq1, fq2⟩ := tbf Q_3.out
    go_wp2_with fail
    exact bodyPost_ret (v := .tuple #[.agg #[.int .i64 0, .int .i64 0, .slice none 0 0], .bool false]) (by simp [results, Try.results18, go_sem, pQ0, pQ1, pQ2]) rfl ⟨none, 0, [], rfl, nil_own _ _, rfl, ((B_3.out.setCell (by simp) _).setCell (by simp) _).setCell (by simp) _⟩
  | true =>
    have HV := Lib.hid hv
    have HX := Lib.hid (show vReluTensor r c z = (r, c, true, (List.range z.length).map fun i => crelu (z.getD i 0)) by unfold vReluTensor; rw [if_pos hv])
    have h256 := (vok256 hv).1
    obtain ⟨i0, hi, hz0, hz1, hz2⟩ := info_parts info_f32
    have JI := Lib.hid hi
    have HZ0 := Lib.hid hz0
    have HZ1 := Lib.hid hz1
    have HZ2 := Lib.hid hz2
    clear hi hz0 hz1 hz2
    clear hv
    rw [HX.out]
    go_enter Try.func18, Try.ntmps18
    go_wp2_with fail
    have B_0 := Lib.hid (Below.refl w.heap.size w)
    have bl := (Below.refl (w).heap.size (w)).alloc (Nat.le_refl _) (.cells #[.int .i64 r, .int .i64 c, .slice a0 z.length z.length] 26)
    have hn := Blk.new (w) 26 #[.int .i64 r, .int .i64 c, .slice a0 z.length z.length]
    have B_1 := Lib.hid (Below.next B_0.out bl)
    clear bl B_0
    have K_1 := Lib.hid hn
    clear hn
    have bl := (Below.refl ((w).alloc (.cells #[.int .i64 r, .int .i64 c, .slice a0 z.length z.length] 26)).heap.size ((w).alloc (.cells #[.int .i64 r, .int .i64 c, .slice a0 z.length z.length] 26))).alloc (Nat.le_refl _) (.cells #[.int .i64 0, .int .i64 0, .slice none 0 0] 26)
    have hn := Blk.new ((w).alloc (.cells #[.int .i64 r, .int .i64 c, .slice a0 z.length z.length] 26)) 26 #[.int .i64 0, .int .i64 0, .slice none 0 0]
    simp only [World.size_alloc] at hn
    have B_2 := Lib.hid (Below.next B_1.out bl)
    have K_2 := Lib.hid (K_1.out.below bl)
    clear bl B_1 K_1
    have Q_2 := Lib.hid hn
    clear hn
    generalize ((w).alloc (.cells #[.int .i64 r, .int .i64 c, .slice a0 z.length z.length] 26)).alloc (.cells #[.int .i64 0, .int .i64 0, .slice none 0 0] 26) = w2 at B_2 K_2 Q_2 ⊢
    refine (c_iValid r c _ _ _ true HV.out _).mono ?_
    rintro e w3 ⟨rfl, bl⟩
    have B_3 := Lib.hid (Below.next B_2.out bl)
    have K_3 := Lib.hid (K_2.out.below bl)
    have Q_3 := Lib.hid (Q_2.out.below bl)
    clear bl B_2 K_2 Q_2
    obtain ⟨pK0, pK1, pK2, pK3⟩ := tb K_3.out
    obtain ⟨pQ0, pQ1, pQ2, pQ3⟩ := tb Q_3.out
    obtain ⟨fq0, fq1, fq2⟩ := tbf Q_3.out
    go_wp2_with (at_make; refine wpList_make_full _ rfl _ _ 22 rfl w.heap.size 41 i0 (.float .f32 0) 1 Try.underlying22 JI.out HZ0.out HZ1.out _ _ _ _ z.length rfl rfl rfl rfl ?c1 ?c2 ?c3 ?_)
    case c1 => rw [HZ2.out]; omega
    case c2 => unfold maxLen; omega
    case c3 => exact B_3.out.size
    clear pK0 pK1 pK2 pK3 pQ0 pQ1 pQ2 pQ3 fq0 fq1 fq2
    intro wm hown hgrow
    rw [toList_madeCells_one] at hown
    have k1 : Blk wm w.heap.size 26 #[.int .i64 r, .int .i64 c, .slice a0 z.length z.length] := (hgrow.block _ K_3.out.lt (by simp)).trans K_3.out
    have k2 : Blk wm (w.heap.size + 1) 26 #[.int .i64 0, .int .i64 0, .slice none 0 0] := (hgrow.block _ Q_3.out.lt (by simp)).trans Q_3.out
    have hb1 := B_3.out.grown hgrow B_3.out.size (fun k h => by cases h)
    have hgd : w.heap.size + 1 < w3.heap.size := Q_3.out.lt
    have K1 := Lib.hid k1
    have K2 := Lib.hid k2
    have HO := Lib.hid hown
    have HB := Lib.hid hb1
    obtain ⟨p0, p1, p2, p3⟩ := tb k1
    clear hown hgrow hb1 k1 k2 B_3 K_3 Q_3
    obtain ⟨gd, hgd'⟩ : ∃ gd, w3.heap.size = gd := ⟨_, rfl⟩
    rw [hgd'] at hgd HO ⊢
    clear hgd'
    go_wp2_with fail
    clear p0 p1 p2 p3
    go_loopw [18] (fun i wr => ReluRel r c a0 z.length (fun i => crelu (z.getD i 0)) z.length gd w i wr) (fun i _ => z.length - (intOf i).toNat)
    case atStart => exact ⟨0, [], Nat.zero_le _, rfl, rfl, by simpa [partR] using HO.out, (fun _ h => by cases h), rfl, HB.out, K1.out, K2.out⟩
    case round =>
      obtain ⟨k, ys, hk, rfl, hy, ho, hlt2, he, hbl, k1, k2⟩ := hrel
      have HY := Lib.hid hy
      have HO' := Lib.hid ho
      have HT := Lib.hid hlt2
      have HE := Lib.hid he
      have HL := Lib.hid hbl
      have K1' := Lib.hid k1
      have K2' := Lib.hid k2
      obtain ⟨p0, p1, p2, p3⟩ := tb k1
      obtain ⟨q0, q1, q2, q3⟩ := tb k2
      obtain ⟨f0, f1, f2⟩ := tbf k2
      have hk0 : (0 : Int) ≤ (k : Int) := by omega
      clear hy ho hlt2 he hbl k1 k2
      by_cases hlt : k < z.length
      · have hlt' : (k : Int) < (z.length : Int) := by omega
        rcases HI.out.2.2.2.2 with h' | ⟨ab, off, rfl, hab, hcell⟩
        · omega
        have hx : wr.cell? ⟨ab, off + k, none⟩ = some (.float .f32 (z.getD k 0)) := (HL.out.cell (p := ⟨ab, off + k, none⟩) hab).trans (hcell k hlt)
        have hxl : z.getD k 0 < 4294967296 := HI.out.2.2.2.1 _ (by simp [List.getD, hlt])
        obtain ⟨y, hz⟩ : ∃ y, z.getD k 0 = y := ⟨_, rfl⟩
        rw [hz] at hx hxl
        have HZ := Lib.hid hz
        have HXL := Lib.hid hxl
        have hfz : wr.frozen? ⟨gd, k, none⟩ = false := HO'.out.frozenAt k
        obtain ⟨v0, hv0⟩ : ∃ v, wr.cell? ⟨gd, k, none⟩ = some v := by
          rw [HO'.out.cellAt k (by omega)]
          exact ⟨_, List.getElem?_eq_getElem (by rw [HO'.out.1]; omega)⟩
        clear hcell hz hxl
        go_wp2_with fail
        refine (c_relu y HXL.out _).mono ?_
        rintro e w' ⟨⟨v, rfl, hvc, hvl⟩, rfl⟩
        have HVC := Lib.hid hvc
        have HVL := Lib.hid hvl
        clear hvc hvl
        go_wp2_with fail
        go_roundw
        case rel => exact relu_step hgd HY.out hlt HO'.out HT.out HE.out HL.out K1'.out K2'.out HVL.out (by rw [HVC.out, ← HZ.out]) rfl
        case measure => simp [intOf]; omega
      · have hkn : k = z.length := by omega
        have HKN := Lib.hid hkn
        clear hkn
        go_wp2_with fail
        exact bodyPost_ret (v := .tuple #[.agg #[.int .i64 r, .int .i64 c, .slice (some ⟨gd, 0, none⟩) z.length z.length], .bool true]) (by simp [results, Try.results18, go_sem, q0, q1, q2]) rfl (relu_end (HY.out.trans HKN.out) HO'.out HT.out (by rw [← HKN.out]; exact HE.out) HL.out K2'.out)
end Go.Proofs.Ytijjmljdkpdigab
