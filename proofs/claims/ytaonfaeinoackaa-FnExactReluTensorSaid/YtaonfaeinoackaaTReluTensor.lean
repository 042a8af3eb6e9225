/-
  What ReluTensor returns, as the model and as the program make it. Conditions: the numbers can be read.
-/
import Derived.Test.YtaonfaeinoackaaTRelu
import Derived.Test.YtaonfaeinoackaaLike
import Derived.Test.YtaonfaeinoackaaFun
import Derived.Deep.RegionHeld3
namespace Go.Proofs.Ytaonfaeinoackaa
open Go.RowKit Go.Deep Go.WideShapes Go.ChangeShapes

def vReluTensor (r c : Int) (z : List Nat) : Int × Int × Bool × List Nat := if vokB r c z.length = true then (r, c, true, (List.range z.length).map fun i => crelu (z.getD i 0)) else (0, 0, false, [])
theorem vok256 {r c : Int} {n : Nat} (h : vokB r c n = true) : n ≤ 256 ∧ 1 ≤ n := by
  obtain ⟨⟨e1, e2⟩, ⟨e3, e4⟩, e5⟩ := (vokB_iff _ _ _).1 h
  have := mul_small e1 e2 e3 e4
  omega
theorem vReluTensor_len (r c : Int) (z : List Nat) : (vReluTensor r c z).2.2.2.length ≤ 1048576 := by
  unfold vReluTensor
  split
  · rename_i h
    have := (vok256 h).1
    simp; omega
  · simp
set_option maxHeartbeats 2000000 in
theorem t_sReluTensor (r c : Int) (z : List Nat) (a0 : Option Addr) (w : World) (h0 : IsFloats .f32 w a0 z.length z.length z) :
    Calls Try.prog 42 #[.agg #[.int .i64 r, .int .i64 c, .slice a0 z.length z.length]] w (RetT (vReluTensor r c z).1 (vReluTensor r c z).2.1 (vReluTensor r c z).2.2.1 (vReluTensor r c z).2.2.2 w) := by
  have hn : z.length ≤ 9223372036854775807 := by have := h0.2.1; unfold maxLen at this; exact this
  have HI := Lib.hid h0
  clear h0
  cases hv : vokB r c z.length with
  | false =>
    have HV := Lib.hid hv
    have HX := Lib.hid (show vReluTensor r c z = (0, 0, false, []) by unfold vReluTensor; rw [if_neg (by rw [hv]; decide)])
    clear hv
    rw [HX.out]
    go_enter Try.func42, Try.ntmps42
    go_wp2_with fail
    have B_0 := Lib.hid (Below.refl w.heap.size w)
    have bl := (Below.refl (w).heap.size (w)).alloc (Nat.le_refl _) (.cells #[.int .i64 r, .int .i64 c, .slice a0 z.length z.length] 36)
    have hn := Blk.new (w) 36 #[.int .i64 r, .int .i64 c, .slice a0 z.length z.length]
    have B_1 := Lib.hid (Below.next B_0.out bl)
    clear bl B_0
    have K_1 := Lib.hid hn
    clear hn
    have bl := (Below.refl ((w).alloc (.cells #[.int .i64 r, .int .i64 c, .slice a0 z.length z.length] 36)).heap.size ((w).alloc (.cells #[.int .i64 r, .int .i64 c, .slice a0 z.length z.length] 36))).alloc (Nat.le_refl _) (.cells #[.int .i64 0, .int .i64 0, .slice none 0 0] 36)
    have hn := Blk.new ((w).alloc (.cells #[.int .i64 r, .int .i64 c, .slice a0 z.length z.length] 36)) 36 #[.int .i64 0, .int .i64 0, .slice none 0 0]
    simp only [World.size_alloc] at hn
    have B_2 := Lib.hid (Below.next B_1.out bl)
    have K_2 := Lib.hid (K_1.out.below bl)
    clear bl B_1 K_1
    have Q_2 := Lib.hid hn
    clear hn
    generalize ((w).alloc (.cells #[.int .i64 r, .int .i64 c, .slice a0 z.length z.length] 36)).alloc (.cells #[.int .i64 0, .int .i64 0, .slice none 0 0] 36) = w2 at B_2 K_2 Q_2 ⊢
    obtain ⟨pK0, pK1, pK2, pK3⟩ := tb K_2.out
    obtain ⟨pQ0, pQ1, pQ2, pQ3⟩ := tb Q_2.out
    obtain ⟨fq0, fq1, fq2⟩ := tbf Q_2.out
    refine (c_l02Is w.heap.size 0 r c a0 z.length z.length false HV.out hn _ pK0 pK1 pK2).mono ?_
    rintro e w3 ⟨rfl, dn⟩
    have bl := dn.below
    clear dn
    have B_3 := Lib.hid (Below.next B_2.out bl)
    have K_3 := Lib.hid (K_2.out.below bl)
    have Q_3 := Lib.hid (Q_2.out.below bl)
    clear bl B_2 K_2 Q_2
    clear pK0 pK1 pK2 pK3 pQ0 pQ1 pQ2 pQ3 fq0 fq1 fq2
    obtain ⟨pK0, pK1, pK2, pK3⟩ := tb K_3.out
    obtain ⟨pQ0, pQ1, pQ2, pQ3⟩ := tb Q_3.out
    obtain ⟨fq0, fq1, fq2⟩ := tbf Q_3.out
    go_wp2_with fail
    exact bodyPost_ret (v := .tuple #[.agg #[.int .i64 0, .int .i64 0, .slice none 0 0], .bool false]) (by simp [results, Try.results42, go_sem, pQ0, pQ1, pQ2]) rfl ⟨none, 0, [], rfl, nil_own _ _, rfl, ((B_3.out.setCell (by simp) _).setCell (by simp) _).setCell (by simp) _⟩
  | true =>
    have HV := Lib.hid hv
    have HX := Lib.hid (show vReluTensor r c z = (r, c, true, (List.range z.length).map fun i => crelu (z.getD i 0)) by unfold vReluTensor; rw [if_pos hv])
    have h256 := (vok256 hv).1
    clear hv
    rw [HX.out]
    go_enter Try.func42, Try.ntmps42
    go_wp2_with fail
    have B_0 := Lib.hid (Below.refl w.heap.size w)
    have bl := (Below.refl (w).heap.size (w)).alloc (Nat.le_refl _) (.cells #[.int .i64 r, .int .i64 c, .slice a0 z.length z.length] 36)
    have hn := Blk.new (w) 36 #[.int .i64 r, .int .i64 c, .slice a0 z.length z.length]
    have B_1 := Lib.hid (Below.next B_0.out bl)
    clear bl B_0
    have K_1 := Lib.hid hn
    clear hn
    have bl := (Below.refl ((w).alloc (.cells #[.int .i64 r, .int .i64 c, .slice a0 z.length z.length] 36)).heap.size ((w).alloc (.cells #[.int .i64 r, .int .i64 c, .slice a0 z.length z.length] 36))).alloc (Nat.le_refl _) (.cells #[.int .i64 0, .int .i64 0, .slice none 0 0] 36)
    have hn := Blk.new ((w).alloc (.cells #[.int .i64 r, .int .i64 c, .slice a0 z.length z.length] 36)) 36 #[.int .i64 0, .int .i64 0, .slice none 0 0]
    simp only [World.size_alloc] at hn
    have B_2 := Lib.hid (Below.next B_1.out bl)
    have K_2 := Lib.hid (K_1.out.below bl)
    clear bl B_1 K_1
    have Q_2 := Lib.hid hn
    clear hn
    generalize ((w).alloc (.cells #[.int .i64 r, .int .i64 c, .slice a0 z.length z.length] 36)).alloc (.cells #[.int .i64 0, .int .i64 0, .slice none 0 0] 36) = w2 at B_2 K_2 Q_2 ⊢
    obtain ⟨pK0, pK1, pK2, pK3⟩ := tb K_2.out
    obtain ⟨pQ0, pQ1, pQ2, pQ3⟩ := tb Q_2.out
    obtain ⟨fq0, fq1, fq2⟩ := tbf Q_2.out
    refine (c_l02Is w.heap.size 0 r c a0 z.length z.length true HV.out hn _ pK0 pK1 pK2).mono ?_
    rintro e w3 ⟨rfl, dn⟩
    have bl := dn.below
    clear dn
    have B_3 := Lib.hid (Below.next B_2.out bl)
    have K_3 := Lib.hid (K_2.out.below bl)
    have Q_3 := Lib.hid (Q_2.out.below bl)
    clear bl B_2 K_2 Q_2
    clear pK0 pK1 pK2 pK3 pQ0 pQ1 pQ2 pQ3 fq0 fq1 fq2
    obtain ⟨pK0, pK1, pK2, pK3⟩ := tb K_3.out
    obtain ⟨pQ0, pQ1, pQ2, pQ3⟩ := tb Q_3.out
    obtain ⟨fq0, fq1, fq2⟩ := tbf Q_3.out
    go_wp2_with fail
    clear pK0 pK1 pK2 pK3 pQ0 pQ1 pQ2 pQ3 fq0 fq1 fq2
    obtain ⟨pK0, pK1, pK2, pK3⟩ := tb K_3.out
    obtain ⟨pQ0, pQ1, pQ2, pQ3⟩ := tb Q_3.out
    obtain ⟨fq0, fq1, fq2⟩ := tbf Q_3.out
    refine (c_l02Relu w.heap.size r c a0 z.length z.length z _ (HI.out.kept B_3.out) h256 pK0 pK1 pK2).mono ?_
    rintro e w4 ⟨b, cc, ys, rfl, hf, hy, bl⟩
    have HW := Lib.hid (hf.base B_3.out.size)
    have HYS := Lib.hid hy
    clear hf hy
    have B_4 := Lib.hid (Below.next B_3.out bl)
    have K_4 := Lib.hid (K_3.out.below bl)
    have Q_4 := Lib.hid (Q_3.out.below bl)
    clear bl B_3 K_3 Q_3
    clear pK0 pK1 pK2 pK3 pQ0 pQ1 pQ2 pQ3 fq0 fq1 fq2
    obtain ⟨pK0, pK1, pK2, pK3⟩ := tb K_4.out
    obtain ⟨pQ0, pQ1, pQ2, pQ3⟩ := tb Q_4.out
    obtain ⟨fq0, fq1, fq2⟩ := tbf Q_4.out
    go_wp2_with fail
    exact bodyPost_ret (v := .tuple #[.agg #[.int .i64 r, .int .i64 c, .slice b ys.length cc], .bool true]) (by simp [results, Try.results42, go_sem, pQ0, pQ1, pQ2]) rfl ⟨b, cc, ys, rfl, HW.out.off (store3 Q_4.out).2 Q_4.out (by decide), HYS.out, ((B_4.out.setCell (by simp) _).setCell (by simp) _).setCell (by simp) _⟩
theorem x_relu (x : Nat) (wr : World) (hx : x < 4294967296) : Calls Try.prog 76 (#[.float .f32 x] ++ #[]) wr (RetX (crelu x) wr) :=
  (c_relu x hx wr).mono fun _ _ ⟨⟨v, he, hc, hl⟩, hw⟩ => ⟨v, he, hc, hl, hw⟩
set_option maxHeartbeats 2000000 in
theorem t_iReluTensor (r c : Int) (z : List Nat) (a0 : Option Addr) (w : World) (h0 : IsFloats .f32 w a0 z.length z.length z) :
    Calls Try.prog 43 #[.agg #[.int .i64 r, .int .i64 c, .slice a0 z.length z.length]] w (RetT (vReluTensor r c z).1 (vReluTensor r c z).2.1 (vReluTensor r c z).2.2.1 (vReluTensor r c z).2.2.2 w) := by
  have hn : z.length ≤ 9223372036854775807 := by have := h0.2.1; unfold maxLen at this; exact this
  have HI := Lib.hid h0
  clear h0
  cases hv : vokB r c z.length with
  | false =>
    have HV := Lib.hid hv
    have HX := Lib.hid (show vReluTensor r c z = (0, 0, false, []) by unfold vReluTensor; rw [if_neg (by rw [hv]; decide)])
    clear hv
    rw [HX.out]
    go_enter Try.func43, Try.ntmps43
    go_wp2_with fail
    have B_0 := Lib.hid (Below.refl w.heap.size w)
    have bl := (Below.refl (w).heap.size (w)).alloc (Nat.le_refl _) (.cells #[.int .i64 r, .int .i64 c, .slice a0 z.length z.length] 36)
    have hn := Blk.new (w) 36 #[.int .i64 r, .int .i64 c, .slice a0 z.length z.length]
    have B_1 := Lib.hid (Below.next B_0.out bl)
    clear bl B_0
    have K_1 := Lib.hid hn
    clear hn
    have bl := (Below.refl ((w).alloc (.cells #[.int .i64 r, .int .i64 c, .slice a0 z.length z.length] 36)).heap.size ((w).alloc (.cells #[.int .i64 r, .int .i64 c, .slice a0 z.length z.length] 36))).alloc (Nat.le_refl _) (.cells #[.int .i64 0, .int .i64 0, .slice none 0 0] 36)
    have hn := Blk.new ((w).alloc (.cells #[.int .i64 r, .int .i64 c, .slice a0 z.length z.length] 36)) 36 #[.int .i64 0, .int .i64 0, .slice none 0 0]
    simp only [World.size_alloc] at hn
    have B_2 := Lib.hid (Below.next B_1.out bl)
    have K_2 := Lib.hid (K_1.out.below bl)
    clear bl B_1 K_1
    have Q_2 := Lib.hid hn
    clear hn
    generalize ((w).alloc (.cells #[.int .i64 r, .int .i64 c, .slice a0 z.length z.length] 36)).alloc (.cells #[.int .i64 0, .int .i64 0, .slice none 0 0] 36) = w2 at B_2 K_2 Q_2 ⊢
    refine (c_iValid r c _ _ _ false HV.out _).mono ?_
    rintro e w3 ⟨rfl, bl⟩
    have B_3 := Lib.hid (Below.next B_2.out bl)
    have K_3 := Lib.hid (K_2.out.below bl)
    have Q_3 := Lib.hid (Q_2.out.below bl)
    clear bl B_2 K_2 Q_2
    obtain ⟨pK0, pK1, pK2, pK3⟩ := tb K_3.out
    obtain ⟨pQ0, pQ1, pQ2, pQ3⟩ := tb Q_3.out
    obtain ⟨fq0, fq1, fq2⟩ := tbf Q_3.out
    go_wp2_with fail
    exact bodyPost_ret (v := .tuple #[.agg #[.int .i64 0, .int .i64 0, .slice none 0 0], .bool false]) (by simp [results, Try.results43, go_sem, pQ0, pQ1, pQ2]) rfl ⟨none, 0, [], rfl, nil_own _ _, rfl, ((B_3.out.setCell (by simp) _).setCell (by simp) _).setCell (by simp) _⟩
  | true =>
    have HV := Lib.hid hv
    have HX := Lib.hid (show vReluTensor r c z = (r, c, true, (List.range z.length).map fun i => crelu (z.getD i 0)) by unfold vReluTensor; rw [if_pos hv])
    have h256 := (vok256 hv).1
    clear hv
    rw [HX.out]
    obtain ⟨vals, hvals⟩ : ∃ vals, ((List.range z.length).map fun i => crelu (z.getD i 0)) = vals := ⟨_, rfl⟩
    have HV2 := Lib.hid hvals
    rw [hvals]
    clear hvals
    go_enter Try.func43, Try.ntmps43
    go_wp2_with fail
    have B_0 := Lib.hid (Below.refl w.heap.size w)
    have bl := (Below.refl (w).heap.size (w)).alloc (Nat.le_refl _) (.cells #[.int .i64 r, .int .i64 c, .slice a0 z.length z.length] 36)
    have hn := Blk.new (w) 36 #[.int .i64 r, .int .i64 c, .slice a0 z.length z.length]
    have B_1 := Lib.hid (Below.next B_0.out bl)
    clear bl B_0
    have K_1 := Lib.hid hn
    clear hn
    have bl := (Below.refl ((w).alloc (.cells #[.int .i64 r, .int .i64 c, .slice a0 z.length z.length] 36)).heap.size ((w).alloc (.cells #[.int .i64 r, .int .i64 c, .slice a0 z.length z.length] 36))).alloc (Nat.le_refl _) (.cells #[.int .i64 0, .int .i64 0, .slice none 0 0] 36)
    have hn := Blk.new ((w).alloc (.cells #[.int .i64 r, .int .i64 c, .slice a0 z.length z.length] 36)) 36 #[.int .i64 0, .int .i64 0, .slice none 0 0]
    simp only [World.size_alloc] at hn
    have B_2 := Lib.hid (Below.next B_1.out bl)
    have K_2 := Lib.hid (K_1.out.below bl)
    clear bl B_1 K_1
    have Q_2 := Lib.hid hn
    clear hn
    generalize ((w).alloc (.cells #[.int .i64 r, .int .i64 c, .slice a0 z.length z.length] 36)).alloc (.cells #[.int .i64 0, .int .i64 0, .slice none 0 0] 36) = w2 at B_2 K_2 Q_2 ⊢
    refine (c_iValid r c _ _ _ true HV.out _).mono ?_
    rintro e w3 ⟨rfl, bl⟩
    have B_3 := Lib.hid (Below.next B_2.out bl)
    have K_3 := Lib.hid (K_2.out.below bl)
    have Q_3 := Lib.hid (Q_2.out.below bl)
    clear bl B_2 K_2 Q_2
    obtain ⟨pK0, pK1, pK2, pK3⟩ := tb K_3.out
    obtain ⟨pQ0, pQ1, pQ2, pQ3⟩ := tb Q_3.out
    obtain ⟨fq0, fq1, fq2⟩ := tbf Q_3.out
    go_wp2_with fail
    have hne : w.heap.size ≠ w.heap.size + 1 := by omega
    have HF2 := Lib.hid (HI.out.kept B_3.out)
    go_region_held3 (fun w' => w'.cell? ⟨w.heap.size, 0, none⟩ = some (.int .i64 r) ∧ w'.cell? ⟨w.heap.size, 1, none⟩ = some (.int .i64 c) ∧ w'.cell? ⟨w.heap.size, 2, none⟩ = some (.slice a0 z.length z.length)) (go_keep)
      (first
        | (go_at_call 75
           refine (c_eachOf 76 #[] crelu a0 z.length z.length z _ (HF2.out.kept ((Below.refl w3.heap.size w3).drew)) h256 (enters_of Try.func76 (by kernel_rfl) (by kernel_rfl)) (fun x wr hx _ => x_relu x wr hx)).mono ?_
           rintro e w4 ⟨b, cc, ys, rfl, hf, hy, hb⟩
           have hb1 : Below w3.heap.size w3 w4 := ((Below.refl _ _).drew).trans hb
           have HW := Lib.hid (hf.base (B' := w.heap.size) B_3.out.size)
           have HY := Lib.hid (hy.trans HV2.out)
           have B_4 := Lib.hid (Below.next B_3.out hb1)
           have K_4 := Lib.hid (K_3.out.below hb1)
           have Q_4 := Lib.hid (Q_3.out.below hb1)
           clear hf hy hb hb1 pK0 pK1 pK2 pK3 pQ0 pQ1 pQ2 pQ3 fq0 fq1 fq2
           obtain ⟨pK0, pK1, pK2, pK3⟩ := tb K_4.out
           obtain ⟨pQ0, pQ1, pQ2, pQ3⟩ := tb Q_4.out
           obtain ⟨fq0, fq1, fq2⟩ := tbf Q_4.out))
    go_wp2_with fail
    exact bodyPost_ret (v := .tuple #[.agg #[.int .i64 r, .int .i64 c, .slice b ys.length cc], .bool true]) (by simp [results, Try.results43, go_sem, pQ0, pQ1, pQ2]) rfl ⟨b, cc, ys, rfl, HW.out.off (store3 Q_4.out).2 Q_4.out (by decide), HY.out, ((B_4.out.setCell (by simp) _).setCell (by simp) _).setCell (by simp) _⟩
end Go.Proofs.Ytaonfaeinoackaa
