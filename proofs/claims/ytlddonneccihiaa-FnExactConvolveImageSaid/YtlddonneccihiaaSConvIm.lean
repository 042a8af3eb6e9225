/-
  ConvolveImage, as the model makes it. Conditions: the numbers can be read.
-/
import Derived.Test.YtlddonneccihiaaTConvIm
namespace Go.Proofs.Ytlddonneccihiaa
open Go.RowKit Go.Deep Go.WideShapes Go.ChangeShapes
set_option linter.unusedVariables false

def CIm (f : Nat → Nat) (NR NC : Nat) (k gb : Nat) (cA cB : Array Value) (w wr : World) : Prop :=
  ∃ (a : Option Addr) (cp : Nat) (ys : List Nat), w.heap.size + 2 < gb ∧ ys.length = k ∧ Blk wr gb 48 #[.int .i64 NR, .int .i64 NC, .slice a ys.length cp] ∧ OwnF wr w.heap.size a cp ys ∧ ys.map (canon .f32) = (List.range k).map f ∧ Below w.heap.size w wr ∧
    Blk wr w.heap.size 48 cA ∧ Blk wr (w.heap.size + 1) 48 cB ∧ Blk wr (w.heap.size + 1 + 1) 48 #[.int .i64 0, .int .i64 0, .slice none 0 0]
theorem ci_app {f : Nat → Nat} {NR NC k gb : Nat} {cA cB : Array Value} {w wr w' : World} {b a' : Option Addr} {cp cp' m v : Nat} {ys : List Nat} (hgb : w.heap.size + 2 < gb)
    (hb : Blk wr gb 48 #[.int .i64 NR, .int .i64 NC, .slice b ys.length cp]) (ho : OwnF wr w.heap.size b cp ys) (hl : Below w.heap.size w wr) (kA : Blk wr w.heap.size 48 cA) (kB : Blk wr (w.heap.size + 1) 48 cB) (kQ : Blk wr (w.heap.size + 1 + 1) 48 #[.int .i64 0, .int .i64 0, .slice none 0 0])
    (he : ys.map (canon .f32) = (List.range k).map f) (hy : ys.length = k) (hv : v < 2 ^ 32) (hc : canon .f32 v = f k)
    (hown : w'.ownsRow w.heap.size 26 1 (.slice a' (ys.length + 1) cp') (ys.length + 1) (ys.map (Value.float .f32) ++ [.float .f32 v])) (hg : ((wr.drewN m).alloc (.cells #[.float .f32 v] 26)).grownBy w' (Value.ownBlock (.slice b ys.length cp))) :
    (w'.cell? ⟨gb, 2, none⟩ = some (.slice b ys.length cp) ∧ w'.frozen? ⟨gb, 2, none⟩ = false) ∧ CIm f NR NC (k + 1) gb cA cB w (w'.setCell ⟨gb, 2, none⟩ (.slice a' (ys.length + 1) cp')) := by
  rw [ownBlock_slice] at hg
  have bw : Below wr.heap.size wr ((wr.drewN m).alloc (.cells #[.float .f32 v] 26)) := (below_drewN (Below.refl _ _) m).alloc (Nat.le_refl _) _
  have ho1 := ho.kept bw
  have hb2 := (hb.below bw).apart hg ho1 (by decide)
  have kA2 := (kA.below bw).apart hg ho1 (by decide)
  have kB2 := (kB.below bw).apart hg ho1 (by decide)
  have kQ2 := (kQ.below bw).apart hg ho1 (by decide)
  have hl2 : Below w.heap.size w w' := (hl.trans (bw.mono hl.size)).grown hg (Nat.le_trans hl.size bw.size) (fun g h => (ho1.lt g h).1)
  have st : w'.grownBy (w'.setCell ⟨gb, 2, none⟩ (.slice a' (ys.length + 1) cp')) (some gb) := ⟨rfl, rfl, rfl, by simp, fun k _ hk => Below.heap_setCell w' ⟨gb, 2, none⟩ _ k (fun e => hk (by simp [e]))⟩
  have ho2 : OwnF w' w.heap.size a' cp' (ys ++ [v]) := by
    refine ⟨by simpa using hown, fun y hy' => ?_⟩
    rcases List.mem_append.1 hy' with h | h
    · exact ho.2 y h
    · simp at h; subst h; exact hv
  refine ⟨⟨hb2.cell 2, hb2.frozen 2⟩, a', cp', ys ++ [v], hgb, by simp [hy], ?_, ho2.off st hb2 (by decide), ?_, hl2.setCell (by simp; omega) _, kA2.off st (by omega), kB2.off st (by omega), kQ2.off st (by omega)⟩
  · unfold Blk at hb2 ⊢
    simp [World.setCell, Array.getElem?_modify, hb2]
  · rw [List.map_append, he, List.range_succ, List.map_append]
    simp [hc]
def ImgRel (X Y : List Nat) (KR KC : Nat) (wo : World) (s i : Value) (wr : World) : Prop :=
  ∃ (k r m q : Nat), k * KC = q ∧ k ≤ KR ∧ i = .int .i64 k ∧ s = .float .f32 r ∧ canon .f32 r = cdot (X.take q) (Y.take q) ∧ r < 2 ^ 32 ∧ wr = wo.drewN m
def InImgRel (X Y : List Nat) (q KC : Nat) (wo : World) (s i : Value) (wr : World) : Prop :=
  ∃ (k r m : Nat), k ≤ KC ∧ i = .int .i64 k ∧ s = .float .f32 r ∧ canon .f32 r = cdot (X.take (q + k)) (Y.take (q + k)) ∧ r < 2 ^ 32 ∧ wr = wo.drewN m
theorem flat_lt {KR KC i j n : Nat} (hm : n = KR * KC) (hi : i < KR) (hj : j < KC) : i * KC + j < n ∧ i * KC + KC ≤ n := by
  have e1 : (i + 1) * KC ≤ KR * KC := Nat.mul_le_mul_right KC hi
  have e2 : (i + 1) * KC = i * KC + KC := by rw [Nat.add_mul, Nat.one_mul]
  omega
theorem small_mul {a b : Nat} (ha : a ≤ 16) (hb : b ≤ 16) : a * b ≤ 256 := Nat.mul_le_mul ha hb
set_option maxRecDepth 20000 in
set_option maxHeartbeats 4000000 in
theorem t_sConvolveImage (r c : Int) (z0 : List Nat) (r' c' : Int) (z1 : List Nat) (a0 a1 : Option Addr) (w : World) (w0 : IsFloats .f32 w a0 z0.length z0.length z0) (w1 : IsFloats .f32 w a1 z1.length z1.length z1) :
    Calls Try.prog 19 #[.agg #[.int .i64 r, .int .i64 c, .slice a0 z0.length z0.length], .agg #[.int .i64 r', .int .i64 c', .slice a1 z1.length z1.length]] w (RetT (vConvolveImage r c z0 r' c' z1).1 (vConvolveImage r c z0 r' c' z1).2.1 (vConvolveImage r c z0 r' c' z1).2.2.1 (vConvolveImage r c z0 r' c' z1).2.2.2 w) := by
  have HA := Lib.hid w0
  have HBB := Lib.hid w1
  have hna : z0.length ≤ 9223372036854775807 := by have := w0.2.1; unfold maxLen at this; exact this
  have hnb : z1.length ≤ 9223372036854775807 := by have := w1.2.1; unfold maxLen at this; exact this
  cases e1 : vokB r c z0.length with
  | false =>
    have E1 := Lib.hid e1
    have HX := Lib.hid (vImg_no (z := z0) (zk := z1) (r := r) (c := c) (r' := r') (c' := c') (by unfold okImg; rw [e1]; rfl))
    rw [HX.out]
    clear e1 w0 w1
    go_enter Try.func19, Try.ntmps19
    go_wp2_with fail
    have B_0 := Lib.hid (Below.refl w.heap.size w)
    have bl := (Below.refl (w).heap.size (w)).alloc (Nat.le_refl _) (.cells #[.int .i64 r, .int .i64 c, .slice a0 z0.length z0.length] 48)
    have hn := Blk.new (w) 48 #[.int .i64 r, .int .i64 c, .slice a0 z0.length z0.length]
    have B_1 := Lib.hid (Below.next B_0.out bl)
    clear bl B_0
    have K_1 := Lib.hid hn
    clear hn
    have bl := (Below.refl ((w).alloc (.cells #[.int .i64 r, .int .i64 c, .slice a0 z0.length z0.length] 48)).heap.size ((w).alloc (.cells #[.int .i64 r, .int .i64 c, .slice a0 z0.length z0.length] 48))).alloc (Nat.le_refl _) (.cells #[.int .i64 r', .int .i64 c', .slice a1 z1.length z1.length] 48)
    have hn := Blk.new ((w).alloc (.cells #[.int .i64 r, .int .i64 c, .slice a0 z0.length z0.length] 48)) 48 #[.int .i64 r', .int .i64 c', .slice a1 z1.length z1.length]
    simp only [World.size_alloc] at hn
    have B_2 := Lib.hid (Below.next B_1.out bl)
    have K_2 := Lib.hid (K_1.out.below bl)
    clear bl B_1 K_1
    have L_2 := Lib.hid hn
    clear hn
    have bl := (Below.refl (((w).alloc (.cells #[.int .i64 r, .int .i64 c, .slice a0 z0.length z0.length] 48)).alloc (.cells #[.int .i64 r', .int .i64 c', .slice a1 z1.length z1.length] 48)).heap.size (((w).alloc (.cells #[.int .i64 r, .int .i64 c, .slice a0 z0.length z0.length] 48)).alloc (.cells #[.int .i64 r', .int .i64 c', .slice a1 z1.length z1.length] 48))).alloc (Nat.le_refl _) (.cells #[.int .i64 0, .int .i64 0, .slice none 0 0] 48)
    have hn := Blk.new (((w).alloc (.cells #[.int .i64 r, .int .i64 c, .slice a0 z0.length z0.length] 48)).alloc (.cells #[.int .i64 r', .int .i64 c', .slice a1 z1.length z1.length] 48)) 48 #[.int .i64 0, .int .i64 0, .slice none 0 0]
    simp only [World.size_alloc] at hn
    have B_3 := Lib.hid (Below.next B_2.out bl)
    have K_3 := Lib.hid (K_2.out.below bl)
    have L_3 := Lib.hid (L_2.out.below bl)
    clear bl B_2 K_2 L_2
    have Q_3 := Lib.hid hn
    clear hn
    generalize (((w).alloc (.cells #[.int .i64 r, .int .i64 c, .slice a0 z0.length z0.length] 48)).alloc (.cells #[.int .i64 r', .int .i64 c', .slice a1 z1.length z1.length] 48)).alloc (.cells #[.int .i64 0, .int .i64 0, .slice none 0 0] 48) = w3 at B_3 K_3 L_3 Q_3 ⊢
    obtain ⟨pK0, pK1, pK2, pK3⟩ := tb K_3.out
    obtain ⟨pL0, pL1, pL2, pL3⟩ := tb L_3.out
    obtain ⟨pQ0, pQ1, pQ2, pQ3⟩ := tb Q_3.out
    obtain ⟨fq0, fq1, fq2⟩ := tbf Q_3.out
    refine (c_l02Is w.heap.size 0 r c a0 z0.length z0.length false E1.out hna _ pK0 pK1 pK2).mono ?_
    rintro e w4 ⟨rfl, dn⟩
    have bl := dn.below
    clear dn
    clear pK0 pK1 pK2 pK3 pL0 pL1 pL2 pL3 pQ0 pQ1 pQ2 pQ3 fq0 fq1 fq2
    have B_4 := Lib.hid (Below.next B_3.out bl)
    have K_4 := Lib.hid (K_3.out.below bl)
    have L_4 := Lib.hid (L_3.out.below bl)
    have Q_4 := Lib.hid (Q_3.out.below bl)
    clear bl B_3 K_3 L_3 Q_3
    obtain ⟨pK0, pK1, pK2, pK3⟩ := tb K_4.out
    obtain ⟨pL0, pL1, pL2, pL3⟩ := tb L_4.out
    obtain ⟨pQ0, pQ1, pQ2, pQ3⟩ := tb Q_4.out
    obtain ⟨fq0, fq1, fq2⟩ := tbf Q_4.out
    go_wp2_with fail
    exact bodyPost_ret (v := .tuple #[.agg #[.int .i64 0, .int .i64 0, .slice none 0 0], .bool false]) (by simp [results, Try.results19, go_sem, pQ0, pQ1, pQ2]) rfl ⟨none, 0, [], rfl, nil_own _ _, rfl, ((B_4.out.setCell (by simp; omega) _).setCell (by simp; omega) _).setCell (by simp; omega) _⟩
  | true =>
    cases e2 : vokB r' c' z1.length with
    | false =>
      have E1 := Lib.hid e1
      have E2 := Lib.hid e2
      have HX := Lib.hid (vImg_no (z := z0) (zk := z1) (r := r) (c := c) (r' := r') (c' := c') (by unfold okImg; rw [e1, e2]; rfl))
      rw [HX.out]
      clear e1 e2 w0 w1
      go_enter Try.func19, Try.ntmps19
      go_wp2_with fail
      have B_0 := Lib.hid (Below.refl w.heap.size w)
      have bl := (Below.refl (w).heap.size (w)).alloc (Nat.le_refl _) (.cells #[.int .i64 r, .int .i64 c, .slice a0 z0.length z0.length] 48)
      have hn := Blk.new (w) 48 #[.int .i64 r, .int .i64 c, .slice a0 z0.length z0.length]
      have B_1 := Lib.hid (Below.next B_0.out bl)
      clear bl B_0
      have K_1 := Lib.hid hn
      clear hn
      have bl := (Below.refl ((w).alloc (.cells #[.int .i64 r, .int .i64 c, .slice a0 z0.length z0.length] 48)).heap.size ((w).alloc (.cells #[.int .i64 r, .int .i64 c, .slice a0 z0.length z0.length] 48))).alloc (Nat.le_refl _) (.cells #[.int .i64 r', .int .i64 c', .slice a1 z1.length z1.length] 48)
      have hn := Blk.new ((w).alloc (.cells #[.int .i64 r, .int .i64 c, .slice a0 z0.length z0.length] 48)) 48 #[.int .i64 r', .int .i64 c', .slice a1 z1.length z1.length]
      simp only [World.size_alloc] at hn
      have B_2 := Lib.hid (Below.next B_1.out bl)
      have K_2 := Lib.hid (K_1.out.below bl)
      clear bl B_1 K_1
      have L_2 := Lib.hid hn
      clear hn
      have bl := (Below.refl (((w).alloc (.cells #[.int .i64 r, .int .i64 c, .slice a0 z0.length z0.length] 48)).alloc (.cells #[.int .i64 r', .int .i64 c', .slice a1 z1.length z1.length] 48)).heap.size (((w).alloc (.cells #[.int .i64 r, .int .i64 c, .slice a0 z0.length z0.length] 48)).alloc (.cells #[.int .i64 r', .int .i64 c', .slice a1 z1.length z1.length] 48))).alloc (Nat.le_refl _) (.cells #[.int .i64 0, .int .i64 0, .slice none 0 0] 48)
      have hn := Blk.new (((w).alloc (.cells #[.int .i64 r, .int .i64 c, .slice a0 z0.length z0.length] 48)).alloc (.cells #[.int .i64 r', .int .i64 c', .slice a1 z1.length z1.length] 48)) 48 #[.int .i64 0, .int .i64 0, .slice none 0 0]
      simp only [World.size_alloc] at hn
      have B_3 := Lib.hid (Below.next B_2.out bl)
      have K_3 := Lib.hid (K_2.out.below bl)
      have L_3 := Lib.hid (L_2.out.below bl)
      clear bl B_2 K_2 L_2
      have Q_3 := Lib.hid hn
      clear hn
      generalize (((w).alloc (.cells #[.int .i64 r, .int .i64 c, .slice a0 z0.length z0.length] 48)).alloc (.cells #[.int .i64 r', .int .i64 c', .slice a1 z1.length z1.length] 48)).alloc (.cells #[.int .i64 0, .int .i64 0, .slice none 0 0] 48) = w3 at B_3 K_3 L_3 Q_3 ⊢
      obtain ⟨pK0, pK1, pK2, pK3⟩ := tb K_3.out
      obtain ⟨pL0, pL1, pL2, pL3⟩ := tb L_3.out
      obtain ⟨pQ0, pQ1, pQ2, pQ3⟩ := tb Q_3.out
      obtain ⟨fq0, fq1, fq2⟩ := tbf Q_3.out
      refine (c_l02Is w.heap.size 0 r c a0 z0.length z0.length true E1.out hna _ pK0 pK1 pK2).mono ?_
      rintro e w4 ⟨rfl, dn⟩
      have bl := dn.below
      clear dn
      clear pK0 pK1 pK2 pK3 pL0 pL1 pL2 pL3 pQ0 pQ1 pQ2 pQ3 fq0 fq1 fq2
      have B_4 := Lib.hid (Below.next B_3.out bl)
      have K_4 := Lib.hid (K_3.out.below bl)
      have L_4 := Lib.hid (L_3.out.below bl)
      have Q_4 := Lib.hid (Q_3.out.below bl)
      clear bl B_3 K_3 L_3 Q_3
      obtain ⟨pK0, pK1, pK2, pK3⟩ := tb K_4.out
      obtain ⟨pL0, pL1, pL2, pL3⟩ := tb L_4.out
      obtain ⟨pQ0, pQ1, pQ2, pQ3⟩ := tb Q_4.out
      obtain ⟨fq0, fq1, fq2⟩ := tbf Q_4.out
      go_wp2_with fail
      clear pK0 pK1 pK2 pK3 pL0 pL1 pL2 pL3 pQ0 pQ1 pQ2 pQ3 fq0 fq1 fq2
      obtain ⟨pK0, pK1, pK2, pK3⟩ := tb K_4.out
      obtain ⟨pL0, pL1, pL2, pL3⟩ := tb L_4.out
      obtain ⟨pQ0, pQ1, pQ2, pQ3⟩ := tb Q_4.out
      obtain ⟨fq0, fq1, fq2⟩ := tbf Q_4.out
      refine (c_l02Is (w.heap.size + 1) 0 r' c' a1 z1.length z1.length false E2.out hnb _ pL0 pL1 pL2).mono ?_
      rintro e w5 ⟨rfl, dn⟩
      have bl := dn.below
      clear dn
      clear pK0 pK1 pK2 pK3 pL0 pL1 pL2 pL3 pQ0 pQ1 pQ2 pQ3 fq0 fq1 fq2
      have B_5 := Lib.hid (Below.next B_4.out bl)
      have K_5 := Lib.hid (K_4.out.below bl)
      have L_5 := Lib.hid (L_4.out.below bl)
      have Q_5 := Lib.hid (Q_4.out.below bl)
      clear bl B_4 K_4 L_4 Q_4
      obtain ⟨pK0, pK1, pK2, pK3⟩ := tb K_5.out
      obtain ⟨pL0, pL1, pL2, pL3⟩ := tb L_5.out
      obtain ⟨pQ0, pQ1, pQ2, pQ3⟩ := tb Q_5.out
      obtain ⟨fq0, fq1, fq2⟩ := tbf Q_5.out
      go_wp2_with fail
      exact bodyPost_ret (v := .tuple #[.agg #[.int .i64 0, .int .i64 0, .slice none 0 0], .bool false]) (by simp [results, Try.results19, go_sem, pQ0, pQ1, pQ2]) rfl ⟨none, 0, [], rfl, nil_own _ _, rfl, ((B_5.out.setCell (by simp; omega) _).setCell (by simp; omega) _).setCell (by simp; omega) _⟩
    | true =>
      cases e3 : decide (r' ≤ r) with
      | false =>
        have E1 := Lib.hid e1
        have E2 := Lib.hid e2
        have hgt : r < r' := by have := of_decide_eq_false e3; omega
        have hgd : decide (r < r') = true := decide_eq_true hgt
        have HX := Lib.hid (vImg_no (z := z0) (zk := z1) (r := r) (c := c) (r' := r') (c' := c') (by unfold okImg; rw [e1, e2, e3]; rfl))
        rw [HX.out]
        clear e1 e2 e3 w0 w1
        go_enter Try.func19, Try.ntmps19
        go_wp2_with fail
        have B_0 := Lib.hid (Below.refl w.heap.size w)
        have bl := (Below.refl (w).heap.size (w)).alloc (Nat.le_refl _) (.cells #[.int .i64 r, .int .i64 c, .slice a0 z0.length z0.length] 48)
        have hn := Blk.new (w) 48 #[.int .i64 r, .int .i64 c, .slice a0 z0.length z0.length]
        have B_1 := Lib.hid (Below.next B_0.out bl)
        clear bl B_0
        have K_1 := Lib.hid hn
        clear hn
        have bl := (Below.refl ((w).alloc (.cells #[.int .i64 r, .int .i64 c, .slice a0 z0.length z0.length] 48)).heap.size ((w).alloc (.cells #[.int .i64 r, .int .i64 c, .slice a0 z0.length z0.length] 48))).alloc (Nat.le_refl _) (.cells #[.int .i64 r', .int .i64 c', .slice a1 z1.length z1.length] 48)
        have hn := Blk.new ((w).alloc (.cells #[.int .i64 r, .int .i64 c, .slice a0 z0.length z0.length] 48)) 48 #[.int .i64 r', .int .i64 c', .slice a1 z1.length z1.length]
        simp only [World.size_alloc] at hn
        have B_2 := Lib.hid (Below.next B_1.out bl)
        have K_2 := Lib.hid (K_1.out.below bl)
        clear bl B_1 K_1
        have L_2 := Lib.hid hn
        clear hn
        have bl := (Below.refl (((w).alloc (.cells #[.int .i64 r, .int .i64 c, .slice a0 z0.length z0.length] 48)).alloc (.cells #[.int .i64 r', .int .i64 c', .slice a1 z1.length z1.length] 48)).heap.size (((w).alloc (.cells #[.int .i64 r, .int .i64 c, .slice a0 z0.length z0.length] 48)).alloc (.cells #[.int .i64 r', .int .i64 c', .slice a1 z1.length z1.length] 48))).alloc (Nat.le_refl _) (.cells #[.int .i64 0, .int .i64 0, .slice none 0 0] 48)
        have hn := Blk.new (((w).alloc (.cells #[.int .i64 r, .int .i64 c, .slice a0 z0.length z0.length] 48)).alloc (.cells #[.int .i64 r', .int .i64 c', .slice a1 z1.length z1.length] 48)) 48 #[.int .i64 0, .int .i64 0, .slice none 0 0]
        simp only [World.size_alloc] at hn
        have B_3 := Lib.hid (Below.next B_2.out bl)
        have K_3 := Lib.hid (K_2.out.below bl)
        have L_3 := Lib.hid (L_2.out.below bl)
        clear bl B_2 K_2 L_2
        have Q_3 := Lib.hid hn
        clear hn
        generalize (((w).alloc (.cells #[.int .i64 r, .int .i64 c, .slice a0 z0.length z0.length] 48)).alloc (.cells #[.int .i64 r', .int .i64 c', .slice a1 z1.length z1.length] 48)).alloc (.cells #[.int .i64 0, .int .i64 0, .slice none 0 0] 48) = w3 at B_3 K_3 L_3 Q_3 ⊢
        obtain ⟨pK0, pK1, pK2, pK3⟩ := tb K_3.out
        obtain ⟨pL0, pL1, pL2, pL3⟩ := tb L_3.out
        obtain ⟨pQ0, pQ1, pQ2, pQ3⟩ := tb Q_3.out
        obtain ⟨fq0, fq1, fq2⟩ := tbf Q_3.out
        refine (c_l02Is w.heap.size 0 r c a0 z0.length z0.length true E1.out hna _ pK0 pK1 pK2).mono ?_
        rintro e w4 ⟨rfl, dn⟩
        have bl := dn.below
        clear dn
        clear pK0 pK1 pK2 pK3 pL0 pL1 pL2 pL3 pQ0 pQ1 pQ2 pQ3 fq0 fq1 fq2
        have B_4 := Lib.hid (Below.next B_3.out bl)
        have K_4 := Lib.hid (K_3.out.below bl)
        have L_4 := Lib.hid (L_3.out.below bl)
        have Q_4 := Lib.hid (Q_3.out.below bl)
        clear bl B_3 K_3 L_3 Q_3
        obtain ⟨pK0, pK1, pK2, pK3⟩ := tb K_4.out
        obtain ⟨pL0, pL1, pL2, pL3⟩ := tb L_4.out
        obtain ⟨pQ0, pQ1, pQ2, pQ3⟩ := tb Q_4.out
        obtain ⟨fq0, fq1, fq2⟩ := tbf Q_4.out
        go_wp2_with fail
        clear pK0 pK1 pK2 pK3 pL0 pL1 pL2 pL3 pQ0 pQ1 pQ2 pQ3 fq0 fq1 fq2
        obtain ⟨pK0, pK1, pK2, pK3⟩ := tb K_4.out
        obtain ⟨pL0, pL1, pL2, pL3⟩ := tb L_4.out
        obtain ⟨pQ0, pQ1, pQ2, pQ3⟩ := tb Q_4.out
        obtain ⟨fq0, fq1, fq2⟩ := tbf Q_4.out
        refine (c_l02Is (w.heap.size + 1) 0 r' c' a1 z1.length z1.length true E2.out hnb _ pL0 pL1 pL2).mono ?_
        rintro e w5 ⟨rfl, dn⟩
        have bl := dn.below
        clear dn
        clear pK0 pK1 pK2 pK3 pL0 pL1 pL2 pL3 pQ0 pQ1 pQ2 pQ3 fq0 fq1 fq2
        have B_5 := Lib.hid (Below.next B_4.out bl)
        have K_5 := Lib.hid (K_4.out.below bl)
        have L_5 := Lib.hid (L_4.out.below bl)
        have Q_5 := Lib.hid (Q_4.out.below bl)
        clear bl B_4 K_4 L_4 Q_4
        obtain ⟨pK0, pK1, pK2, pK3⟩ := tb K_5.out
        obtain ⟨pL0, pL1, pL2, pL3⟩ := tb L_5.out
        obtain ⟨pQ0, pQ1, pQ2, pQ3⟩ := tb Q_5.out
        obtain ⟨fq0, fq1, fq2⟩ := tbf Q_5.out
        go_wp2_with fail
        exact bodyPost_ret (v := .tuple #[.agg #[.int .i64 0, .int .i64 0, .slice none 0 0], .bool false]) (by simp [results, Try.results19, go_sem, pQ0, pQ1, pQ2]) rfl ⟨none, 0, [], rfl, nil_own _ _, rfl, ((B_5.out.setCell (by simp; omega) _).setCell (by simp; omega) _).setCell (by simp; omega) _⟩
      | true =>
        cases e4 : decide (c' ≤ c) with
        | false =>
          have E1 := Lib.hid e1
          have E2 := Lib.hid e2
          have hle : ¬ r < r' := by have := of_decide_eq_true e3; omega
          have hld : decide (r < r') = false := decide_eq_false hle
          have hgt : c < c' := by have := of_decide_eq_false e4; omega
          have hgd : decide (c < c') = true := decide_eq_true hgt
          have HX := Lib.hid (vImg_no (z := z0) (zk := z1) (r := r) (c := c) (r' := r') (c' := c') (by unfold okImg; rw [e1, e2, e3, e4]; rfl))
          rw [HX.out]
          clear e1 e2 e3 e4 w0 w1
          go_enter Try.func19, Try.ntmps19
          go_wp2_with fail
          have B_0 := Lib.hid (Below.refl w.heap.size w)
          have bl := (Below.refl (w).heap.size (w)).alloc (Nat.le_refl _) (.cells #[.int .i64 r, .int .i64 c, .slice a0 z0.length z0.length] 48)
          have hn := Blk.new (w) 48 #[.int .i64 r, .int .i64 c, .slice a0 z0.length z0.length]
          have B_1 := Lib.hid (Below.next B_0.out bl)
          clear bl B_0
          have K_1 := Lib.hid hn
          clear hn
          have bl := (Below.refl ((w).alloc (.cells #[.int .i64 r, .int .i64 c, .slice a0 z0.length z0.length] 48)).heap.size ((w).alloc (.cells #[.int .i64 r, .int .i64 c, .slice a0 z0.length z0.length] 48))).alloc (Nat.le_refl _) (.cells #[.int .i64 r', .int .i64 c', .slice a1 z1.length z1.length] 48)
          have hn := Blk.new ((w).alloc (.cells #[.int .i64 r, .int .i64 c, .slice a0 z0.length z0.length] 48)) 48 #[.int .i64 r', .int .i64 c', .slice a1 z1.length z1.length]
          simp only [World.size_alloc] at hn
          have B_2 := Lib.hid (Below.next B_1.out bl)
          have K_2 := Lib.hid (K_1.out.below bl)
          clear bl B_1 K_1
          have L_2 := Lib.hid hn
          clear hn
          have bl := (Below.refl (((w).alloc (.cells #[.int .i64 r, .int .i64 c, .slice a0 z0.length z0.length] 48)).alloc (.cells #[.int .i64 r', .int .i64 c', .slice a1 z1.length z1.length] 48)).heap.size (((w).alloc (.cells #[.int .i64 r, .int .i64 c, .slice a0 z0.length z0.length] 48)).alloc (.cells #[.int .i64 r', .int .i64 c', .slice a1 z1.length z1.length] 48))).alloc (Nat.le_refl _) (.cells #[.int .i64 0, .int .i64 0, .slice none 0 0] 48)
          have hn := Blk.new (((w).alloc (.cells #[.int .i64 r, .int .i64 c, .slice a0 z0.length z0.length] 48)).alloc (.cells #[.int .i64 r', .int .i64 c', .slice a1 z1.length z1.length] 48)) 48 #[.int .i64 0, .int .i64 0, .slice none 0 0]
          simp only [World.size_alloc] at hn
          have B_3 := Lib.hid (Below.next B_2.out bl)
          have K_3 := Lib.hid (K_2.out.below bl)
          have L_3 := Lib.hid (L_2.out.below bl)
          clear bl B_2 K_2 L_2
          have Q_3 := Lib.hid hn
          clear hn
          generalize (((w).alloc (.cells #[.int .i64 r, .int .i64 c, .slice a0 z0.length z0.length] 48)).alloc (.cells #[.int .i64 r', .int .i64 c', .slice a1 z1.length z1.length] 48)).alloc (.cells #[.int .i64 0, .int .i64 0, .slice none 0 0] 48) = w3 at B_3 K_3 L_3 Q_3 ⊢
          obtain ⟨pK0, pK1, pK2, pK3⟩ := tb K_3.out
          obtain ⟨pL0, pL1, pL2, pL3⟩ := tb L_3.out
          obtain ⟨pQ0, pQ1, pQ2, pQ3⟩ := tb Q_3.out
          obtain ⟨fq0, fq1, fq2⟩ := tbf Q_3.out
          refine (c_l02Is w.heap.size 0 r c a0 z0.length z0.length true E1.out hna _ pK0 pK1 pK2).mono ?_
          rintro e w4 ⟨rfl, dn⟩
          have bl := dn.below
          clear dn
          clear pK0 pK1 pK2 pK3 pL0 pL1 pL2 pL3 pQ0 pQ1 pQ2 pQ3 fq0 fq1 fq2
          have B_4 := Lib.hid (Below.next B_3.out bl)
          have K_4 := Lib.hid (K_3.out.below bl)
          have L_4 := Lib.hid (L_3.out.below bl)
          have Q_4 := Lib.hid (Q_3.out.below bl)
          clear bl B_3 K_3 L_3 Q_3
          obtain ⟨pK0, pK1, pK2, pK3⟩ := tb K_4.out
          obtain ⟨pL0, pL1, pL2, pL3⟩ := tb L_4.out
          obtain ⟨pQ0, pQ1, pQ2, pQ3⟩ := tb Q_4.out
          obtain ⟨fq0, fq1, fq2⟩ := tbf Q_4.out
          go_wp2_with fail
          clear pK0 pK1 pK2 pK3 pL0 pL1 pL2 pL3 pQ0 pQ1 pQ2 pQ3 fq0 fq1 fq2
          obtain ⟨pK0, pK1, pK2, pK3⟩ := tb K_4.out
          obtain ⟨pL0, pL1, pL2, pL3⟩ := tb L_4.out
          obtain ⟨pQ0, pQ1, pQ2, pQ3⟩ := tb Q_4.out
          obtain ⟨fq0, fq1, fq2⟩ := tbf Q_4.out
          refine (c_l02Is (w.heap.size + 1) 0 r' c' a1 z1.length z1.length true E2.out hnb _ pL0 pL1 pL2).mono ?_
          rintro e w5 ⟨rfl, dn⟩
          have bl := dn.below
          clear dn
          clear pK0 pK1 pK2 pK3 pL0 pL1 pL2 pL3 pQ0 pQ1 pQ2 pQ3 fq0 fq1 fq2
          have B_5 := Lib.hid (Below.next B_4.out bl)
          have K_5 := Lib.hid (K_4.out.below bl)
          have L_5 := Lib.hid (L_4.out.below bl)
          have Q_5 := Lib.hid (Q_4.out.below bl)
          clear bl B_4 K_4 L_4 Q_4
          obtain ⟨pK0, pK1, pK2, pK3⟩ := tb K_5.out
          obtain ⟨pL0, pL1, pL2, pL3⟩ := tb L_5.out
          obtain ⟨pQ0, pQ1, pQ2, pQ3⟩ := tb Q_5.out
          obtain ⟨fq0, fq1, fq2⟩ := tbf Q_5.out
          go_wp2_with fail
          exact bodyPost_ret (v := .tuple #[.agg #[.int .i64 0, .int .i64 0, .slice none 0 0], .bool false]) (by simp [results, Try.results19, go_sem, pQ0, pQ1, pQ2]) rfl ⟨none, 0, [], rfl, nil_own _ _, rfl, ((B_5.out.setCell (by simp; omega) _).setCell (by simp; omega) _).setCell (by simp; omega) _⟩
        | true =>
          have hok : okImg r c r' c' z0.length z1.length = true := by unfold okImg; rw [e1, e2, e3, e4]; rfl
          obtain ⟨R, C, KR, KC, rfl, rfl, rfl, rfl, a1', a2', a3', a4', b1, b2, b3, b4, hn, hm⟩ := img_nat hok
          obtain ⟨NR, hNR⟩ : ∃ NR : Nat, (R : Int) - (KR : Int) + 1 = (NR : Int) := ⟨R - KR + 1, by omega⟩
          obtain ⟨NC, hNC⟩ : ∃ NC : Nat, (C : Int) - (KC : Int) + 1 = (NC : Int) := ⟨C - KC + 1, by omega⟩
          have E1 := Lib.hid e1
          have E2 := Lib.hid e2
          have HN := Lib.hid hn
          have HM := Lib.hid hm
          have HX := Lib.hid (vImg_yes hok hNR hNC)
          rw [HX.out]
          obtain ⟨vals, hvals⟩ : ∃ vals, (List.range (NR * NC)).map (imgF z0 z1 C KR KC NC) = vals := ⟨_, rfl⟩
          have HVAL := Lib.hid hvals
          rw [hvals]
          have hle : ¬ (R : Int) < (KR : Int) := by omega
          have hld : decide ((R : Int) < (KR : Int)) = false := decide_eq_false hle
          have hle2 : ¬ (C : Int) < (KC : Int) := by omega
          have hld2 : decide ((C : Int) < (KC : Int)) = false := decide_eq_false hle2
          have hln : ¬ R < KR := by omega
          have hlnd : decide (R < KR) = false := decide_eq_false hln
          have hln2 : ¬ C < KC := by omega
          have hlnd2 : decide (C < KC) = false := decide_eq_false hln2
          have HNR := Lib.hid hNR
          have HNC := Lib.hid hNC
          clear e1 e2 e3 e4 w0 w1 hok hn hm hvals hNR hNC
          go_enter Try.func19, Try.ntmps19
          go_wp2_with fail
          have B_0 := Lib.hid (Below.refl w.heap.size w)
          have bl := (Below.refl (w).heap.size (w)).alloc (Nat.le_refl _) (.cells #[.int .i64 (R : Int), .int .i64 (C : Int), .slice a0 z0.length z0.length] 48)
          have hn := Blk.new (w) 48 #[.int .i64 (R : Int), .int .i64 (C : Int), .slice a0 z0.length z0.length]
          have B_1 := Lib.hid (Below.next B_0.out bl)
          clear bl B_0
          have K_1 := Lib.hid hn
          clear hn
          have bl := (Below.refl ((w).alloc (.cells #[.int .i64 (R : Int), .int .i64 (C : Int), .slice a0 z0.length z0.length] 48)).heap.size ((w).alloc (.cells #[.int .i64 (R : Int), .int .i64 (C : Int), .slice a0 z0.length z0.length] 48))).alloc (Nat.le_refl _) (.cells #[.int .i64 (KR : Int), .int .i64 (KC : Int), .slice a1 z1.length z1.length] 48)
          have hn := Blk.new ((w).alloc (.cells #[.int .i64 (R : Int), .int .i64 (C : Int), .slice a0 z0.length z0.length] 48)) 48 #[.int .i64 (KR : Int), .int .i64 (KC : Int), .slice a1 z1.length z1.length]
          simp only [World.size_alloc] at hn
          have B_2 := Lib.hid (Below.next B_1.out bl)
          have K_2 := Lib.hid (K_1.out.below bl)
          clear bl B_1 K_1
          have L_2 := Lib.hid hn
          clear hn
          have bl := (Below.refl (((w).alloc (.cells #[.int .i64 (R : Int), .int .i64 (C : Int), .slice a0 z0.length z0.length] 48)).alloc (.cells #[.int .i64 (KR : Int), .int .i64 (KC : Int), .slice a1 z1.length z1.length] 48)).heap.size (((w).alloc (.cells #[.int .i64 (R : Int), .int .i64 (C : Int), .slice a0 z0.length z0.length] 48)).alloc (.cells #[.int .i64 (KR : Int), .int .i64 (KC : Int), .slice a1 z1.length z1.length] 48))).alloc (Nat.le_refl _) (.cells #[.int .i64 0, .int .i64 0, .slice none 0 0] 48)
          have hn := Blk.new (((w).alloc (.cells #[.int .i64 (R : Int), .int .i64 (C : Int), .slice a0 z0.length z0.length] 48)).alloc (.cells #[.int .i64 (KR : Int), .int .i64 (KC : Int), .slice a1 z1.length z1.length] 48)) 48 #[.int .i64 0, .int .i64 0, .slice none 0 0]
          simp only [World.size_alloc] at hn
          have B_3 := Lib.hid (Below.next B_2.out bl)
          have K_3 := Lib.hid (K_2.out.below bl)
          have L_3 := Lib.hid (L_2.out.below bl)
          clear bl B_2 K_2 L_2
          have Q_3 := Lib.hid hn
          clear hn
          generalize (((w).alloc (.cells #[.int .i64 (R : Int), .int .i64 (C : Int), .slice a0 z0.length z0.length] 48)).alloc (.cells #[.int .i64 (KR : Int), .int .i64 (KC : Int), .slice a1 z1.length z1.length] 48)).alloc (.cells #[.int .i64 0, .int .i64 0, .slice none 0 0] 48) = w3 at B_3 K_3 L_3 Q_3 ⊢
          obtain ⟨pK0, pK1, pK2, pK3⟩ := tb K_3.out
          obtain ⟨pL0, pL1, pL2, pL3⟩ := tb L_3.out
          obtain ⟨pQ0, pQ1, pQ2, pQ3⟩ := tb Q_3.out
          obtain ⟨fq0, fq1, fq2⟩ := tbf Q_3.out
          refine (c_l02Is w.heap.size 0 (R : Int) (C : Int) a0 z0.length z0.length true E1.out hna _ pK0 pK1 pK2).mono ?_
          rintro e w4 ⟨rfl, dn⟩
          have bl := dn.below
          clear dn
          clear pK0 pK1 pK2 pK3 pL0 pL1 pL2 pL3 pQ0 pQ1 pQ2 pQ3 fq0 fq1 fq2
          have B_4 := Lib.hid (Below.next B_3.out bl)
          have K_4 := Lib.hid (K_3.out.below bl)
          have L_4 := Lib.hid (L_3.out.below bl)
          have Q_4 := Lib.hid (Q_3.out.below bl)
          clear bl B_3 K_3 L_3 Q_3
          obtain ⟨pK0, pK1, pK2, pK3⟩ := tb K_4.out
          obtain ⟨pL0, pL1, pL2, pL3⟩ := tb L_4.out
          obtain ⟨pQ0, pQ1, pQ2, pQ3⟩ := tb Q_4.out
          obtain ⟨fq0, fq1, fq2⟩ := tbf Q_4.out
          go_wp2_with fail
          clear pK0 pK1 pK2 pK3 pL0 pL1 pL2 pL3 pQ0 pQ1 pQ2 pQ3 fq0 fq1 fq2
          obtain ⟨pK0, pK1, pK2, pK3⟩ := tb K_4.out
          obtain ⟨pL0, pL1, pL2, pL3⟩ := tb L_4.out
          obtain ⟨pQ0, pQ1, pQ2, pQ3⟩ := tb Q_4.out
          obtain ⟨fq0, fq1, fq2⟩ := tbf Q_4.out
          refine (c_l02Is (w.heap.size + 1) 0 (KR : Int) (KC : Int) a1 z1.length z1.length true E2.out hnb _ pL0 pL1 pL2).mono ?_
          rintro e w5 ⟨rfl, dn⟩
          have bl := dn.below
          clear dn
          clear pK0 pK1 pK2 pK3 pL0 pL1 pL2 pL3 pQ0 pQ1 pQ2 pQ3 fq0 fq1 fq2
          have B_5 := Lib.hid (Below.next B_4.out bl)
          have K_5 := Lib.hid (K_4.out.below bl)
          have L_5 := Lib.hid (L_4.out.below bl)
          have Q_5 := Lib.hid (Q_4.out.below bl)
          clear bl B_4 K_4 L_4 Q_4
          obtain ⟨pK0, pK1, pK2, pK3⟩ := tb K_5.out
          obtain ⟨pL0, pL1, pL2, pL3⟩ := tb L_5.out
          obtain ⟨pQ0, pQ1, pQ2, pQ3⟩ := tb Q_5.out
          obtain ⟨fq0, fq1, fq2⟩ := tbf Q_5.out
          obtain ⟨i0, hi, hz0, hz1, hz2⟩ := info_parts info_f32
          have JI := Lib.hid hi
          have HZ0 := Lib.hid hz0
          have HZ1 := Lib.hid hz1
          have HZ2 := Lib.hid hz2
          clear hi hz0 hz1 hz2
          have hNR := HNR.out
          have hNC := HNC.out
          have hNR2 : NR ≤ 16 := by omega
          have hNC2 : NC ≤ 16 := by omega
          have g3 : w.heap.size + 2 < w5.heap.size := by have := Q_5.out.lt; omega
          go_wp2_with fail
          have bl := ((Below.refl w5.heap.size w5).alloc (Nat.le_refl _) (.cells #[] 26)).alloc (by simp) (.cells #[.int .i64 NR, .int .i64 NC, .slice (some ⟨w5.heap.size, 0, none⟩) 0 0] 48)
          have hbx := Blk.new (w5.alloc (.cells #[] 26)) 48 #[.int .i64 NR, .int .i64 NC, .slice (some ⟨w5.heap.size, 0, none⟩) 0 0]
          simp only [World.size_alloc] at hbx
          have own0 : OwnF ((w5.alloc (.cells #[] 26)).alloc (.cells #[.int .i64 NR, .int .i64 NC, .slice (some ⟨w5.heap.size, 0, none⟩) 0 0] 48)) w.heap.size (some ⟨w5.heap.size, 0, none⟩) 0 [] :=
            OwnF.kept ⟨World.ownsRow_made w5 #[] 0 B_5.out.size (by decide) rfl, fun _ h => by cases h⟩ ((Below.refl _ _).alloc (Nat.le_refl _) _)
          have HCI := Lib.hid (show CIm (imgF z0 z1 C KR KC NC) NR NC 0 (w5.heap.size + 1) #[.int .i64 (R : Int), .int .i64 (C : Int), .slice a0 z0.length z0.length] #[.int .i64 (KR : Int), .int .i64 (KC : Int), .slice a1 z1.length z1.length] w ((w5.alloc (.cells #[] 26)).alloc (.cells #[.int .i64 NR, .int .i64 NC, .slice (some ⟨w5.heap.size, 0, none⟩) 0 0] 48)) from
            ⟨_, 0, [], by omega, rfl, hbx, own0, rfl, Below.next B_5.out bl, K_5.out.below bl, L_5.out.below bl, Q_5.out.below bl⟩)
          obtain ⟨gb, hgb⟩ : ∃ gb, w5.heap.size + 1 = gb := ⟨_, rfl⟩
          rw [hgb] at HCI
          simp only [hgb]
          clear bl hbx own0 hgb g3 pK0 pK1 pK2 pK3 pL0 pL1 pL2 pL3 pQ0 pQ1 pQ2 pQ3 fq0 fq1 fq2 hNR hNC B_5 K_5 L_5 Q_5
          generalize (w5.alloc (.cells #[] 26)).alloc (.cells #[.int .i64 NR, .int .i64 NC, .slice (some ⟨w5.heap.size, 0, none⟩) 0 0] 48) = w6 at HCI ⊢
          go_loopw [7] (fun i wr => ∃ k : Nat, k ≤ NR ∧ i = .int .i64 k ∧ CIm (imgF z0 z1 C KR KC NC) NR NC (k * NC) gb #[.int .i64 (R : Int), .int .i64 (C : Int), .slice a0 z0.length z0.length] #[.int .i64 (KR : Int), .int .i64 (KC : Int), .slice a1 z1.length z1.length] w wr) (fun i _ => NR - (intOf i).toNat)
          case atStart => exact ⟨0, Nat.zero_le _, rfl, by rw [Nat.zero_mul]; exact HCI.out⟩
          case round =>
            obtain ⟨i, hi, rfl, hci⟩ := hrel
            have HCI1 := Lib.hid hci
            have hi0 : (0 : Int) ≤ (i : Int) := by omega
            obtain ⟨b, cp, ys, hgb, hy, hb, ho, he, hl, kA, kB, kQ⟩ := hci
            by_cases hlt : i < NR
            · have hlt' : (i : Int) < (NR : Int) := by omega
              obtain ⟨q0, q1, q2, q3⟩ := tb hb
              obtain ⟨wo, hwo⟩ : ∃ wo : World, wo = wr := ⟨_, rfl⟩
              subst hwo
              clear hy hb ho he hl kA kB kQ
              go_wp2_with fail
              clear q0 q1 q2 q3
              go_loopw [8] (fun kk wq => ∃ k : Nat, k ≤ NC ∧ kk = .int .i64 k ∧ CIm (imgF z0 z1 C KR KC NC) NR NC (i * NC + k) gb #[.int .i64 (R : Int), .int .i64 (C : Int), .slice a0 z0.length z0.length] #[.int .i64 (KR : Int), .int .i64 (KC : Int), .slice a1 z1.length z1.length] w wq) (fun kk _ => NC - (intOf kk).toNat)
              case atStart => exact ⟨0, Nat.zero_le _, rfl, by rw [Nat.add_zero]; exact HCI1.out⟩
              case round =>
                obtain ⟨k, hk, rfl, b, cp, ys, hgb, hy, hb, ho, he, hl, kA, kB, kQ⟩ := hrel
                have hk0 : (0 : Int) ≤ (k : Int) := by omega
                have HB := Lib.hid hb
                have HO := Lib.hid ho
                have HE := Lib.hid he
                have HL := Lib.hid hl
                have HY := Lib.hid hy
                have KA := Lib.hid kA
                have KB := Lib.hid kB
                have KQ := Lib.hid kQ
                obtain ⟨q0, q1, q2, q3⟩ := tb hb
                clear hb ho he hl hy kA kB kQ
                by_cases hlk : k < NC
                · have hlk' : (k : Int) < (NC : Int) := by omega
                  have hfi : i + KR ≤ R := by have := HNR.out; omega
                  have hfk : k + KC ≤ C := by have := HNC.out; omega
                  have HYL := Lib.hid (partZ_length (z := z0) (left := k) (cc := KC) a4' a2' hfi hfk HN.out KR (Nat.le_refl _))
                  have HYG := Lib.hid (fun i' j' (hi' : i' < KR) (hj' : j' < KC) => partZ_getD (z := z0) a4' a2' hfi hfk HN.out (i := i') (j := j') hj' KR (Nat.le_refl _) hi')
                  obtain ⟨Y, hYY⟩ : ∃ Y, partZ z0 C i k KC KR = Y := ⟨_, rfl⟩
                  have HVF := Lib.hid (show imgF z0 z1 C KR KC NC (i * NC + k) = cdot z1 Y by
                    unfold imgF
                    rw [show (i * NC + k) / NC = i by rw [Nat.mul_comm, Nat.mul_add_div (by omega), Nat.div_eq_of_lt hlk, Nat.add_zero], show (i * NC + k) % NC = k by rw [Nat.mul_comm, Nat.mul_add_mod, Nat.mod_eq_of_lt hlk], hYY])
                  rw [hYY] at HYL HYG
                  clear hYY
                  obtain ⟨wk, hwk⟩ : ∃ wk : World, wk = wr := ⟨_, rfl⟩
                  subst hwk
                  go_wp2_with fail
                  clear q0 q1 q2 q3
                  go_loopw [9, 10] (fun s j wq => ImgRel z1 Y KR KC wk s j wq) (fun _ j _ => KR - (intOf j).toNat)
                  case atStart => exact ⟨0, 0, 0, 0, by rw [Nat.zero_mul], Nat.zero_le _, rfl, rfl, by rw [canon_zero]; rfl, by decide, rfl⟩
                  case round =>
                    obtain ⟨u, rr, m, q, hq, hu, rfl, rfl, hr, hr2, rfl⟩ := hrel
                    have HQ := Lib.hid hq
                    have HRC := Lib.hid hr
                    have HR2 := Lib.hid hr2
                    have hu0 : (0 : Int) ≤ (u : Int) := by omega
                    obtain ⟨l0, l1, l2, l3⟩ := tb KB.out
                    clear hq hr hr2
                    by_cases hlu : u < KR
                    · have hlu' : (u : Int) < (KR : Int) := by omega
                      go_wp2_with fail
                      clear l0 l1 l2 l3
                      go_loopw [9, 11] (fun s j wq => InImgRel z1 Y q KC wk s j wq) (fun _ j _ => KC - (intOf j).toNat)
                      case atStart => exact ⟨0, rr, m, Nat.zero_le _, rfl, rfl, HRC.out, HR2.out, rfl⟩
                      case round =>
                        obtain ⟨v, rv, m2, hv, rfl, rfl, hr, hr2, rfl⟩ := hrel
                        have HRV := Lib.hid hr
                        have HRV2 := Lib.hid hr2
                        have hv0 : (0 : Int) ≤ (v : Int) := by omega
                        obtain ⟨l0, l1, l2, l3⟩ := tb KB.out
                        clear hr hr2
                        by_cases hlv : v < KC
                        · have hlv' : (v : Int) < (KC : Int) := by omega
                          obtain ⟨f1, f2⟩ := flat_lt HM.out hlu hlv
                          obtain ⟨g1, g2, g3, g4⟩ := part_fits a4' a2' hfi hfk HN.out hlu
                          have hz1l : z1.length ≤ 256 := by rw [HM.out]; exact small_mul (by omega) (by omega)
                          have hone := cdot_one (xs := z1) (ys := Y) (k := q + v) (r := rv) (by rw [← HQ.out]; exact f1) (by rw [HYL.out, ← HQ.out, ← HM.out]; exact f1) HRV.out
                          have hyg := HYG.out u v hlu hlv
                          rw [HQ.out] at hyg f1 f2
                          obtain ⟨P, hP⟩ : ∃ P, (i + u) * C = P := ⟨_, rfl⟩
                          rw [hP] at hyg g1 g3 g4
                          rw [hyg] at hone
                          obtain ⟨l0', l1', l2', l3'⟩ := tb KA.out
                          rcases HA.out.2.2.2.2 with h' | ⟨ab, off, rfl, hab, hcell⟩
                          · omega
                          rcases HBB.out.2.2.2.2 with h' | ⟨ab', off', rfl, hab', hcell'⟩
                          · omega
                          have c1 : wk.cell? ⟨ab', off' + (q + v), none⟩ = some (.float .f32 (z1.getD (q + v) 0)) := (HL.out.cell (p := ⟨ab', off' + (q + v), none⟩) hab').trans (hcell' (q + v) f1)
                          have c2 : wk.cell? ⟨ab, off + (P + k + v), none⟩ = some (.float .f32 (z0.getD (P + k + v) 0)) := (HL.out.cell (p := ⟨ab, off + (P + k + v), none⟩) hab).trans (hcell (P + k + v) (by omega))
                          obtain ⟨x, hx⟩ : ∃ x, z1.getD (q + v) 0 = x := ⟨_, rfl⟩
                          obtain ⟨y, hy⟩ : ∃ x, z0.getD (P + k + v) 0 = x := ⟨_, rfl⟩
                          rw [hx] at c1 hone
                          rw [hy] at c2 hone
                          have HST := Lib.hid hone
                          have j1 : (q : Int) + (v : Int) < (z1.length : Int) := by omega
                          have j2 : (0 : Int) ≤ (q : Int) + (v : Int) := by omega
                          have j3 : (P : Int) + (k : Int) + (v : Int) < (z0.length : Int) := by omega
                          have j4 : (0 : Int) ≤ (P : Int) + (k : Int) + (v : Int) := by omega
                          have hqi : (u : Int) * (KC : Int) = (q : Int) := by rw [← HQ.out]; exact (Int.natCast_mul u KC).symm
                          have x1 : IntKind.i64.wrap ((u : Int) * (KC : Int)) = (q : Int) := by rw [hqi]; exact IntWalk.i64_in _ (by omega)
                          have x2 : IntKind.i64.wrap ((q : Int) + (v : Int)) = (q : Int) + (v : Int) := IntWalk.i64_in _ (by omega)
                          have x3 : ((q : Int) + (v : Int)).toNat = q + v := by omega
                          have x4 : IntKind.i64.wrap ((i : Int) + (u : Int)) = (i : Int) + (u : Int) := IntWalk.i64_in _ (by omega)
                          have x5 : IntKind.i64.wrap (((i : Int) + (u : Int)) * (C : Int)) = (P : Int) := by rw [g3]; exact IntWalk.i64_in _ (by omega)
                          have x6 : IntKind.i64.wrap ((P : Int) + (k : Int)) = (P : Int) + (k : Int) := IntWalk.i64_in _ (by omega)
                          have x7 : IntKind.i64.wrap ((P : Int) + (k : Int) + (v : Int)) = (P : Int) + (k : Int) + (v : Int) := IntWalk.i64_in _ (by omega)
                          have x8 : ((P : Int) + (k : Int) + (v : Int)).toNat = P + k + v := by omega
                          clear hcell hcell' hP hx hy f1 f2 g1 g2 g3 g4 hone hyg hqi hz1l
                          obtain ⟨wd, hwd⟩ : ∃ wd, wk.drewN m2 = wd := ⟨_, rfl⟩
                          have HWD := Lib.hid hwd
                          have l1 : wd.cell? ⟨w.heap.size + 1, 1, none⟩ = some (.int .i64 (KC : Int)) := by rw [← hwd]; exact l1
                          have l2 : wd.cell? ⟨w.heap.size + 1, 2, none⟩ = some (.slice (some ⟨ab', off', none⟩) z1.length z1.length) := by rw [← hwd]; exact l2
                          have l1' : wd.cell? ⟨w.heap.size, 1, none⟩ = some (.int .i64 (C : Int)) := by rw [← hwd]; exact l1'
                          have l2' : wd.cell? ⟨w.heap.size, 2, none⟩ = some (.slice (some ⟨ab, off, none⟩) z0.length z0.length) := by rw [← hwd]; exact l2'
                          have c1 : wd.cell? ⟨ab', off' + (q + v), none⟩ = some (.float .f32 x) := by rw [← hwd]; exact c1
                          have c2 : wd.cell? ⟨ab, off + (P + k + v), none⟩ = some (.float .f32 y) := by rw [← hwd]; exact c2
                          rw [hwd]
                          clear hwd l0 l0' l3 l3'
                          go_wp2_with fail
                          go_region
                          clear x1 x2 x3 x4 x5 x6 x7 x8 j1 j2 j3 j4 l1 l2 l1' l2' c1 c2
                          go_wp2_with fail
                          go_roundw
                          case rel => exact ⟨v + 1, _, _, by omega, by go_num, rfl, HST.out _ _, fval_lt .add .f32 _ _ _, by rw [← HWD.out]; exact World.drewN_drewN _ _ _⟩
                          case measure => simp [intOf]; omega
                        · obtain rfl : v = KC := by omega
                          go_wp2_with fail
                          go_roundw
                          case rel => exact ⟨u + 1, rv, m2, q + v, by rw [Nat.add_mul, Nat.one_mul, HQ.out], by omega, by go_num, rfl, HRV.out, HRV2.out, rfl⟩
                          case measure => simp [intOf]; omega
                    · obtain rfl : u = KR := by omega
                      have A4 := Lib.hid (show canon .f32 rr = imgF z0 z1 C u KC NC (i * NC + k) by
                        rw [HVF.out, HRC.out, List.take_of_length_le (by rw [HM.out, HQ.out]; exact Nat.le_refl _), List.take_of_length_le (by rw [HYL.out, HQ.out]; exact Nat.le_refl _)])
                      have HYn := Lib.hid (show ys.length < 256 by
                        rw [HY.out]
                        have e1 : (i + 1) * NC ≤ NR * NC := Nat.mul_le_mul_right NC hlt
                        have e2 : (i + 1) * NC = i * NC + NC := by rw [Nat.add_mul, Nat.one_mul]
                        have e3 : NR * NC ≤ 256 := small_mul hNR2 hNC2
                        omega)
                      have A1 := Lib.hid (show ys.length + 1 ≤ maxLen by have := HYn.out; unfold maxLen; omega)
                      have A2 := Lib.hid (show (ys.length + 1) * 4 ≤ 140737488355328 by have := HYn.out; omega)
                      have A3 := Lib.hid HL.out.size
                      obtain ⟨q0, q1, q2, q3⟩ := tb HB.out
                      go_wp2_with (at_builtin; refine wpList_append_any _ rfl (.tmp 99) (.tmp 101) 38 rfl w.heap.size 26 i0 (.float .f32 0) 1 4 Try.underlying38 JI.out HZ0.out HZ1.out HZ2.out rfl Nat.one_pos (.slice b ys.length cp) ys.length (ys.map (Value.float .f32)) rfl (made_own HO.out) (wk.heap.size + 1) (some ⟨wk.heap.size, 0, none⟩) 1 1 [.float .f32 rr] rfl made_reads (one_f32 _) A1.out A2.out (made_base A3.out) ?_)
                      intro v' w' hown hgr hat
                      obtain ⟨a', c', rfl⟩ := ownsRow_slice hown
                      obtain ⟨⟨s1, s2⟩, hmade⟩ := ci_app hgb HB.out HO.out HL.out KA.out KB.out KQ.out HE.out HY.out HR2.out A4.out hown hgr
                      have HMD3 := Lib.hid hmade
                      clear hown hgr hat hmade q0 q1 q2 q3 l0 l1 l2 l3
                      go_wp2_with fail
                      go_roundw
                      case rel => first | exact ⟨k + 1, by omega, by go_num, HMD3.out⟩ | ((repeat apply Exists.intro); exact ⟨⟨k + 1, by omega, by go_num, HMD3.out⟩, rfl⟩)
                      case measure => simp [intOf]; omega
                · obtain rfl : k = NC := by omega
                  have HMD2 := Lib.hid (show CIm (imgF z0 z1 C KR KC k) NR k ((i + 1) * k) gb #[.int .i64 (R : Int), .int .i64 (C : Int), .slice a0 z0.length z0.length] #[.int .i64 (KR : Int), .int .i64 (KC : Int), .slice a1 z1.length z1.length] w wr by rw [Nat.add_mul, Nat.one_mul]; exact ⟨b, cp, ys, hgb, HY.out, HB.out, HO.out, HE.out, HL.out, KA.out, KB.out, KQ.out⟩)
                  go_wp2_with fail
                  go_roundw
                  case rel => exact ⟨i + 1, by omega, by go_num, HMD2.out⟩
                  case measure => simp [intOf]; omega
            · obtain rfl : i = NR := by omega
              have HO := Lib.hid ho
              have HE := Lib.hid (he.trans HVAL.out)
              have HL := Lib.hid hl
              have KQ := Lib.hid kQ
              obtain ⟨q0, q1, q2, q3⟩ := tb hb
              obtain ⟨v0, v1, v2, v3⟩ := tb kQ
              obtain ⟨e0, e1, e2⟩ := tbf kQ
              clear hy hb ho he hl kA kB kQ
              go_wp2_with fail
              exact bodyPost_ret (v := .tuple #[.agg #[.int .i64 i, .int .i64 NC, .slice b ys.length cp], .bool true]) (by simp [results, Try.results19, go_sem, v0, v1, v2]) rfl ⟨b, cp, ys, rfl, HO.out.off (store3 KQ.out).2 KQ.out (by decide), HE.out, ((HL.out.setCell (by simp; omega) _).setCell (by simp; omega) _).setCell (by simp; omega) _⟩
end Go.Proofs.Ytlddonneccihiaa
