/-
  What ConvolveImage returns, as the model and as the program make it. Conditions: the numbers can be read.
-/
import Derived.Test.YtlddonneccihiaaTConvRow
namespace Go.Proofs.Ytlddonneccihiaa
open Go.RowKit Go.Deep Go.WideShapes Go.ChangeShapes
set_option linter.unusedVariables false

def okImg (r c r' c' : Int) (n n' : Nat) : Bool := ((vokB r c n && vokB r' c' n') && decide (r' ≤ r)) && decide (c' ≤ c)
def imgF (z zk : List Nat) (C KR KC NC p : Nat) : Nat := cdot zk (partZ z C (p / NC) (p % NC) KC KR)
def vConvolveImage (r c : Int) (z : List Nat) (r' c' : Int) (zk : List Nat) : Int × Int × Bool × List Nat :=
  if okImg r c r' c' z.length zk.length = true then (r - r' + 1, c - c' + 1, true, (List.range ((r - r' + 1).toNat * (c - c' + 1).toNat)).map (imgF z zk c.toNat r'.toNat c'.toNat (c - c' + 1).toNat)) else (0, 0, false, [])
theorem vImg_no {r c r' c' : Int} {z zk : List Nat} (h : okImg r c r' c' z.length zk.length = false) : vConvolveImage r c z r' c' zk = (0, 0, false, []) := by unfold vConvolveImage; rw [if_neg (by rw [h]; decide)]
theorem img_nat {r c r' c' : Int} {n n' : Nat} (h : okImg r c r' c' n n' = true) : ∃ R C KR KC : Nat, r = R ∧ c = C ∧ r' = KR ∧ c' = KC ∧ 1 ≤ R ∧ R ≤ 16 ∧ 1 ≤ C ∧ C ≤ 16 ∧ 1 ≤ KR ∧ KR ≤ R ∧ 1 ≤ KC ∧ KC ≤ C ∧ n = R * C ∧ n' = KR * KC := by
  simp only [okImg, Bool.and_eq_true, decide_eq_true_eq] at h
  obtain ⟨⟨⟨h1, h2⟩, h3⟩, h4⟩ := h
  obtain ⟨R, C, rfl, rfl, a1, a2, a3, a4, a5⟩ := vok_nat h1
  obtain ⟨R', C', rfl, rfl, b1, b2, b3, b4, b5⟩ := vok_nat h2
  exact ⟨R, C, R', C', rfl, rfl, rfl, rfl, a1, a2, a3, a4, b1, by omega, b3, by omega, a5, b5⟩
theorem vImg_yes {R C KR KC NR NC : Nat} {z zk : List Nat} (h : okImg R C KR KC z.length zk.length = true) (h1 : (R : Int) - (KR : Int) + 1 = (NR : Int)) (h2 : (C : Int) - (KC : Int) + 1 = (NC : Int)) :
    vConvolveImage R C z KR KC zk = ((NR : Int), (NC : Int), true, (List.range (NR * NC)).map (imgF z zk C KR KC NC)) := by
  unfold vConvolveImage; rw [if_pos h, h1, h2]; simp
theorem vConvolveImage_len (r c : Int) (z : List Nat) (r' c' : Int) (zk : List Nat) : (vConvolveImage r c z r' c' zk).2.2.2.length ≤ 1048576 := by
  cases h : okImg r c r' c' z.length zk.length with
  | false => rw [vImg_no h]; simp
  | true =>
    obtain ⟨R, C, KR, KC, rfl, rfl, rfl, rfl, h1, h2, h3, h4, h5, h6, h7, h8, _⟩ := img_nat h
    rw [vImg_yes h (NR := R - KR + 1) (NC := C - KC + 1) (by omega) (by omega)]
    have := Nat.mul_le_mul (show R - KR + 1 ≤ 16 by omega) (show C - KC + 1 ≤ 16 by omega)
    simp; omega
theorem steps_img {R KR NR : Nat} (h : (R : Int) - (KR : Int) + 1 = (NR : Int)) (h1 : KR ≤ R) : steps R KR 1 = NR := by unfold steps; rw [Nat.div_one]; omega
theorem img_same (z zk : List Nat) (C KR KC NR NC : Nat) : (List.range (NR * NC)).map (partsF (fun top left => cdot zk (partZ z C top left KC KR)) 1 NC) = (List.range (NR * NC)).map (imgF z zk C KR KC NC) := by
  refine List.map_congr_left fun p _ => ?_
  unfold partsF imgF
  rw [Nat.mul_one, Nat.mul_one]
theorem partZ_getD {z : List Nat} {R C top left rr cc : Nat} (hC : C ≤ 16) (hR : R ≤ 16) (h1 : top + rr ≤ R) (h2 : left + cc ≤ C) (hn : z.length = R * C) {i j : Nat} (hj : j < cc) :
    ∀ k, k ≤ rr → i < k → (partZ z C top left cc k).getD (i * cc + j) 0 = z.getD ((top + i) * C + left + j) 0 := by
  intro k
  induction k with
  | zero => intro _ h; omega
  | succ k ih =>
    intro hk hi
    have hl := partZ_length (z := z) (left := left) (cc := cc) hC hR h1 h2 hn k (by omega)
    rw [partZ_succ]
    by_cases hik : i < k
    · have e1 : (i + 1) * cc ≤ k * cc := Nat.mul_le_mul_right cc hik
      have e2 : (i + 1) * cc = i * cc + cc := by rw [Nat.add_mul, Nat.one_mul]
      have := ih (by omega) hik
      simp only [List.getD] at this ⊢
      rw [List.getElem?_append_left (by rw [hl]; omega)]
      exact this
    · obtain rfl : i = k := by omega
      simp only [List.getD]
      rw [List.getElem?_append_right (by rw [hl]; omega), hl, Nat.add_sub_cancel_left, List.getElem?_take_of_lt hj, List.getElem?_drop]
set_option maxRecDepth 20000 in
set_option maxHeartbeats 2000000 in
theorem t_iConvolveImage (r c : Int) (z0 : List Nat) (r' c' : Int) (z1 : List Nat) (a0 a1 : Option Addr) (w : World) (w0 : IsFloats .f32 w a0 z0.length z0.length z0) (w1 : IsFloats .f32 w a1 z1.length z1.length z1) :
    Calls Try.prog 21 #[.agg #[.int .i64 r, .int .i64 c, .slice a0 z0.length z0.length], .agg #[.int .i64 r', .int .i64 c', .slice a1 z1.length z1.length]] w (RetT (vConvolveImage r c z0 r' c' z1).1 (vConvolveImage r c z0 r' c' z1).2.1 (vConvolveImage r c z0 r' c' z1).2.2.1 (vConvolveImage r c z0 r' c' z1).2.2.2 w) := by
  have HA := Lib.hid w0
  have HBB := Lib.hid w1
  cases e1 : vokB r c z0.length with
  | false =>
    have E1 := Lib.hid e1
    have HX := Lib.hid (vImg_no (z := z0) (zk := z1) (r := r) (c := c) (r' := r') (c' := c') (by unfold okImg; rw [e1]; rfl))
    rw [HX.out]
    clear e1 w0 w1
    go_enter Try.func21, Try.ntmps21
    go_wp2_with fail
    have B_0 := Lib.hid (Below.refl w.heap.size w)
    have bl := (Below.refl (w).heap.size (w)).alloc (Nat.le_refl _) (.cells #[.int .i64 r, .int .i64 c, .slice a0 z0.length z0.length] 48)
    have hn := Blk.new (w) 48 #[.int .i64 r, .int .i64 c, .slice a0 z0.length z0.length]
    have B_1 := Lib.hid (Below.next B_0.out bl)
    clear bl B_0
    have K_1 := Lib.hid hn
    clear hn
    have bl := (Below.refl ((w).alloc (.cells #[.int .i64 r, .int .i64 c, .slice a0 z0.length z0.length] 48)).heap.size ((w).alloc (.cells #[.int .i64 r, .int .i64 c, .slice a0 z0.length z0.length] 48))).alloc (Nat.le_refl _) (.cells #[.int .i64 r', .int .i64 c', .slice a1 z1.length z1.length] 48)
    have hn := Blk.new ((w).alloc (.cells #[.int .i64 r, .int .i64 c, .slice a0 z0.length z0.length] 48)) 48 #[.int .i64 r', .int .i64 c', .slice a1 z1.length z1.length]
    simp only [World.size_alloc] at hn
    have B_2 := Lib.hid (Below.next B_1.out bl)
    have K_2 := Lib.hid (K_1.out.below bl)
    clear bl B_1 K_1
    have L_2 := Lib.hid hn
    clear hn
    have bl := (Below.refl (((w).alloc (.cells #[.int .i64 r, .int .i64 c, .slice a0 z0.length z0.length] 48)).alloc (.cells #[.int .i64 r', .int .i64 c', .slice a1 z1.length z1.length] 48)).heap.size (((w).alloc (.cells #[.int .i64 r, .int .i64 c, .slice a0 z0.length z0.length] 48)).alloc (.cells #[.int .i64 r', .int .i64 c', .slice a1 z1.length z1.length] 48))).alloc (Nat.le_refl _) (.cells #[.int .i64 0, .int .i64 0, .slice none 0 0] 48)
    have hn := Blk.new (((w).alloc (.cells #[.int .i64 r, .int .i64 c, .slice a0 z0.length z0.length] 48)).alloc (.cells #[.int .i64 r', .int .i64 c', .slice a1 z1.length z1.length] 48)) 48 #[.int .i64 0, .int .i64 0, .slice none 0 0]
    simp only [World.size_alloc] at hn
    have B_3 := Lib.hid (Below.next B_2.out bl)
    have K_3 := Lib.hid (K_2.out.below bl)
    have L_3 := Lib.hid (L_2.out.below bl)
    clear bl B_2 K_2 L_2
    have Q_3 := Lib.hid hn
    clear hn
    generalize (((w).alloc (.cells #[.int .i64 r, .int .i64 c, .slice a0 z0.length z0.length] 48)).alloc (.cells #[.int .i64 r', .int .i64 c', .slice a1 z1.length z1.length] 48)).alloc (.cells #[.int .i64 0, .int .i64 0, .slice none 0 0] 48) = w3 at B_3 K_3 L_3 Q_3 ⊢
    refine (c_iValid r c _ _ _ false E1.out _).mono ?_
    rintro e w4 ⟨rfl, bl⟩
    have B_4 := Lib.hid (Below.next B_3.out bl)
    have K_4 := Lib.hid (K_3.out.below bl)
    have L_4 := Lib.hid (L_3.out.below bl)
    have Q_4 := Lib.hid (Q_3.out.below bl)
    clear bl B_3 K_3 L_3 Q_3
    obtain ⟨pK0, pK1, pK2, pK3⟩ := tb K_4.out
    obtain ⟨pL0, pL1, pL2, pL3⟩ := tb L_4.out
    obtain ⟨pQ0, pQ1, pQ2, pQ3⟩ := tb Q_4.out
    obtain ⟨fq0, fq1, fq2⟩ := tbf Q_4.out
    go_wp2_with fail
    exact bodyPost_ret (v := .tuple #[.agg #[.int .i64 0, .int .i64 0, .slice none 0 0], .bool false]) (by simp [results, Try.results21, go_sem, pQ0, pQ1, pQ2]) rfl ⟨none, 0, [], rfl, nil_own _ _, rfl, ((B_4.out.setCell (by simp; omega) _).setCell (by simp; omega) _).setCell (by simp; omega) _⟩
  | true =>
    cases e2 : vokB r' c' z1.length with
    | false =>
      have E1 := Lib.hid e1
      have E2 := Lib.hid e2
      have HX := Lib.hid (vImg_no (z := z0) (zk := z1) (r := r) (c := c) (r' := r') (c' := c') (by unfold okImg; rw [e1, e2]; rfl))
      rw [HX.out]
      clear e1 e2 w0 w1
      go_enter Try.func21, Try.ntmps21
      go_wp2_with fail
      have B_0 := Lib.hid (Below.refl w.heap.size w)
      have bl := (Below.refl (w).heap.size (w)).alloc (Nat.le_refl _) (.cells #[.int .i64 r, .int .i64 c, .slice a0 z0.length z0.length] 48)
      have hn := Blk.new (w) 48 #[.int .i64 r, .int .i64 c, .slice a0 z0.length z0.length]
      have B_1 := Lib.hid (Below.next B_0.out bl)
      clear bl B_0
      have K_1 := Lib.hid hn
      clear hn
      have bl := (Below.refl ((w).alloc (.cells #[.int .i64 r, .int .i64 c, .slice a0 z0.length z0.length] 48)).heap.size ((w).alloc (.cells #[.int .i64 r, .int .i64 c, .slice a0 z0.length z0.length] 48))).alloc (Nat.le_refl _) (.cells #[.int .i64 r', .int .i64 c', .slice a1 z1.length z1.length] 48)
      have hn := Blk.new ((w).alloc (.cells #[.int .i64 r, .int .i64 c, .slice a0 z0.length z0.length] 48)) 48 #[.int .i64 r', .int .i64 c', .slice a1 z1.length z1.length]
      simp only [World.size_alloc] at hn
      have B_2 := Lib.hid (Below.next B_1.out bl)
      have K_2 := Lib.hid (K_1.out.below bl)
      clear bl B_1 K_1
      have L_2 := Lib.hid hn
      clear hn
      have bl := (Below.refl (((w).alloc (.cells #[.int .i64 r, .int .i64 c, .slice a0 z0.length z0.length] 48)).alloc (.cells #[.int .i64 r', .int .i64 c', .slice a1 z1.length z1.length] 48)).heap.size (((w).alloc (.cells #[.int .i64 r, .int .i64 c, .slice a0 z0.length z0.length] 48)).alloc (.cells #[.int .i64 r', .int .i64 c', .slice a1 z1.length z1.length] 48))).alloc (Nat.le_refl _) (.cells #[.int .i64 0, .int .i64 0, .slice none 0 0] 48)
      have hn := Blk.new (((w).alloc (.cells #[.int .i64 r, .int .i64 c, .slice a0 z0.length z0.length] 48)).alloc (.cells #[.int .i64 r', .int .i64 c', .slice a1 z1.length z1.length] 48)) 48 #[.int .i64 0, .int .i64 0, .slice none 0 0]
      simp only [World.size_alloc] at hn
      have B_3 := Lib.hid (Below.next B_2.out bl)
      have K_3 := Lib.hid (K_2.out.below bl)
      have L_3 := Lib.hid (L_2.out.below bl)
      clear bl B_2 K_2 L_2
      have Q_3 := Lib.hid hn
      clear hn
      generalize (((w).alloc (.cells #[.int .i64 r, .int .i64 c, .slice a0 z0.length z0.length] 48)).alloc (.cells #[.int .i64 r', .int .i64 c', .slice a1 z1.length z1.length] 48)).alloc (.cells #[.int .i64 0, .int .i64 0, .slice none 0 0] 48) = w3 at B_3 K_3 L_3 Q_3 ⊢
      refine (c_iValid r c _ _ _ true E1.out _).mono ?_
      rintro e w4 ⟨rfl, bl⟩
      have B_4 := Lib.hid (Below.next B_3.out bl)
      have K_4 := Lib.hid (K_3.out.below bl)
      have L_4 := Lib.hid (L_3.out.below bl)
      have Q_4 := Lib.hid (Q_3.out.below bl)
      clear bl B_3 K_3 L_3 Q_3
      obtain ⟨pK0, pK1, pK2, pK3⟩ := tb K_4.out
      obtain ⟨pL0, pL1, pL2, pL3⟩ := tb L_4.out
      obtain ⟨pQ0, pQ1, pQ2, pQ3⟩ := tb Q_4.out
      obtain ⟨fq0, fq1, fq2⟩ := tbf Q_4.out
      go_wp2_with fail
      clear pK0 pK1 pK2 pK3 pL0 pL1 pL2 pL3 pQ0 pQ1 pQ2 pQ3 fq0 fq1 fq2
      refine (c_iValid r' c' _ _ _ false E2.out _).mono ?_
      rintro e w5 ⟨rfl, bl⟩
      have B_5 := Lib.hid (Below.next B_4.out bl)
      have K_5 := Lib.hid (K_4.out.below bl)
      have L_5 := Lib.hid (L_4.out.below bl)
      have Q_5 := Lib.hid (Q_4.out.below bl)
      clear bl B_4 K_4 L_4 Q_4
      obtain ⟨pK0, pK1, pK2, pK3⟩ := tb K_5.out
      obtain ⟨pL0, pL1, pL2, pL3⟩ := tb L_5.out
      obtain ⟨pQ0, pQ1, pQ2, pQ3⟩ := tb Q_5.out
      obtain ⟨fq0, fq1, fq2⟩ := tbf Q_5.out
      go_wp2_with fail
      exact bodyPost_ret (v := .tuple #[.agg #[.int .i64 0, .int .i64 0, .slice none 0 0], .bool false]) (by simp [results, Try.results21, go_sem, pQ0, pQ1, pQ2]) rfl ⟨none, 0, [], rfl, nil_own _ _, rfl, ((B_5.out.setCell (by simp; omega) _).setCell (by simp; omega) _).setCell (by simp; omega) _⟩
    | true =>
      cases e3 : decide (r' ≤ r) with
      | false =>
        have E1 := Lib.hid e1
        have E2 := Lib.hid e2
        have hgt : r < r' := by have := of_decide_eq_false e3; omega
        have hgd : decide (r < r') = true := decide_eq_true hgt
        have HX := Lib.hid (vImg_no (z := z0) (zk := z1) (r := r) (c := c) (r' := r') (c' := c') (by unfold okImg; rw [e1, e2, e3]; rfl))
        rw [HX.out]
        clear e1 e2 e3 w0 w1
        go_enter Try.func21, Try.ntmps21
        go_wp2_with fail
        have B_0 := Lib.hid (Below.refl w.heap.size w)
        have bl := (Below.refl (w).heap.size (w)).alloc (Nat.le_refl _) (.cells #[.int .i64 r, .int .i64 c, .slice a0 z0.length z0.length] 48)
        have hn := Blk.new (w) 48 #[.int .i64 r, .int .i64 c, .slice a0 z0.length z0.length]
        have B_1 := Lib.hid (Below.next B_0.out bl)
        clear bl B_0
        have K_1 := Lib.hid hn
        clear hn
        have bl := (Below.refl ((w).alloc (.cells #[.int .i64 r, .int .i64 c, .slice a0 z0.length z0.length] 48)).heap.size ((w).alloc (.cells #[.int .i64 r, .int .i64 c, .slice a0 z0.length z0.length] 48))).alloc (Nat.le_refl _) (.cells #[.int .i64 r', .int .i64 c', .slice a1 z1.length z1.length] 48)
        have hn := Blk.new ((w).alloc (.cells #[.int .i64 r, .int .i64 c, .slice a0 z0.length z0.length] 48)) 48 #[.int .i64 r', .int .i64 c', .slice a1 z1.length z1.length]
        simp only [World.size_alloc] at hn
        have B_2 := Lib.hid (Below.next B_1.out bl)
        have K_2 := Lib.hid (K_1.out.below bl)
        clear bl B_1 K_1
        have L_2 := Lib.hid hn
        clear hn
        have bl := (Below.refl (((w).alloc (.cells #[.int .i64 r, .int .i64 c, .slice a0 z0.length z0.length] 48)).alloc (.cells #[.int .i64 r', .int .i64 c', .slice a1 z1.length z1.length] 48)).heap.size (((w).alloc (.cells #[.int .i64 r, .int .i64 c, .slice a0 z0.length z0.length] 48)).alloc (.cells #[.int .i64 r', .int .i64 c', .slice a1 z1.length z1.length] 48))).alloc (Nat.le_refl _) (.cells #[.int .i64 0, .int .i64 0, .slice none 0 0] 48)
        have hn := Blk.new (((w).alloc (.cells #[.int .i64 r, .int .i64 c, .slice a0 z0.length z0.length] 48)).alloc (.cells #[.int .i64 r', .int .i64 c', .slice a1 z1.length z1.length] 48)) 48 #[.int .i64 0, .int .i64 0, .slice none 0 0]
        simp only [World.size_alloc] at hn
        have B_3 := Lib.hid (Below.next B_2.out bl)
        have K_3 := Lib.hid (K_2.out.below bl)
        have L_3 := Lib.hid (L_2.out.below bl)
        clear bl B_2 K_2 L_2
        have Q_3 := Lib.hid hn
        clear hn
        generalize (((w).alloc (.cells #[.int .i64 r, .int .i64 c, .slice a0 z0.length z0.length] 48)).alloc (.cells #[.int .i64 r', .int .i64 c', .slice a1 z1.length z1.length] 48)).alloc (.cells #[.int .i64 0, .int .i64 0, .slice none 0 0] 48) = w3 at B_3 K_3 L_3 Q_3 ⊢
        refine (c_iValid r c _ _ _ true E1.out _).mono ?_
        rintro e w4 ⟨rfl, bl⟩
        have B_4 := Lib.hid (Below.next B_3.out bl)
        have K_4 := Lib.hid (K_3.out.below bl)
        have L_4 := Lib.hid (L_3.out.below bl)
        have Q_4 := Lib.hid (Q_3.out.below bl)
        clear bl B_3 K_3 L_3 Q_3
        obtain ⟨pK0, pK1, pK2, pK3⟩ := tb K_4.out
        obtain ⟨pL0, pL1, pL2, pL3⟩ := tb L_4.out
        obtain ⟨pQ0, pQ1, pQ2, pQ3⟩ := tb Q_4.out
        obtain ⟨fq0, fq1, fq2⟩ := tbf Q_4.out
        go_wp2_with fail
        clear pK0 pK1 pK2 pK3 pL0 pL1 pL2 pL3 pQ0 pQ1 pQ2 pQ3 fq0 fq1 fq2
        refine (c_iValid r' c' _ _ _ true E2.out _).mono ?_
        rintro e w5 ⟨rfl, bl⟩
        have B_5 := Lib.hid (Below.next B_4.out bl)
        have K_5 := Lib.hid (K_4.out.below bl)
        have L_5 := Lib.hid (L_4.out.below bl)
        have Q_5 := Lib.hid (Q_4.out.below bl)
        clear bl B_4 K_4 L_4 Q_4
        obtain ⟨pK0, pK1, pK2, pK3⟩ := tb K_5.out
        obtain ⟨pL0, pL1, pL2, pL3⟩ := tb L_5.out
        obtain ⟨pQ0, pQ1, pQ2, pQ3⟩ := tb Q_5.out
        obtain ⟨fq0, fq1, fq2⟩ := tbf Q_5.out
        go_wp2_with fail
        exact bodyPost_ret (v := .tuple #[.agg #[.int .i64 0, .int .i64 0, .slice none 0 0], .bool false]) (by simp [results, Try.results21, go_sem, pQ0, pQ1, pQ2]) rfl ⟨none, 0, [], rfl, nil_own _ _, rfl, ((B_5.out.setCell (by simp; omega) _).setCell (by simp; omega) _).setCell (by simp; omega) _⟩
      | true =>
        cases e4 : decide (c' ≤ c) with
        | false =>
          have E1 := Lib.hid e1
          have E2 := Lib.hid e2
          have hle : ¬ r < r' := by have := of_decide_eq_true e3; omega
          have hld : decide (r < r') = false := decide_eq_false hle
          have hgt : c < c' := by have := of_decide_eq_false e4; omega
          have hgd : decide (c < c') = true := decide_eq_true hgt
          have HX := Lib.hid (vImg_no (z := z0) (zk := z1) (r := r) (c := c) (r' := r') (c' := c') (by unfold okImg; rw [e1, e2, e3, e4]; rfl))
          rw [HX.out]
          clear e1 e2 e3 e4 w0 w1
          go_enter Try.func21, Try.ntmps21
          go_wp2_with fail
          have B_0 := Lib.hid (Below.refl w.heap.size w)
          have bl := (Below.refl (w).heap.size (w)).alloc (Nat.le_refl _) (.cells #[.int .i64 r, .int .i64 c, .slice a0 z0.length z0.length] 48)
          have hn := Blk.new (w) 48 #[.int .i64 r, .int .i64 c, .slice a0 z0.length z0.length]
          have B_1 := Lib.hid (Below.next B_0.out bl)
          clear bl B_0
          have K_1 := Lib.hid hn
          clear hn
          have bl := (Below.refl ((w).alloc (.cells #[.int .i64 r, .int .i64 c, .slice a0 z0.length z0.length] 48)).heap.size ((w).alloc (.cells #[.int .i64 r, .int .i64 c, .slice a0 z0.length z0.length] 48))).alloc (Nat.le_refl _) (.cells #[.int .i64 r', .int .i64 c', .slice a1 z1.length z1.length] 48)
          have hn := Blk.new ((w).alloc (.cells #[.int .i64 r, .int .i64 c, .slice a0 z0.length z0.length] 48)) 48 #[.int .i64 r', .int .i64 c', .slice a1 z1.length z1.length]
          simp only [World.size_alloc] at hn
          have B_2 := Lib.hid (Below.next B_1.out bl)
          have K_2 := Lib.hid (K_1.out.below bl)
          clear bl B_1 K_1
          have L_2 := Lib.hid hn
          clear hn
          have bl := (Below.refl (((w).alloc (.cells #[.int .i64 r, .int .i64 c, .slice a0 z0.length z0.length] 48)).alloc (.cells #[.int .i64 r', .int .i64 c', .slice a1 z1.length z1.length] 48)).heap.size (((w).alloc (.cells #[.int .i64 r, .int .i64 c, .slice a0 z0.length z0.length] 48)).alloc (.cells #[.int .i64 r', .int .i64 c', .slice a1 z1.length z1.length] 48))).alloc (Nat.le_refl _) (.cells #[.int .i64 0, .int .i64 0, .slice none 0 0] 48)
          have hn := Blk.new (((w).alloc (.cells #[.int .i64 r, .int .i64 c, .slice a0 z0.length z0.length] 48)).alloc (.cells #[.int .i64 r', .int .i64 c', .slice a1 z1.length z1.length] 48)) 48 #[.int .i64 0, .int .i64 0, .slice none 0 0]
          simp only [World.size_alloc] at hn
          have B_3 := Lib.hid (Below.next B_2.out bl)
          have K_3 := Lib.hid (K_2.out.below bl)
          have L_3 := Lib.hid (L_2.out.below bl)
          clear bl B_2 K_2 L_2
          have Q_3 := Lib.hid hn
          clear hn
          generalize (((w).alloc (.cells #[.int .i64 r, .int .i64 c, .slice a0 z0.length z0.length] 48)).alloc (.cells #[.int .i64 r', .int .i64 c', .slice a1 z1.length z1.length] 48)).alloc (.cells #[.int .i64 0, .int .i64 0, .slice none 0 0] 48) = w3 at B_3 K_3 L_3 Q_3 ⊢
          refine (c_iValid r c _ _ _ true E1.out _).mono ?_
          rintro e w4 ⟨rfl, bl⟩
          have B_4 := Lib.hid (Below.next B_3.out bl)
          have K_4 := Lib.hid (K_3.out.below bl)
          have L_4 := Lib.hid (L_3.out.below bl)
          have Q_4 := Lib.hid (Q_3.out.below bl)
          clear bl B_3 K_3 L_3 Q_3
          obtain ⟨pK0, pK1, pK2, pK3⟩ := tb K_4.out
          obtain ⟨pL0, pL1, pL2, pL3⟩ := tb L_4.out
          obtain ⟨pQ0, pQ1, pQ2, pQ3⟩ := tb Q_4.out
          obtain ⟨fq0, fq1, fq2⟩ := tbf Q_4.out
          go_wp2_with fail
          clear pK0 pK1 pK2 pK3 pL0 pL1 pL2 pL3 pQ0 pQ1 pQ2 pQ3 fq0 fq1 fq2
          refine (c_iValid r' c' _ _ _ true E2.out _).mono ?_
          rintro e w5 ⟨rfl, bl⟩
          have B_5 := Lib.hid (Below.next B_4.out bl)
          have K_5 := Lib.hid (K_4.out.below bl)
          have L_5 := Lib.hid (L_4.out.below bl)
          have Q_5 := Lib.hid (Q_4.out.below bl)
          clear bl B_4 K_4 L_4 Q_4
          obtain ⟨pK0, pK1, pK2, pK3⟩ := tb K_5.out
          obtain ⟨pL0, pL1, pL2, pL3⟩ := tb L_5.out
          obtain ⟨pQ0, pQ1, pQ2, pQ3⟩ := tb Q_5.out
          obtain ⟨fq0, fq1, fq2⟩ := tbf Q_5.out
          go_wp2_with fail
          exact bodyPost_ret (v := .tuple #[.agg #[.int .i64 0, .int .i64 0, .slice none 0 0], .bool false]) (by simp [results, Try.results21, go_sem, pQ0, pQ1, pQ2]) rfl ⟨none, 0, [], rfl, nil_own _ _, rfl, ((B_5.out.setCell (by simp; omega) _).setCell (by simp; omega) _).setCell (by simp; omega) _⟩
        | true =>
          have hok : okImg r c r' c' z0.length z1.length = true := by unfold okImg; rw [e1, e2, e3, e4]; rfl
          obtain ⟨R, C, KR, KC, rfl, rfl, rfl, rfl, a1', a2', a3', a4', b1, b2, b3, b4, hn, hm⟩ := img_nat hok
          obtain ⟨NR, hNR⟩ : ∃ NR : Nat, (R : Int) - (KR : Int) + 1 = (NR : Int) := ⟨R - KR + 1, by omega⟩
          obtain ⟨NC, hNC⟩ : ∃ NC : Nat, (C : Int) - (KC : Int) + 1 = (NC : Int) := ⟨C - KC + 1, by omega⟩
          have E1 := Lib.hid e1
          have E2 := Lib.hid e2
          have HN := Lib.hid hn
          have HM := Lib.hid hm
          have HX := Lib.hid (vImg_yes hok hNR hNC)
          rw [HX.out]
          obtain ⟨vals, hvals⟩ : ∃ vals, (List.range (NR * NC)).map (imgF z0 z1 C KR KC NC) = vals := ⟨_, rfl⟩
          have HVAL := Lib.hid hvals
          rw [hvals]
          have hle : ¬ (R : Int) < (KR : Int) := by omega
          have hld : decide ((R : Int) < (KR : Int)) = false := decide_eq_false hle
          have hle2 : ¬ (C : Int) < (KC : Int) := by omega
          have hld2 : decide ((C : Int) < (KC : Int)) = false := decide_eq_false hle2
          have hln : ¬ R < KR := by omega
          have hlnd : decide (R < KR) = false := decide_eq_false hln
          have hln2 : ¬ C < KC := by omega
          have hlnd2 : decide (C < KC) = false := decide_eq_false hln2
          have HNR := Lib.hid hNR
          have HNC := Lib.hid hNC
          clear e1 e2 e3 e4 w0 w1 hok hn hm hvals hNR hNC
          go_enter Try.func21, Try.ntmps21
          go_wp2_with fail
          have B_0 := Lib.hid (Below.refl w.heap.size w)
          have bl := (Below.refl (w).heap.size (w)).alloc (Nat.le_refl _) (.cells #[.int .i64 (R : Int), .int .i64 (C : Int), .slice a0 z0.length z0.length] 48)
          have hn := Blk.new (w) 48 #[.int .i64 (R : Int), .int .i64 (C : Int), .slice a0 z0.length z0.length]
          have B_1 := Lib.hid (Below.next B_0.out bl)
          clear bl B_0
          have K_1 := Lib.hid hn
          clear hn
          have bl := (Below.refl ((w).alloc (.cells #[.int .i64 (R : Int), .int .i64 (C : Int), .slice a0 z0.length z0.length] 48)).heap.size ((w).alloc (.cells #[.int .i64 (R : Int), .int .i64 (C : Int), .slice a0 z0.length z0.length] 48))).alloc (Nat.le_refl _) (.cells #[.int .i64 (KR : Int), .int .i64 (KC : Int), .slice a1 z1.length z1.length] 48)
          have hn := Blk.new ((w).alloc (.cells #[.int .i64 (R : Int), .int .i64 (C : Int), .slice a0 z0.length z0.length] 48)) 48 #[.int .i64 (KR : Int), .int .i64 (KC : Int), .slice a1 z1.length z1.length]
          simp only [World.size_alloc] at hn
          have B_2 := Lib.hid (Below.next B_1.out bl)
          have K_2 := Lib.hid (K_1.out.below bl)
          clear bl B_1 K_1
          have L_2 := Lib.hid hn
          clear hn
          have bl := (Below.refl (((w).alloc (.cells #[.int .i64 (R : Int), .int .i64 (C : Int), .slice a0 z0.length z0.length] 48)).alloc (.cells #[.int .i64 (KR : Int), .int .i64 (KC : Int), .slice a1 z1.length z1.length] 48)).heap.size (((w).alloc (.cells #[.int .i64 (R : Int), .int .i64 (C : Int), .slice a0 z0.length z0.length] 48)).alloc (.cells #[.int .i64 (KR : Int), .int .i64 (KC : Int), .slice a1 z1.length z1.length] 48))).alloc (Nat.le_refl _) (.cells #[.int .i64 0, .int .i64 0, .slice none 0 0] 48)
          have hn := Blk.new (((w).alloc (.cells #[.int .i64 (R : Int), .int .i64 (C : Int), .slice a0 z0.length z0.length] 48)).alloc (.cells #[.int .i64 (KR : Int), .int .i64 (KC : Int), .slice a1 z1.length z1.length] 48)) 48 #[.int .i64 0, .int .i64 0, .slice none 0 0]
          simp only [World.size_alloc] at hn
          have B_3 := Lib.hid (Below.next B_2.out bl)
          have K_3 := Lib.hid (K_2.out.below bl)
          have L_3 := Lib.hid (L_2.out.below bl)
          clear bl B_2 K_2 L_2
          have Q_3 := Lib.hid hn
          clear hn
          generalize (((w).alloc (.cells #[.int .i64 (R : Int), .int .i64 (C : Int), .slice a0 z0.length z0.length] 48)).alloc (.cells #[.int .i64 (KR : Int), .int .i64 (KC : Int), .slice a1 z1.length z1.length] 48)).alloc (.cells #[.int .i64 0, .int .i64 0, .slice none 0 0] 48) = w3 at B_3 K_3 L_3 Q_3 ⊢
          refine (c_iValid (R : Int) (C : Int) _ _ _ true E1.out _).mono ?_
          rintro e w4 ⟨rfl, bl⟩
          have B_4 := Lib.hid (Below.next B_3.out bl)
          have K_4 := Lib.hid (K_3.out.below bl)
          have L_4 := Lib.hid (L_3.out.below bl)
          have Q_4 := Lib.hid (Q_3.out.below bl)
          clear bl B_3 K_3 L_3 Q_3
          obtain ⟨pK0, pK1, pK2, pK3⟩ := tb K_4.out
          obtain ⟨pL0, pL1, pL2, pL3⟩ := tb L_4.out
          obtain ⟨pQ0, pQ1, pQ2, pQ3⟩ := tb Q_4.out
          obtain ⟨fq0, fq1, fq2⟩ := tbf Q_4.out
          go_wp2_with fail
          clear pK0 pK1 pK2 pK3 pL0 pL1 pL2 pL3 pQ0 pQ1 pQ2 pQ3 fq0 fq1 fq2
          refine (c_iValid (KR : Int) (KC : Int) _ _ _ true E2.out _).mono ?_
          rintro e w5 ⟨rfl, bl⟩
          have B_5 := Lib.hid (Below.next B_4.out bl)
          have K_5 := Lib.hid (K_4.out.below bl)
          have L_5 := Lib.hid (L_4.out.below bl)
          have Q_5 := Lib.hid (Q_4.out.below bl)
          clear bl B_4 K_4 L_4 Q_4
          obtain ⟨pK0, pK1, pK2, pK3⟩ := tb K_5.out
          obtain ⟨pL0, pL1, pL2, pL3⟩ := tb L_5.out
          obtain ⟨pQ0, pQ1, pQ2, pQ3⟩ := tb Q_5.out
          obtain ⟨fq0, fq1, fq2⟩ := tbf Q_5.out
          go_wp2_with fail
          clear pK0 pK1 pK2 pK3 pL0 pL1 pL2 pL3 pQ0 pQ1 pQ2 pQ3 fq0 fq1 fq2
          have SR := steps_img HNR.out b2
          have SN := steps_img HNC.out b4
          have CC := c_convolve R C KR KC a0 a1 z0.length z0.length z1.length z1.length z0 z1 1 w5 (HA.out.kept B_5.out) (HBB.out.kept B_5.out) HN.out HM.out.symm a2' a4' b1 b3 b2 b4 (Nat.le_refl _) (by decide)
          rw [SR, SN, img_same] at CC
          refine CC.mono ?_
          clear CC SR SN
          rintro e w6 ⟨b, cc, ys, rfl, hf, hy, bl⟩
          have HW := Lib.hid (hf.base (B' := w.heap.size) B_5.out.size)
          have HY := Lib.hid (hy.trans HVAL.out)
          clear hf hy
          have B_6 := Lib.hid (Below.next B_5.out bl)
          have K_6 := Lib.hid (K_5.out.below bl)
          have L_6 := Lib.hid (L_5.out.below bl)
          have Q_6 := Lib.hid (Q_5.out.below bl)
          clear bl B_5 K_5 L_5 Q_5
          obtain ⟨pK0, pK1, pK2, pK3⟩ := tb K_6.out
          obtain ⟨pL0, pL1, pL2, pL3⟩ := tb L_6.out
          obtain ⟨pQ0, pQ1, pQ2, pQ3⟩ := tb Q_6.out
          obtain ⟨fq0, fq1, fq2⟩ := tbf Q_6.out
          go_wp2_with fail
          exact bodyPost_ret (v := .tuple #[.agg #[.int .i64 NR, .int .i64 NC, .slice b ys.length cc], .bool true]) (by simp [results, Try.results21, go_sem, pQ0, pQ1, pQ2]) rfl ⟨b, cc, ys, rfl, HW.out.off (store3 Q_6.out).2 Q_6.out (by decide), HY.out, ((B_6.out.setCell (by simp; omega) _).setCell (by simp; omega) _).setCell (by simp; omega) _⟩
end Go.Proofs.Ytlddonneccihiaa
