/-
  Whole numbers of few digits as floats: their sums and products are the sums and products of the whole numbers. Conditions: as each says.
-/
import Derived.Test.YtkpcjjnaocdelaaBound
namespace Go.Proofs.Ytkpcjjnaocdelaa
open Ieee
set_option linter.unusedVariables false

theorem norm32 {N : Nat} (h0 : N ≠ 0) (h : N < 16777216) : ∃ l, N.log2 = l ∧ l ≤ 23 ∧ 8388608 ≤ N * 2 ^ (23 - l) ∧ N * 2 ^ (23 - l) < 16777216 := by
  refine ⟨N.log2, rfl, ?_, ?_, ?_⟩
  · have : N.log2 < 24 := (Nat.log2_lt h0).2 h
    omega
  · have h1 : 2 ^ N.log2 ≤ N := Nat.log2_self_le h0
    have hl : N.log2 < 24 := (Nat.log2_lt h0).2 h
    have h2 : 2 ^ N.log2 * 2 ^ (23 - N.log2) = 2 ^ 23 := by rw [← Nat.pow_add]; congr 1; omega
    have h3 := Nat.mul_le_mul_right (2 ^ (23 - N.log2)) h1
    rw [h2] at h3
    exact h3
  · have h1 : N < 2 ^ (N.log2 + 1) := Nat.lt_log2_self
    have hl : N.log2 < 24 := (Nat.log2_lt h0).2 h
    have h2 : 2 ^ (N.log2 + 1) * 2 ^ (23 - N.log2) = 2 ^ 24 := by rw [← Nat.pow_add]; congr 1; omega
    have h3 := Nat.mul_lt_mul_of_pos_right h1 (Nat.two_pow_pos (23 - N.log2))
    rw [h2] at h3
    exact h3
theorem add_small32 {l u : Nat} (h1 : l ≤ 23) (h2 : u < 16777216) : (l + 126) * 8388608 + u ≤ 2139095040 := by omega
/-- a whole number of few digits is written as it is, at whatever place its last digit stands -/
theorem nearestInt32 (s : Bool) {N t l : Nat} (h0 : N ≠ 0) (hl : N.log2 = l) (hlF : l ≤ 23) (ht : t ≤ 149) :
    Ieee.single.nearest s (N * 2 ^ t) (-(t : Int)) = Ieee.single.word s ((l + 126) * 8388608 + N * 2 ^ (23 - l)) := by
  have hp : N * 2 ^ t ≠ 0 := Nat.ne_of_gt (Nat.mul_pos (Nat.pos_of_ne_zero h0) (Nat.two_pow_pos t))
  have hlog : (N * 2 ^ t).log2 = l + t := by
    apply Nat.le_antisymm
    · have : (N * 2 ^ t).log2 < l + t + 1 := by
        rw [Nat.log2_lt hp, show l + t + 1 = (l + 1) + t by omega, Nat.pow_add]
        exact Nat.mul_lt_mul_of_pos_right (by rw [← hl]; exact Nat.lt_log2_self) (Nat.two_pow_pos t)
      omega
    · rw [Nat.le_log2 hp, Nat.pow_add]
      exact Nat.mul_le_mul_right _ (by rw [← hl]; exact Nat.log2_self_le h0)
  have hM : N * 2 ^ (23 - l) < 16777216 := by
    have h1 : N < 2 ^ (l + 1) := by rw [← hl]; exact Nat.lt_log2_self
    have h2 : 2 ^ (l + 1) * 2 ^ (23 - l) = 2 ^ 24 := by rw [← Nat.pow_add]; congr 1; omega
    have h3 := Nat.mul_lt_mul_of_pos_right h1 (Nat.two_pow_pos (23 - l))
    rw [h2] at h3
    exact h3
  unfold Format.nearest
  simp only
  rw [if_neg hp, hlog, single_least, single_frac, single_bin, single_inf]
  rw [show max (-(t : Int) + ((l + t : Nat) : Int) - ((23 : Nat) : Int)) (-149) = (l : Int) - 23 by omega]
  have hc : Toward.even.cut s ((N * 2 ^ t) <<< (-(t : Int) - ((l : Int) - 23)).toNat) ((l : Int) - 23 - -(t : Int)).toNat = N * 2 ^ (23 - l) := by
    by_cases hc : 23 ≤ l + t
    · rw [show (-(t : Int) - ((l : Int) - 23)).toNat = 0 by omega, show ((l : Int) - 23 - -(t : Int)).toNat = l + t - 23 by omega, Nat.shiftLeft_eq, Nat.pow_zero, Nat.mul_one]
      rw [show t = (23 - l) + (l + t - 23) by omega, Nat.pow_add, ← Nat.mul_assoc]
      rw [show l + ((23 - l) + (l + t - 23)) - 23 = l + t - 23 by omega]
      exact Nat.le_antisymm (cut_le s (Nat.le_refl _)) (cut_ge s (Nat.le_refl _))
    · rw [show (-(t : Int) - ((l : Int) - 23)).toNat = 23 - l - t by omega, show ((l : Int) - 23 - -(t : Int)).toNat = 0 by omega, cut_zero, Nat.shiftLeft_eq, Nat.mul_assoc, ← Nat.pow_add]
      rw [show t + (23 - l - t) = 23 - l by omega]
  rw [hc, show ((l : Int) - 23 - -149).toNat = l + 126 by omega]
  refine congrArg (Ieee.single.word s) (Nat.min_eq_left ?_)
  exact add_small32 hlF hM
theorem readInt32 (s : Bool) {l M : Nat} (hlF : l ≤ 23) (h1 : 8388608 ≤ M) (h2 : M < 16777216) :
    Ieee.single.read (Ieee.single.word s ((l + 126) * 8388608 + M)) = .number s M ((l : Int) - 23) := by
  have hr : (l + 126) * 8388608 + M < 2139095040 := by
    have : (l + 126) * 8388608 ≤ 149 * 8388608 := Nat.mul_le_mul_right _ (by omega)
    omega
  obtain ⟨m, rfl⟩ : ∃ m, M = 8388608 + m := ⟨M - 8388608, by omega⟩
  have e : (l + 126) * 8388608 + (8388608 + m) = (l + 126 + 1) * 8388608 + m := by rw [Nat.add_mul (l + 126) 1]; omega
  rw [e] at hr ⊢
  have hm : m < 8388608 := by omega
  obtain ⟨q, hq⟩ : ∃ q, l + 126 + 1 = q := ⟨_, rfl⟩
  rw [hq] at hr ⊢
  have hd : (q * 8388608 + m) / 8388608 = q := by omega
  have hmod : (q * 8388608 + m) % 8388608 = m := by omega
  have hge : ¬ q * 8388608 + m < 8388608 := by omega
  generalize hrr : q * 8388608 + m = r at hr hd hmod hge ⊢
  clear hrr
  have hs : (Ieee.single.word s r / 2147483648 % 2 == 1) = s ∧ Ieee.single.word s r % 2147483648 = r := by
    unfold Format.word
    rw [single_sw]
    cases s
    · simp only [Bool.false_eq_true, if_false]
      exact ⟨by rw [Nat.div_eq_of_lt (by omega)]; rfl, Nat.mod_eq_of_lt (by omega)⟩
    · simp only [if_true]
      refine ⟨?_, by omega⟩
      rw [show (2147483648 + r) / 2147483648 = 1 by omega]; rfl
  unfold Format.read
  simp only [single_sw, single_bin, single_inf, single_least]
  rw [hs.1, hs.2, if_neg hge, if_pos hr, hd, hmod]
  congr 1
  omega
/-- a whole number as a word -/
def fi32 (n : Int) : Nat := floatOfInt .f32 n
theorem fi32_eq (n : Int) : fi32 n = Ieee.single.nearest (decide (n < 0)) n.natAbs 0 := rfl
theorem fi32_zero : fi32 0 = 0 := by decide +kernel
theorem fi32_word {n : Int} {l : Nat} (h0 : n ≠ 0) (hl : n.natAbs.log2 = l) (hlF : l ≤ 23) : fi32 n = Ieee.single.word (decide (n < 0)) ((l + 126) * 8388608 + n.natAbs * 2 ^ (23 - l)) := by
  have h := nearestInt32 (decide (n < 0)) (N := n.natAbs) (t := 0) (by omega) hl hlF (by omega)
  rw [Nat.pow_zero, Nat.mul_one] at h
  exact h
theorem nearest_fi32 {n : Int} {t : Nat} (s : Bool) (hn : n ≠ 0 → s = decide (n < 0)) (h0 : n = 0 → s = false) (hb : n.natAbs < 16777216) (ht : t ≤ 149) : Ieee.single.nearest s (n.natAbs * 2 ^ t) (-(t : Int)) = fi32 n := by
  by_cases hz : n = 0
  · subst hz
    rw [h0 rfl, fi32_zero]
    simp [Format.nearest, Format.word]
  · obtain ⟨l, hl, hlF, h1, h2⟩ := norm32 (N := n.natAbs) (by omega) hb
    rw [fi32_word hz hl hlF, hn hz]
    exact nearestInt32 _ (by omega) hl hlF ht
theorem read_fi32 {n : Int} (h0 : n ≠ 0) (hb : n.natAbs < 16777216) : ∃ l : Nat, l ≤ 23 ∧ Ieee.single.read (fi32 n) = .number (decide (n < 0)) (n.natAbs * 2 ^ (23 - l)) ((l : Int) - 23) := by
  obtain ⟨l, hl, hlF, h1, h2⟩ := norm32 (N := n.natAbs) (by omega) hb
  exact ⟨l, hlF, by rw [fi32_word h0 hl hlF]; exact readInt32 _ hlF h1 h2⟩
theorem fi32_num (n : Int) : isNan .f32 (fi32 n) = false := nearest_num _ _ _ _
theorem canon_fi32 (n : Int) : canon .f32 (fi32 n) = fi32 n := canon_num (fi32_num n)
theorem signed_fi32 (n : Int) (u : Nat) : signed (decide (n < 0)) (n.natAbs * 2 ^ u) 0 = n * 2 ^ u := by
  unfold signed
  rw [Nat.shiftLeft_eq, Nat.pow_zero, Nat.mul_one]
  by_cases h : n < 0
  · rw [if_pos (by simpa using h), Int.natCast_mul, Int.natCast_pow, show ((n.natAbs : Nat) : Int) = -n by omega]
    simp [Int.neg_mul]
  · rw [if_neg (by simpa using h), Int.natCast_mul, Int.natCast_pow, show ((n.natAbs : Nat) : Int) = n by omega]
    rfl
theorem signed_up32 (s : Bool) (m u v : Nat) : signed s (m * 2 ^ u) v = signed s (m * 2 ^ (u + v)) 0 := by
  unfold signed
  simp only [Nat.shiftLeft_eq, Nat.pow_zero, Nat.mul_one, Nat.mul_assoc, ← Nat.pow_add]
/-- what a word stands for, as a whole number: number n at places that are not above 0 -/
def Whole32 (x : Nat) (n : Int) : Prop := ∃ (s : Bool) (m u : Nat) (p : Int), Ieee.single.read x = .number s m p ∧ p = -(u : Int) ∧ u ≤ 149 ∧ signed s m 0 = n * 2 ^ u
theorem whole_fi32 {n : Int} (hb : n.natAbs < 16777216) : Whole32 (fi32 n) n := by
  by_cases h0 : n = 0
  · subst h0
    rw [fi32_zero]
    exact ⟨false, 0, 149, -149, by decide +kernel, by omega, Nat.le_refl _, by simp [signed]⟩
  · obtain ⟨l, hlF, hr⟩ := read_fi32 h0 hb
    exact ⟨_, _, 23 - l, _, hr, by omega, by omega, signed_fi32 n _⟩
theorem whole_neg032 : Whole32 2147483648 0 := ⟨true, 0, 149, -149, by decide +kernel, by omega, Nat.le_refl _, by simp [signed]⟩
theorem signed_mag {s : Bool} {m : Nat} : (signed s m 0).natAbs = m := by unfold signed; cases s <;> simp [Nat.shiftLeft_eq]
/-- the sum of two whole numbers, one of them +0 or not 0 -/
theorem sum_whole32 {x y : Nat} {a b : Int} (hx : Whole32 x a) (hy : Whole32 y b) (hs : a + b = 0 → (Ieee.single.read x = .number false 0 (-149) ∨ Ieee.single.read y = .number false 0 (-149) ∨ a ≠ 0)) (hb : (a + b).natAbs < 16777216) : cop .add .f32 x y = fi32 (a + b) := by
  obtain ⟨s, m, u, p, hr, rfl, hu, hv⟩ := hx
  obtain ⟨s', m', u', p', hr', rfl, hu', hv'⟩ := hy
  have hf : floatBits .add .f32 x y = ((Ieee.single.read x).sum (Ieee.single.read y)).map Ieee.single.write := rfl
  unfold cop
  rw [hf, hr, hr']
  have hbase : min (-(u : Int)) (-(u' : Int)) = -((max u u' : Nat) : Int) := by omega
  have e1 : signed s m (-(u : Int) - min (-(u : Int)) (-(u' : Int))).toNat = a * 2 ^ (max u u') := by
    rw [hbase, show (-(u : Int) - -((max u u' : Nat) : Int)).toNat = max u u' - u by omega]
    have := signed_up32 s m 0 (max u u' - u)
    rw [Nat.pow_zero, Nat.mul_one, Nat.zero_add] at this
    rw [this]
    have h2 : signed s (m * 2 ^ (max u u' - u)) 0 = signed s m 0 * 2 ^ (max u u' - u) := by
      unfold signed; cases s <;> simp [Nat.shiftLeft_eq, Int.natCast_mul, Int.natCast_pow, Int.neg_mul]
    rw [h2, hv, Int.mul_assoc, ← Int.pow_add, show u + (max u u' - u) = max u u' by omega]
  have e2 : signed s' m' (-(u' : Int) - min (-(u : Int)) (-(u' : Int))).toNat = b * 2 ^ (max u u') := by
    rw [hbase, show (-(u' : Int) - -((max u u' : Nat) : Int)).toNat = max u u' - u' by omega]
    have := signed_up32 s' m' 0 (max u u' - u')
    rw [Nat.pow_zero, Nat.mul_one, Nat.zero_add] at this
    rw [this]
    have h2 : signed s' (m' * 2 ^ (max u u' - u')) 0 = signed s' m' 0 * 2 ^ (max u u' - u') := by
      unfold signed; cases s' <;> simp [Nat.shiftLeft_eq, Int.natCast_mul, Int.natCast_pow, Int.neg_mul]
    rw [h2, hv', Int.mul_assoc, ← Int.pow_add, show u' + (max u u' - u') = max u u' by omega]
  have hsum : (Datum.number s m (-(u : Int))).sum (Datum.number s' m' (-(u' : Int))) = some (.number (if (a + b) * 2 ^ (max u u') = 0 then s && s' else decide ((a + b) * 2 ^ (max u u') < 0)) ((a + b) * 2 ^ (max u u')).natAbs (-((max u u' : Nat) : Int))) := by
    unfold Datum.sum
    simp only
    rw [e1, e2, ← Int.add_mul, hbase]
  rw [hsum, Option.map_some, Option.getD_some]
  show Ieee.single.nearest _ _ _ = _
  have hpow : (0 : Int) < 2 ^ (max u u') := by
    have := Nat.two_pow_pos (max u u')
    rw [show (2 : Int) ^ (max u u') = ((2 ^ (max u u') : Nat) : Int) by rw [Int.natCast_pow]; rfl]
    omega
  have hna : ((a + b) * 2 ^ (max u u')).natAbs = (a + b).natAbs * 2 ^ (max u u') := by
    rw [Int.natAbs_mul, Int.natAbs_pow]; rfl
  rw [hna]
  refine nearest_fi32 _ (fun hn => ?_) (fun hz => ?_) hb (by omega)
  · rw [if_neg (by rw [Int.mul_eq_zero]; omega)]
    by_cases hneg : a + b < 0
    · rw [decide_eq_true (Int.mul_neg_of_neg_of_pos hneg hpow), decide_eq_true hneg]
    · rw [decide_eq_false (Int.not_lt.2 (Int.mul_nonneg (by omega) (Int.le_of_lt hpow))), decide_eq_false hneg]
  · rw [if_pos (by rw [hz, Int.zero_mul])]
    rcases hs hz with h | h | h
    · rw [hr] at h; injection h with h1 h2 h3; subst h1; rfl
    · rw [hr'] at h; injection h with h1 h2 h3; subst h1; simp
    · have hm : m ≠ 0 := by
        rintro rfl
        apply h
        have : signed s 0 0 = 0 := by unfold signed; cases s <;> simp
        rw [this] at hv
        have hp2 : (2 : Int) ^ u ≠ 0 := Int.pow_ne_zero (by decide)
        rcases Int.mul_eq_zero.1 hv.symm with h' | h'
        · exact h'
        · exact absurd h' hp2
      have hm' : m' ≠ 0 := by
        rintro rfl
        apply h
        have : signed s' 0 0 = 0 := by unfold signed; cases s' <;> simp
        rw [this] at hv'
        have hp2 : (2 : Int) ^ u' ≠ 0 := Int.pow_ne_zero (by decide)
        rcases Int.mul_eq_zero.1 hv'.symm with h' | h'
        · omega
        · exact absurd h' hp2
      cases s <;> cases s' <;> try rfl
      exfalso
      have g1 : signed true m 0 < 0 := by unfold signed; simp [Nat.shiftLeft_eq]; omega
      have g2 : signed true m' 0 < 0 := by unfold signed; simp [Nat.shiftLeft_eq]; omega
      rw [hv] at g1
      rw [hv'] at g2
      have p1 : (0 : Int) < 2 ^ u := by rw [show (2 : Int) ^ u = ((2 ^ u : Nat) : Int) by rw [Int.natCast_pow]; rfl]; have := Nat.two_pow_pos u; omega
      have p2 : (0 : Int) < 2 ^ u' := by rw [show (2 : Int) ^ u' = ((2 ^ u' : Nat) : Int) by rw [Int.natCast_pow]; rfl]; have := Nat.two_pow_pos u'; omega
      have q1 : a < 0 := by
        rcases Int.lt_or_le a 0 with h' | h'
        · exact h'
        · have := Int.mul_nonneg h' (Int.le_of_lt p1); omega
      have q2 : b < 0 := by
        rcases Int.lt_or_le b 0 with h' | h'
        · exact h'
        · have := Int.mul_nonneg h' (Int.le_of_lt p2); omega
      omega
theorem add_fi32 {a b : Int} (ha : a.natAbs < 16777216) (hb : b.natAbs < 16777216) (hab : (a + b).natAbs < 16777216) : cop .add .f32 (fi32 a) (fi32 b) = fi32 (a + b) :=
  sum_whole32 (whole_fi32 ha) (whole_fi32 hb) (fun h => by
    by_cases h0 : a = 0
    · subst h0; left; rw [fi32_zero]; decide +kernel
    · exact .inr (.inr h0)) hab
/-- the product of two whole numbers: as it is, or -0 for 0 -/
theorem mul_fi32 {a b : Int} (ha : a.natAbs < 16777216) (hb : b.natAbs < 16777216) (hab : (a * b).natAbs < 16777216) : cop .mul .f32 (fi32 a) (fi32 b) = fi32 (a * b) ∨ (a * b = 0 ∧ cop .mul .f32 (fi32 a) (fi32 b) = 2147483648) := by
  obtain ⟨s, m, u, p, hr, rfl, hu, hv⟩ := whole_fi32 ha
  obtain ⟨s', m', u', p', hr', rfl, hu', hv'⟩ := whole_fi32 hb
  have hf : floatBits .mul .f32 (fi32 a) (fi32 b) = ((Ieee.single.read (fi32 a)).product (Ieee.single.read (fi32 b))).map Ieee.single.write := rfl
  by_cases hz : a * b = 0
  · have hm : m * m' = 0 := by
      rcases Int.mul_eq_zero.1 hz with rfl | rfl
      · have : m = 0 := by rw [← signed_mag (s := s) (m := m), hv]; simp
        rw [this, Nat.zero_mul]
      · have : m' = 0 := by rw [← signed_mag (s := s') (m := m'), hv']; simp
        rw [this, Nat.mul_zero]
    have hpro : (Datum.number s m (-(u : Int))).product (Datum.number s' m' (-(u' : Int))) = some (.number (s ^^ s') (m * m') (-(u : Int) + -(u' : Int))) := rfl
    unfold cop
    rw [hf, hr, hr', hpro, Option.map_some, Option.getD_some, hm]
    show Ieee.single.nearest _ 0 _ = _ ∨ _ ∧ Ieee.single.nearest _ 0 _ = _
    have hn : ∀ t p, Ieee.single.nearest t 0 p = Ieee.single.word t 0 := fun t p => by simp [Format.nearest]
    rw [hn]
    cases s ^^ s'
    · left; rw [hz, fi32_zero]; rfl
    · right; exact ⟨hz, by decide +kernel⟩
  · left
    have ha0 : a ≠ 0 := by rintro rfl; simp at hz
    have hb0 : b ≠ 0 := by rintro rfl; simp at hz
    obtain ⟨l, hlF, hra⟩ := read_fi32 ha0 ha
    obtain ⟨l', hlF', hrb⟩ := read_fi32 hb0 hb
    have hpro : (Datum.number (decide (a < 0)) (a.natAbs * 2 ^ (23 - l)) ((l : Int) - 23)).product (Datum.number (decide (b < 0)) (b.natAbs * 2 ^ (23 - l')) ((l' : Int) - 23)) = some (.number (decide (a < 0) ^^ decide (b < 0)) (a.natAbs * 2 ^ (23 - l) * (b.natAbs * 2 ^ (23 - l'))) ((l : Int) - 23 + ((l' : Int) - 23))) := rfl
    unfold cop
    rw [hf, hra, hrb, hpro, Option.map_some, Option.getD_some]
    show Ieee.single.nearest _ _ _ = _
    have e : a.natAbs * 2 ^ (23 - l) * (b.natAbs * 2 ^ (23 - l')) = (a * b).natAbs * 2 ^ ((23 - l) + (23 - l')) := by
      rw [Int.natAbs_mul, Nat.pow_add, Nat.mul_assoc, Nat.mul_assoc]
      congr 1
      rw [Nat.mul_left_comm]
    rw [e, show (l : Int) - 23 + ((l' : Int) - 23) = -(((23 - l) + (23 - l') : Nat) : Int) by omega]
    refine nearest_fi32 _ (fun _ => ?_) (fun h => absurd h hz) hab (by omega)
    by_cases h1 : a < 0 <;> by_cases h2 : b < 0
    · have : 0 < a * b := Int.mul_pos_of_neg_of_neg h1 h2
      simp [h1, h2]; omega
    · have : a * b < 0 := Int.mul_neg_of_neg_of_pos h1 (by omega)
      simp [h1, h2]; omega
    · have : a * b < 0 := Int.mul_neg_of_pos_of_neg (by omega) h2
      simp [h1, h2]; omega
    · have : 0 < a * b := Int.mul_pos (by omega) (by omega)
      simp [h1, h2]; omega
/-- a step of a dot product of whole numbers -/
theorem dot_fi32 {c a b : Int} (hc : c.natAbs < 16777216) (ha : a.natAbs < 16777216) (hb : b.natAbs < 16777216) (hab : (a * b).natAbs < 16777216) (h : (c + a * b).natAbs < 16777216) : cop .add .f32 (fi32 c) (cop .mul .f32 (fi32 a) (fi32 b)) = fi32 (c + a * b) := by
  rcases mul_fi32 ha hb hab with e | ⟨hz, e⟩
  · rw [e]; exact add_fi32 hc hab h
  · rw [e]
    rw [hz] at h ⊢
    exact sum_whole32 (whole_fi32 hc) whole_neg032 (fun h' => by
      by_cases h0 : c = 0
      · subst h0; left; rw [fi32_zero]; decide +kernel
      · exact .inr (.inr h0)) h
end Go.Proofs.Ytkpcjjnaocdelaa
