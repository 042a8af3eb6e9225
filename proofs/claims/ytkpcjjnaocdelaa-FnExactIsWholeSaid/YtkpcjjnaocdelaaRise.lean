/-
  Rounding to the nearest is rising: of two magnitudes the greater one is not rounded to a lesser word. Conditions: none.
-/
import Derived.Test.YtkpcjjnaocdelaaBound
namespace Go.Proofs.Ytkpcjjnaocdelaa
open Ieee
set_option linter.unusedVariables false

/-- the cut without its shortening -/
def plain (n d : Nat) : Nat := n / 2 ^ d + (decide (2 ^ d < 2 * (n % 2 ^ d)) || (2 ^ d == 2 * (n % 2 ^ d) && n / 2 ^ d % 2 == 1)).toNat
theorem cut_plain (s : Bool) (n d : Nat) : Toward.even.cut s n d = plain n d := by
  unfold Toward.cut plain
  simp only
  rw [Nat.shiftLeft_eq, Nat.one_mul]
  by_cases hd : d ≤ n.log2 + 2
  · rw [Nat.min_eq_left hd]
  · rw [Nat.min_eq_right (by omega)]
    have h1 : n < 2 ^ (n.log2 + 1) := Nat.lt_log2_self
    have h2 : 2 ^ (n.log2 + 2) = 2 * 2 ^ (n.log2 + 1) := by rw [Nat.pow_succ]; omega
    have h3 : 2 ^ (n.log2 + 2) ≤ 2 ^ d := Nat.pow_le_pow_right (by decide) (by omega)
    generalize 2 ^ (n.log2 + 1) = g at *
    generalize 2 ^ (n.log2 + 2) = g2 at *
    generalize 2 ^ d = g3 at *
    rw [Nat.div_eq_of_lt (show n < g2 by omega), Nat.mod_eq_of_lt (show n < g2 by omega), Nat.div_eq_of_lt (show n < g3 by omega), Nat.mod_eq_of_lt (show n < g3 by omega)]
    have e1 : decide (g2 < 2 * n) = false := by simp; omega
    have e2 : decide (g3 < 2 * n) = false := by simp; omega
    rw [e1, e2]
    simp
theorem plain_shift (n d k : Nat) : plain (n * 2 ^ k) (d + k) = plain n d := by
  unfold plain
  have hp : 0 < 2 ^ k := Nat.two_pow_pos k
  rw [Nat.pow_add]
  generalize 2 ^ d = g
  generalize 2 ^ k = t at *
  rw [Nat.mul_div_mul_right _ _ hp, Nat.mul_mod_mul_right]
  have e1 : decide (g * t < 2 * (n % g * t)) = decide (g < 2 * (n % g)) := by
    rw [← Nat.mul_assoc]
    by_cases h : g < 2 * (n % g)
    · rw [decide_eq_true h, decide_eq_true (Nat.mul_lt_mul_of_pos_right h hp)]
    · rw [decide_eq_false h, decide_eq_false (Nat.not_lt.2 (Nat.mul_le_mul_right _ (Nat.not_lt.1 h)))]
  have e2 : (g * t == 2 * (n % g * t)) = (g == 2 * (n % g)) := by
    rw [← Nat.mul_assoc]
    by_cases h : g = 2 * (n % g)
    · rw [beq_iff_eq.2 h, beq_iff_eq.2 (congrArg (· * t) h)]
    · rw [beq_eq_false_iff_ne.2 h, beq_eq_false_iff_ne.2 (fun h' => h (Nat.eq_of_mul_eq_mul_right hp h'))]
  rw [e1, e2]
theorem plain_mono {n m d : Nat} (h : n ≤ m) : plain n d ≤ plain m d := by
  unfold plain
  have hp : 0 < 2 ^ d := Nat.two_pow_pos d
  generalize 2 ^ d = g at *
  have h1 := Nat.div_add_mod n g
  have h2 := Nat.div_add_mod m g
  have h3 : n / g ≤ m / g := Nat.div_le_div_right h
  by_cases he : n / g = m / g
  · rw [he] at h1 ⊢
    have hr : n % g ≤ m % g := by omega
    generalize n % g = a at *
    generalize m % g = b at *
    generalize m / g = q at *
    by_cases c1 : g < 2 * a
    · rw [decide_eq_true c1, decide_eq_true (show g < 2 * b by omega)]
      simp
    · rw [decide_eq_false c1]
      by_cases c2 : g = 2 * a
      · by_cases c3 : g < 2 * b
        · rw [decide_eq_true c3]
          simp
          cases (g == 2 * a && q % 2 == 1) <;> simp
        · rw [show b = a by omega, decide_eq_false c1]
          exact Nat.le_refl _
      · rw [beq_eq_false_iff_ne.2 c2]
        simp
  · have hb : ∀ x : Bool, x.toNat ≤ 1 := fun x => by cases x <;> decide
    have := hb (decide (g < 2 * (n % g)) || (g == 2 * (n % g) && n / g % 2 == 1))
    omega
theorem plain_le {n d B : Nat} (h : n ≤ B * 2 ^ d) : plain n d ≤ B := by rw [← cut_plain false]; exact cut_le false h
theorem plain_ge {n d B : Nat} (h : B * 2 ^ d ≤ n) : B ≤ plain n d := by rw [← cut_plain false]; exact cut_ge false h
theorem plain_zero (n : Nat) : plain n 0 = n := by rw [← cut_plain false]; exact cut_zero _ _ _
theorem plain_all (n k : Nat) : plain (n * 2 ^ k) k = n := by
  have := plain_shift n 0 k
  rw [Nat.zero_add, plain_zero] at this
  exact this

/-- how far up a magnitude N * 2 ^ p is rounded, with F digits behind the first and the least place E -/
def rung (F : Nat) (E : Int) (N : Nat) (p : Int) : Nat :=
  if N = 0 then 0 else (max (p + (N.log2 : Int) - F) E - E).toNat * 2 ^ F + plain (N <<< (p - max (p + (N.log2 : Int) - F) E).toNat) (max (p + (N.log2 : Int) - F) E - p).toNat
theorem log2_mul_pow {N : Nat} (h : N ≠ 0) (k : Nat) : (N * 2 ^ k).log2 = N.log2 + k := by
  have hM : N * 2 ^ k ≠ 0 := Nat.ne_of_gt (Nat.mul_pos (Nat.pos_of_ne_zero h) (Nat.two_pow_pos k))
  apply Nat.le_antisymm
  · have : (N * 2 ^ k).log2 < N.log2 + 1 + k := by
      rw [Nat.log2_lt hM, Nat.pow_add]
      exact Nat.mul_lt_mul_of_pos_right Nat.lt_log2_self (Nat.two_pow_pos k)
    omega
  · rw [Nat.le_log2 hM, Nat.pow_add]
    exact Nat.mul_le_mul_right _ (Nat.log2_self_le h)
theorem rung_shift (F : Nat) (E : Int) (N : Nat) (p : Int) (k : Nat) : rung F E (N * 2 ^ k) (p - k) = rung F E N p := by
  unfold rung
  by_cases h : N = 0
  · subst h; simp
  · have hM : N * 2 ^ k ≠ 0 := Nat.ne_of_gt (Nat.mul_pos (Nat.pos_of_ne_zero h) (Nat.two_pow_pos k))
    rw [if_neg h, if_neg hM, log2_mul_pow h]
    rw [show p - (k : Int) + ((N.log2 + k : Nat) : Int) - F = p + (N.log2 : Int) - F by omega]
    generalize max (p + (N.log2 : Int) - F) E = last
    congr 1
    simp only [Nat.shiftLeft_eq]
    by_cases h1 : p - k ≤ last
    · rw [show (p - (k : Int) - last).toNat = 0 by omega, Nat.pow_zero, Nat.mul_one]
      by_cases h2 : p ≤ last
      · rw [show (p - last).toNat = 0 by omega, Nat.pow_zero, Nat.mul_one, show (last - (p - (k : Int))).toNat = (last - p).toNat + k by omega]
        exact plain_shift _ _ _
      · rw [show (last - p).toNat = 0 by omega, plain_zero]
        obtain ⟨a, ha⟩ : ∃ a, (p - last).toNat = a := ⟨_, rfl⟩
        obtain ⟨b, hb⟩ : ∃ b, (last - (p - (k : Int))).toNat = b := ⟨_, rfl⟩
        have : k = a + b := by omega
        rw [ha, hb, this, Nat.pow_add, ← Nat.mul_assoc]
        exact plain_all _ _
    · rw [show (last - (p - (k : Int))).toNat = 0 by omega, show (last - p).toNat = 0 by omega, plain_zero, plain_zero]
      obtain ⟨a, ha⟩ : ∃ a, (p - (k : Int) - last).toNat = a := ⟨_, rfl⟩
      rw [ha, show (p - last).toNat = k + a by omega, Nat.pow_add, Nat.mul_assoc]
theorem rung_same {F : Nat} {E : Int} {N M : Nat} (p : Int) (h : N ≤ M) : rung F E N p ≤ rung F E M p := by
  unfold rung
  by_cases hN : N = 0
  · rw [if_pos hN]; exact Nat.zero_le _
  · have hM : M ≠ 0 := by omega
    rw [if_neg hN, if_neg hM]
    have hl : N.log2 ≤ M.log2 := by rw [Nat.le_log2 hM]; exact Nat.le_trans (Nat.log2_self_le hN) h
    by_cases he : max (p + (N.log2 : Int) - F) E = max (p + (M.log2 : Int) - F) E
    · rw [he]
      refine Nat.add_le_add_left (plain_mono ?_) _
      rw [Nat.shiftLeft_eq, Nat.shiftLeft_eq]
      exact Nat.mul_le_mul_right _ h
    · obtain ⟨l1, hl1⟩ : ∃ l, max (p + (N.log2 : Int) - F) E = l := ⟨_, rfl⟩
      obtain ⟨l2, hl2⟩ : ∃ l, max (p + (M.log2 : Int) - F) E = l := ⟨_, rfl⟩
      rw [hl1, hl2] at he ⊢
      have hlt : l1 < l2 := by omega
      have e2 : l2 = p + (M.log2 : Int) - F := by omega
      have hub : plain (N <<< (p - l1).toNat) (l1 - p).toNat ≤ 2 ^ F + 2 ^ F := by
        refine plain_le ?_
        rw [Nat.shiftLeft_eq]
        have h1 : N < 2 ^ (N.log2 + 1) := Nat.lt_log2_self
        have h2 : N * 2 ^ (p - l1).toNat ≤ 2 ^ (N.log2 + 1) * 2 ^ (p - l1).toNat := Nat.mul_le_mul_right _ (Nat.le_of_lt h1)
        refine Nat.le_trans h2 ?_
        rw [show 2 ^ F + 2 ^ F = 2 ^ (F + 1) by rw [Nat.pow_succ]; omega, ← Nat.pow_add, ← Nat.pow_add]
        exact Nat.pow_le_pow_right (by decide) (by omega)
      have hlb : 2 ^ F ≤ plain (M <<< (p - l2).toNat) (l2 - p).toNat := by
        refine plain_ge ?_
        rw [Nat.shiftLeft_eq]
        have h1 : 2 ^ M.log2 ≤ M := Nat.log2_self_le hM
        have h2 : 2 ^ M.log2 * 2 ^ (p - l2).toNat ≤ M * 2 ^ (p - l2).toNat := Nat.mul_le_mul_right _ h1
        refine Nat.le_trans ?_ h2
        rw [← Nat.pow_add, ← Nat.pow_add]
        exact Nat.pow_le_pow_right (by decide) (by omega)
      have hs : (l1 - E).toNat + 1 ≤ (l2 - E).toNat := by omega
      have hm := Nat.mul_le_mul_right (2 ^ F) hs
      rw [Nat.add_mul, Nat.one_mul] at hm
      omega
/-- the greater magnitude is not rounded to less -/
theorem rung_mono {F : Nat} {E : Int} {N M : Nat} {p q : Int} (h : N * 2 ^ (p - min p q).toNat ≤ M * 2 ^ (q - min p q).toNat) : rung F E N p ≤ rung F E M q := by
  have h1 := rung_shift F E N p (p - min p q).toNat
  have h2 := rung_shift F E M q (q - min p q).toNat
  rw [show p - ((p - min p q).toNat : Int) = min p q by omega] at h1
  rw [show q - ((q - min p q).toNat : Int) = min p q by omega] at h2
  rw [← h1, ← h2]
  exact rung_same _ h
theorem nearest_rung64 (s : Bool) (N : Nat) (p : Int) : Ieee.double.nearest s N p = Ieee.double.word s (min (rung 52 (-1074) N p) 9218868437227405312) := by
  unfold Format.nearest rung
  by_cases h : N = 0
  · simp [h]
  · simp only
    rw [if_neg h, if_neg h, double_least, double_frac, double_bin, double_inf, cut_plain]
theorem nearest_rung32 (s : Bool) (N : Nat) (p : Int) : Ieee.single.nearest s N p = Ieee.single.word s (min (rung 23 (-149) N p) 2139095040) := by
  unfold Format.nearest rung
  by_cases h : N = 0
  · simp [h]
  · simp only
    rw [if_neg h, if_neg h, single_least, single_frac, single_bin, single_inf, cut_plain]
end Go.Proofs.Ytkpcjjnaocdelaa
