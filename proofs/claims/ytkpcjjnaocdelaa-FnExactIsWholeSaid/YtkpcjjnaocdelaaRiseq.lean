/-
  Rounding of quotients is rising: of two quotients by one number the greater one is not rounded to a lesser word. Conditions: the divisor is not 0.
-/
import Derived.Test.YtkpcjjnaocdelaaRise
namespace Go.Proofs.Ytkpcjjnaocdelaa
open Ieee
set_option linter.unusedVariables false

/-- n / g to the nearest, ties to even -/
def plainG (n g : Nat) : Nat := n / g + (decide (g < 2 * (n % g)) || (g == 2 * (n % g) && n / g % 2 == 1)).toNat
theorem plain_G (n d : Nat) : plain n d = plainG n (2 ^ d) := rfl
theorem plainG_mul {n g t : Nat} (hp : 0 < t) : plainG (n * t) (g * t) = plainG n g := by
  unfold plainG
  rw [Nat.mul_div_mul_right _ _ hp, Nat.mul_mod_mul_right]
  have e1 : decide (g * t < 2 * (n % g * t)) = decide (g < 2 * (n % g)) := by
    rw [← Nat.mul_assoc]
    by_cases h : g < 2 * (n % g)
    · rw [decide_eq_true h, decide_eq_true (Nat.mul_lt_mul_of_pos_right h hp)]
    · rw [decide_eq_false h, decide_eq_false (Nat.not_lt.2 (Nat.mul_le_mul_right _ (Nat.not_lt.1 h)))]
  have e2 : (g * t == 2 * (n % g * t)) = (g == 2 * (n % g)) := by
    rw [← Nat.mul_assoc]
    by_cases h : g = 2 * (n % g)
    · rw [beq_iff_eq.2 h, beq_iff_eq.2 (congrArg (· * t) h)]
    · rw [beq_eq_false_iff_ne.2 h, beq_eq_false_iff_ne.2 (fun h' => h (Nat.eq_of_mul_eq_mul_right hp h'))]
  rw [e1, e2]
theorem toNat_le (x : Bool) : x.toNat ≤ 1 := by cases x <;> decide
theorem plainG_mono {n m g : Nat} (hp : 0 < g) (h : n ≤ m) : plainG n g ≤ plainG m g := by
  unfold plainG
  have h1 := Nat.div_add_mod n g
  have h2 := Nat.div_add_mod m g
  have h3 : n / g ≤ m / g := Nat.div_le_div_right h
  by_cases he : n / g = m / g
  · rw [he] at h1 ⊢
    have hr : n % g ≤ m % g := by omega
    generalize n % g = a at *
    generalize m % g = b at *
    generalize m / g = q at *
    by_cases c1 : g < 2 * a
    · rw [decide_eq_true c1, decide_eq_true (show g < 2 * b by omega)]
      simp
    · rw [decide_eq_false c1]
      by_cases c2 : g = 2 * a
      · by_cases c3 : g < 2 * b
        · rw [decide_eq_true c3]
          simp
          cases (g == 2 * a && q % 2 == 1) <;> simp
        · rw [show b = a by omega, decide_eq_false c1]
          exact Nat.le_refl _
      · rw [beq_eq_false_iff_ne.2 c2]
        simp
  · have := toNat_le (decide (g < 2 * (n % g)) || (g == 2 * (n % g) && n / g % 2 == 1))
    omega
theorem plainG_at (B g : Nat) (hp : 0 < g) : plainG (B * g) g = B := by
  unfold plainG
  rw [Nat.mul_div_cancel _ hp, Nat.mul_mod_left]
  have e1 : decide (g < 2 * 0) = false := by simp
  have e2 : (g == 2 * 0) = false := by simp; omega
  rw [e1, e2]
  simp
theorem plainG_le {n g B : Nat} (hp : 0 < g) (h : n ≤ B * g) : plainG n g ≤ B := by
  have := plainG_mono hp h
  rwa [plainG_at B g hp] at this
theorem plainG_ge {n g B : Nat} (hp : 0 < g) (h : B * g ≤ n) : B ≤ plainG n g := by
  have := plainG_mono hp h
  rwa [plainG_at B g hp] at this
/-- a quotient with a last digit that says whether something is left -/
def stick (A n : Nat) : Nat := 2 * (A / n) + (A % n != 0).toNat
theorem stick_plain {A n e : Nat} (hn : 0 < n) : plain (stick A n) (e + 2) = plainG (2 * A) (n * 2 ^ (e + 2)) := by
  unfold plain plainG stick
  have hA := Nat.div_add_mod A n
  have hr := Nat.mod_lt A hn
  have hg : 0 < 2 ^ e := Nat.two_pow_pos e
  obtain ⟨f, hf⟩ : ∃ f, A / n = f := ⟨_, rfl⟩
  obtain ⟨r, hr'⟩ : ∃ r, A % n = r := ⟨_, rfl⟩
  rw [hf, hr'] at hA
  rw [hr'] at hr
  rw [hf, hr']
  have e4 : 2 ^ (e + 2) = 4 * 2 ^ e := by rw [Nat.pow_add]; omega
  rw [e4]
  generalize 2 ^ e = t at *
  have hF := Nat.div_add_mod f (2 * t)
  have hρ := Nat.mod_lt f (show 0 < 2 * t by omega)
  obtain ⟨Q, hQ⟩ : ∃ Q, f / (2 * t) = Q := ⟨_, rfl⟩
  obtain ⟨ρ, hρ'⟩ : ∃ ρ, f % (2 * t) = ρ := ⟨_, rfl⟩
  rw [hQ, hρ'] at hF
  rw [hρ'] at hρ
  obtain ⟨σ, hσ⟩ : ∃ σ, (r != 0).toNat = σ := ⟨_, rfl⟩
  have hσ1 : σ ≤ 1 := by rw [← hσ]; exact toNat_le _
  have hσ0 : σ = 0 ↔ r = 0 := by
    rw [← hσ]
    by_cases h : r = 0
    · simp [h]
    · have : (r != 0) = true := by simp [h]
      rw [this]; simp [h]
  rw [hσ]
  -- quotients and rests on both sides
  have hN : 2 * f + σ = 4 * t * Q + (2 * ρ + σ) := by
    have e : 4 * t * Q = 2 * (2 * t * Q) := by rw [show 4 * t = 2 * (2 * t) by omega, Nat.mul_assoc]
    generalize 2 * t * Q = y at *
    omega
  have hNd : (2 * f + σ) / (4 * t) = Q := by
    rw [hN, Nat.mul_add_div (by omega), Nat.div_eq_of_lt (show 2 * ρ + σ < 4 * t by omega), Nat.add_zero]
  have hNm : (2 * f + σ) % (4 * t) = 2 * ρ + σ := by
    rw [hN, Nat.mul_add_mod, Nat.mod_eq_of_lt (show 2 * ρ + σ < 4 * t by omega)]
  have hρn : ρ * n + r < 2 * t * n := by
    have : (ρ + 1) * n ≤ 2 * t * n := Nat.mul_le_mul_right _ hρ
    rw [Nat.add_mul, Nat.one_mul] at this
    omega
  have hM : 2 * A = n * (4 * t) * Q + 2 * (ρ * n + r) := by
    have h1 : n * f = n * (2 * t * Q) + n * ρ := by rw [← Nat.mul_add, hF]
    have h2 : n * (4 * t) * Q = 2 * (n * (2 * t * Q)) := by
      rw [show 4 * t = 2 * (2 * t) by omega, Nat.mul_assoc n, Nat.mul_assoc 2, Nat.mul_left_comm n 2]
    rw [h2, ← hA, h1, Nat.mul_comm ρ n]
    omega
  have hlt : 2 * (ρ * n + r) < n * (4 * t) := by
    rw [show n * (4 * t) = 2 * (2 * t * n) by rw [show 4 * t = 2 * (2 * t) by omega, Nat.mul_left_comm, Nat.mul_comm n]]
    omega
  have hpos : 0 < n * (4 * t) := Nat.mul_pos hn (by omega)
  have hMd : 2 * A / (n * (4 * t)) = Q := by rw [hM, Nat.mul_add_div hpos, Nat.div_eq_of_lt hlt, Nat.add_zero]
  have hMm : 2 * A % (n * (4 * t)) = 2 * (ρ * n + r) := by rw [hM, Nat.mul_add_mod, Nat.mod_eq_of_lt hlt]
  rw [hNd, hNm, hMd, hMm]
  have hnt : n * (4 * t) = 4 * (t * n) := by rw [Nat.mul_left_comm, Nat.mul_comm n]
  rw [hnt]
  -- t against rho, with the rest
  have key1 : (4 * t < 2 * (2 * ρ + σ)) ↔ (4 * (t * n) < 2 * (2 * (ρ * n + r))) := by
    rcases Nat.lt_trichotomy t ρ with h | h | h
    · have : (t + 1) * n ≤ ρ * n := Nat.mul_le_mul_right _ h
      rw [Nat.add_mul, Nat.one_mul] at this
      constructor <;> intro _ <;> omega
    · subst h
      constructor
      · intro h'
        have : r ≠ 0 := fun h0 => by have := hσ0.2 h0; omega
        omega
      · intro h'
        have : σ ≠ 0 := fun h0 => by have := hσ0.1 h0; omega
        omega
    · have : (ρ + 1) * n ≤ t * n := Nat.mul_le_mul_right _ h
      rw [Nat.add_mul, Nat.one_mul] at this
      constructor <;> intro _ <;> omega
  have key2 : (4 * t = 2 * (2 * ρ + σ)) ↔ (4 * (t * n) = 2 * (2 * (ρ * n + r))) := by
    rcases Nat.lt_trichotomy t ρ with h | h | h
    · have : (t + 1) * n ≤ ρ * n := Nat.mul_le_mul_right _ h
      rw [Nat.add_mul, Nat.one_mul] at this
      constructor <;> intro _ <;> omega
    · subst h
      constructor
      · intro h'
        have := hσ0.1 (by omega)
        omega
      · intro h'
        have := hσ0.2 (by omega)
        omega
    · have : (ρ + 1) * n ≤ t * n := Nat.mul_le_mul_right _ h
      rw [Nat.add_mul, Nat.one_mul] at this
      constructor <;> intro _ <;> omega
  have e1 : decide (4 * t < 2 * (2 * ρ + σ)) = decide (4 * (t * n) < 2 * (2 * (ρ * n + r))) := decide_eq_decide.2 key1
  have e2 : (4 * t == 2 * (2 * ρ + σ)) = (4 * (t * n) == 2 * (2 * (ρ * n + r))) := by
    by_cases h : 4 * t = 2 * (2 * ρ + σ)
    · rw [beq_iff_eq.2 h, beq_iff_eq.2 (key2.1 h)]
    · rw [beq_eq_false_iff_ne.2 h, beq_eq_false_iff_ne.2 (fun h' => h (key2.2 h'))]
  rw [e1, e2]
theorem div_log2_shift {A n : Nat} (hn : 0 < n) (h : 0 < A / n) (t : Nat) : (A * 2 ^ t / n).log2 = (A / n).log2 + t := by
  have h1 := Nat.div_add_mod A n
  have h2 := Nat.mod_lt A hn
  have hq : A / n ≠ 0 := Nat.ne_of_gt h
  have lo : A / n * 2 ^ t ≤ A * 2 ^ t / n := by
    rw [Nat.le_div_iff_mul_le hn, Nat.mul_right_comm]
    exact Nat.mul_le_mul_right _ (Nat.div_mul_le_self A n)
  have hi : A * 2 ^ t / n < (A / n + 1) * 2 ^ t := by
    rw [Nat.div_lt_iff_lt_mul hn, Nat.mul_right_comm]
    refine Nat.mul_lt_mul_of_pos_right ?_ (Nat.two_pow_pos t)
    rw [Nat.add_mul, Nat.one_mul, Nat.mul_comm]
    omega
  have hne : A * 2 ^ t / n ≠ 0 := by
    have := Nat.mul_pos h (Nat.two_pow_pos t)
    omega
  apply Nat.le_antisymm
  · have : (A * 2 ^ t / n).log2 < (A / n).log2 + 1 + t := by
      rw [Nat.log2_lt hne, Nat.pow_add]
      have h3 : A / n + 1 ≤ 2 ^ ((A / n).log2 + 1) := Nat.lt_log2_self
      exact Nat.lt_of_lt_of_le hi (Nat.mul_le_mul_right _ h3)
    omega
  · rw [Nat.le_log2 hne, Nat.pow_add]
    exact Nat.le_trans (Nat.mul_le_mul_right _ (Nat.log2_self_le hq)) lo
theorem stick_log2 {A n : Nat} (h : 0 < A / n) : (stick A n).log2 = (A / n).log2 + 1 := by
  unfold stick
  have hq : A / n ≠ 0 := Nat.ne_of_gt h
  have hb := toNat_le (A % n != 0)
  generalize (A % n != 0).toNat = σ at *
  have hne : 2 * (A / n) + σ ≠ 0 := by omega
  have h1 : 2 ^ (A / n).log2 ≤ A / n := Nat.log2_self_le hq
  have h2 : A / n < 2 ^ ((A / n).log2 + 1) := Nat.lt_log2_self
  generalize (A / n).log2 = L at *
  apply Nat.le_antisymm
  · have : (2 * (A / n) + σ).log2 < L + 2 := by
      rw [Nat.log2_lt hne, Nat.pow_succ]
      omega
    omega
  · rw [Nat.le_log2 hne, Nat.pow_succ]
    omega
/-- how far up a quotient 2 * A / n * 2 ^ p is rounded -/
def rungQ (F : Nat) (E : Int) (A n : Nat) (p : Int) : Nat :=
  (max (p + ((A / n).log2 : Int) + 1 - F) E - E).toNat * 2 ^ F + plainG (2 * A) (n * 2 ^ (max (p + ((A / n).log2 : Int) + 1 - F) E - p).toNat)
theorem rung_stick {F : Nat} {E : Int} {A n : Nat} {p : Int} (hn : 0 < n) (h : 2 ^ (F + 1) ≤ A / n) : rung F E (stick A n) p = rungQ F E A n p := by
  have hq : 0 < A / n := Nat.lt_of_lt_of_le (Nat.two_pow_pos _) h
  have hs : stick A n ≠ 0 := by unfold stick; omega
  have hl : F + 1 ≤ (A / n).log2 := by rw [Nat.le_log2 (Nat.ne_of_gt hq)]; exact h
  unfold rung rungQ
  rw [if_neg hs, stick_log2 hq]
  rw [show p + (((A / n).log2 + 1 : Nat) : Int) - F = p + ((A / n).log2 : Int) + 1 - F by omega]
  obtain ⟨last, hlast⟩ : ∃ last, max (p + ((A / n).log2 : Int) + 1 - F) E = last := ⟨_, rfl⟩
  rw [hlast]
  congr 1
  obtain ⟨e, he⟩ : ∃ e, (last - p).toNat = e + 2 := ⟨(last - p).toNat - 2, by omega⟩
  rw [show (p - last).toNat = 0 by omega, he, Nat.shiftLeft_eq, Nat.pow_zero, Nat.mul_one]
  exact stick_plain hn
theorem rungQ_shift {F : Nat} {E : Int} {A n : Nat} {p : Int} (hn : 0 < n) (h : 2 ^ (F + 1) ≤ A / n) (t : Nat) : rungQ F E (A * 2 ^ t) n (p - t) = rungQ F E A n p := by
  have hq : 0 < A / n := Nat.lt_of_lt_of_le (Nat.two_pow_pos _) h
  have hl : F + 1 ≤ (A / n).log2 := by rw [Nat.le_log2 (Nat.ne_of_gt hq)]; exact h
  unfold rungQ
  rw [div_log2_shift hn hq, show p - (t : Int) + (((A / n).log2 + t : Nat) : Int) + 1 - F = p + ((A / n).log2 : Int) + 1 - F by omega]
  obtain ⟨last, hlast⟩ : ∃ last, max (p + ((A / n).log2 : Int) + 1 - F) E = last := ⟨_, rfl⟩
  rw [hlast, show (last - (p - (t : Int))).toNat = (last - p).toNat + t by omega, Nat.pow_add, ← Nat.mul_assoc, ← Nat.mul_assoc]
  rw [plainG_mul (Nat.two_pow_pos t)]
theorem rungQ_same {F : Nat} {E : Int} {A B n : Nat} {p : Int} (hn : 0 < n) (hA : 2 ^ (F + 1) ≤ A / n) (h : A ≤ B) : rungQ F E A n p ≤ rungQ F E B n p := by
  have hd : A / n ≤ B / n := Nat.div_le_div_right h
  have hqa : 0 < A / n := Nat.lt_of_lt_of_le (Nat.two_pow_pos _) hA
  have hqb : 0 < B / n := Nat.lt_of_lt_of_le hqa hd
  have hl : (A / n).log2 ≤ (B / n).log2 := by rw [Nat.le_log2 (Nat.ne_of_gt hqb)]; exact Nat.le_trans (Nat.log2_self_le (Nat.ne_of_gt hqa)) hd
  have hla : F + 1 ≤ (A / n).log2 := by rw [Nat.le_log2 (Nat.ne_of_gt hqa)]; exact hA
  have hg : ∀ d, 0 < n * 2 ^ d := fun d => Nat.mul_pos hn (Nat.two_pow_pos d)
  unfold rungQ
  by_cases he : max (p + ((A / n).log2 : Int) + 1 - F) E = max (p + ((B / n).log2 : Int) + 1 - F) E
  · rw [he]
    exact Nat.add_le_add_left (plainG_mono (hg _) (Nat.mul_le_mul_left 2 h)) _
  · obtain ⟨l1, hl1⟩ : ∃ l, max (p + ((A / n).log2 : Int) + 1 - F) E = l := ⟨_, rfl⟩
    obtain ⟨l2, hl2⟩ : ∃ l, max (p + ((B / n).log2 : Int) + 1 - F) E = l := ⟨_, rfl⟩
    rw [hl1, hl2] at he ⊢
    have hlt : l1 < l2 := by omega
    have hub : plainG (2 * A) (n * 2 ^ (l1 - p).toNat) ≤ 2 ^ F + 2 ^ F := by
      refine plainG_le (hg _) ?_
      have h1 : A < n * 2 ^ ((A / n).log2 + 1) := by
        have h2 : A / n + 1 ≤ 2 ^ ((A / n).log2 + 1) := Nat.lt_log2_self
        have h3 := Nat.mul_le_mul_left n h2
        have h4 := Nat.div_add_mod A n
        have h5 := Nat.mod_lt A hn
        rw [Nat.mul_add, Nat.mul_one] at h3
        omega
      have h6 : 2 ^ ((A / n).log2 + 2) ≤ (2 ^ F + 2 ^ F) * 2 ^ (l1 - p).toNat := by
        rw [show 2 ^ F + 2 ^ F = 2 ^ (F + 1) by rw [Nat.pow_succ]; omega, ← Nat.pow_add]
        exact Nat.pow_le_pow_right (by decide) (by omega)
      have h7 := Nat.mul_le_mul_left n h6
      rw [show n * 2 ^ ((A / n).log2 + 2) = 2 * (n * 2 ^ ((A / n).log2 + 1)) by rw [Nat.pow_succ 2 ((A / n).log2 + 1), Nat.mul_comm (2 ^ ((A / n).log2 + 1)) 2, Nat.mul_left_comm]] at h7
      rw [Nat.mul_left_comm (2 ^ F + 2 ^ F) n]
      omega
    have hlb : 2 ^ F ≤ plainG (2 * B) (n * 2 ^ (l2 - p).toNat) := by
      refine plainG_ge (hg _) ?_
      have h1 : n * 2 ^ (B / n).log2 ≤ B := Nat.le_trans (Nat.mul_le_mul_left n (Nat.log2_self_le (Nat.ne_of_gt hqb))) (Nat.mul_div_le B n)
      have h6 : 2 ^ F * 2 ^ (l2 - p).toNat ≤ 2 ^ ((B / n).log2 + 1) := by
        rw [← Nat.pow_add]
        exact Nat.pow_le_pow_right (by decide) (by omega)
      have h7 := Nat.mul_le_mul_left n h6
      rw [show n * 2 ^ ((B / n).log2 + 1) = 2 * (n * 2 ^ (B / n).log2) by rw [Nat.pow_succ, Nat.mul_comm (2 ^ (B / n).log2) 2, Nat.mul_left_comm]] at h7
      rw [Nat.mul_left_comm (2 ^ F) n]
      omega
    have hs : (l1 - E).toNat + 1 ≤ (l2 - E).toNat := by omega
    have hm := Nat.mul_le_mul_right (2 ^ F) hs
    rw [Nat.add_mul, Nat.one_mul] at hm
    omega
/-- quotients by one number: the greater magnitude has no lesser rung -/
theorem quot_mono {F : Nat} {E : Int} {m1 m2 n : Nat} {i1 i2 j : Int} {k1 k2 : Nat} (hn : 0 < n) (h1 : 2 ^ (F + 1) ≤ m1 * 2 ^ k1 / n) (h2 : 2 ^ (F + 1) ≤ m2 * 2 ^ k2 / n)
    (h : m1 * 2 ^ (i1 - min i1 i2).toNat ≤ m2 * 2 ^ (i2 - min i1 i2).toNat) :
    rung F E (stick (m1 * 2 ^ k1) n) (i1 - j - k1 - 1) ≤ rung F E (stick (m2 * 2 ^ k2) n) (i2 - j - k2 - 1) := by
  rw [rung_stick hn h1, rung_stick hn h2]
  obtain ⟨p, hp⟩ : ∃ p, min (i1 - j - (k1 : Int) - 1) (i2 - j - (k2 : Int) - 1) = p := ⟨_, rfl⟩
  obtain ⟨t1, ht1⟩ : ∃ t : Nat, i1 - j - (k1 : Int) - 1 - p = t := ⟨(i1 - j - (k1 : Int) - 1 - p).toNat, by omega⟩
  obtain ⟨t2, ht2⟩ : ∃ t : Nat, i2 - j - (k2 : Int) - 1 - p = t := ⟨(i2 - j - (k2 : Int) - 1 - p).toNat, by omega⟩
  rw [← rungQ_shift hn h1 t1, ← rungQ_shift hn h2 t2, show i1 - j - (k1 : Int) - 1 - t1 = p by omega, show i2 - j - (k2 : Int) - 1 - t2 = p by omega]
  have hA : 2 ^ (F + 1) ≤ m1 * 2 ^ k1 * 2 ^ t1 / n := by
    refine Nat.le_trans h1 (Nat.div_le_div_right ?_)
    exact Nat.le_mul_of_pos_right _ (Nat.two_pow_pos t1)
  refine rungQ_same hn hA ?_
  rw [Nat.mul_assoc, Nat.mul_assoc, ← Nat.pow_add, ← Nat.pow_add]
  obtain ⟨c, hc⟩ : ∃ c, min i1 i2 = c := ⟨_, rfl⟩
  rw [hc] at h
  obtain ⟨u, hu⟩ : ∃ u : Int, c - j - 1 - p = u := ⟨_, rfl⟩
  by_cases hu0 : 0 ≤ u
  · obtain ⟨v, rfl⟩ := Int.eq_ofNat_of_zero_le hu0
    rw [show k1 + t1 = (i1 - c).toNat + v by omega, show k2 + t2 = (i2 - c).toNat + v by omega, Nat.pow_add, Nat.pow_add, ← Nat.mul_assoc, ← Nat.mul_assoc]
    exact Nat.mul_le_mul_right _ h
  · obtain ⟨v, hv⟩ : ∃ v : Nat, -u = v := ⟨(-u).toNat, by omega⟩
    refine Nat.le_of_mul_le_mul_right ?_ (Nat.two_pow_pos v)
    rw [Nat.mul_assoc, Nat.mul_assoc, ← Nat.pow_add, ← Nat.pow_add, show k1 + t1 + v = (i1 - c).toNat by omega, show k2 + t2 + v = (i2 - c).toNat by omega]
    exact h
end Go.Proofs.Ytkpcjjnaocdelaa
