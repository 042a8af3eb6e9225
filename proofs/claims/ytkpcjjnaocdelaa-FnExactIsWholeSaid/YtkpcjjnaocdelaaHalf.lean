/-
  How near rounding comes: half a unit; and magnitudes of few digits stay as they are. Conditions: as each says.
-/
import Derived.Test.YtkpcjjnaocdelaaCrise
namespace Go.Proofs.Ytkpcjjnaocdelaa
open Ieee
set_option linter.unusedVariables false

/-- n / g to the nearest is at most half away -/
theorem plainG_half {n g : Nat} (hp : 0 < g) : 2 * (plainG n g * g) ≤ 2 * n + g ∧ 2 * n ≤ 2 * (plainG n g * g) + g := by
  unfold plainG
  have h1 := Nat.div_add_mod n g
  have h2 := Nat.mod_lt n hp
  rw [Nat.mul_comm] at h1
  generalize n % g = r at *
  generalize n / g = q at *
  by_cases c1 : g < 2 * r
  · rw [decide_eq_true c1, Bool.true_or, Bool.toNat_true, Nat.add_mul, Nat.one_mul]
    omega
  · rw [decide_eq_false c1, Bool.false_or]
    by_cases c2 : g = 2 * r
    · have hb := toNat_le (g == 2 * r && q % 2 == 1)
      generalize (g == 2 * r && q % 2 == 1).toNat = b at *
      rw [Nat.add_mul]
      have : b * g ≤ 1 * g := Nat.mul_le_mul_right _ hb
      omega
    · rw [beq_eq_false_iff_ne.2 c2, Bool.false_and, Bool.toNat_false, Nat.add_zero]
      omega
theorem plain_half (n d : Nat) : 2 * (plain n d * 2 ^ d) ≤ 2 * n + 2 ^ d ∧ 2 * n ≤ 2 * (plain n d * 2 ^ d) + 2 ^ d := plainG_half (Nat.two_pow_pos d)
/-- the magnitude that a rung of F digits stands for, one digit more being a carry -/
theorem mag_rung (F k K : Nat) (hK : K ≤ 2 ^ (F + 1)) (h : k = 0 ∨ 2 ^ F ≤ K) : mag (2 ^ F) (k * 2 ^ F + K) = K * 2 ^ k := by
  have hB : 0 < 2 ^ F := Nat.two_pow_pos F
  have h2 : 2 ^ (F + 1) = 2 * 2 ^ F := by rw [Nat.pow_succ]; omega
  rw [h2] at hK
  generalize 2 ^ F = B at *
  unfold mag
  by_cases hb : k * B + K < B
  · have hk : k = 0 := by
      rcases Nat.eq_zero_or_pos k with h0 | h0
      · exact h0
      · have := Nat.mul_le_mul_right B h0; omega
    subst hk
    rw [if_pos hb]
    simp
  · rw [if_neg hb]
    have hKB : B ≤ K := by
      rcases h with h | h
      · subst h; omega
      · exact h
    by_cases hc : K = 2 * B
    · subst hc
      have e : k * B + 2 * B = (k + 2) * B := by rw [Nat.add_mul]
      rw [e, Nat.mul_div_cancel _ hB, Nat.mul_mod_left, Nat.add_zero, show k + 2 - 1 = k + 1 by omega, Nat.pow_succ]
      rw [Nat.mul_comm 2 B, Nat.mul_assoc, Nat.mul_comm 2]
    · obtain ⟨t, rfl⟩ : ∃ t, K = B + t := ⟨K - B, by omega⟩
      have ht : t < B := by omega
      have e : k * B + (B + t) = t + (k + 1) * B := by rw [Nat.add_mul]; omega
      rw [e, Nat.add_mul_div_right _ _ hB, Nat.div_eq_of_lt ht, Nat.zero_add, Nat.add_mul_mod_self_right, Nat.mod_eq_of_lt ht, show k + 1 - 1 = k by omega]
/-- what the rung of a magnitude stands for: the magnitude cut at its last place -/
theorem mag_of_rung {F : Nat} {E : Int} {N : Nat} {p : Int} (hN : N ≠ 0) : ∃ last : Int, last = max (p + (N.log2 : Int) - F) E ∧ mag (2 ^ F) (rung F E N p) = plain (N <<< (p - last).toNat) (last - p).toNat * 2 ^ (last - E).toNat := by
  refine ⟨_, rfl, ?_⟩
  unfold rung
  rw [if_neg hN]
  obtain ⟨last, hlast⟩ : ∃ last, max (p + (N.log2 : Int) - F) E = last := ⟨_, rfl⟩
  rw [hlast]
  have h1 : N < 2 ^ (N.log2 + 1) := Nat.lt_log2_self
  have h0 : 2 ^ N.log2 ≤ N := Nat.log2_self_le hN
  refine mag_rung F _ _ ?_ ?_
  · refine plain_le ?_
    rw [Nat.shiftLeft_eq]
    refine Nat.le_trans (Nat.mul_le_mul_right _ (Nat.le_of_lt h1)) ?_
    rw [← Nat.pow_add, ← Nat.pow_add]
    exact Nat.pow_le_pow_right (by decide) (by omega)
  · by_cases hE : last = E
    · left; rw [hE]; omega
    · right
      refine plain_ge ?_
      rw [Nat.shiftLeft_eq]
      refine Nat.le_trans ?_ (Nat.mul_le_mul_right _ h0)
      rw [← Nat.pow_add, ← Nat.pow_add]
      exact Nat.pow_le_pow_right (by decide) (by omega)
/-- few digits stay -/
theorem mag_exact {F : Nat} {E : Int} {N : Nat} {p : Int} (hN : N.log2 ≤ F) (hp : E ≤ p) : mag (2 ^ F) (rung F E N p) = N * 2 ^ (p - E).toNat := by
  by_cases h : N = 0
  · subst h
    unfold rung mag
    rw [if_pos rfl, if_pos (Nat.two_pow_pos F), Nat.zero_mul]
  · obtain ⟨last, hl, hm⟩ := mag_of_rung (F := F) (E := E) (p := p) h
    have hlp : last ≤ p := by omega
    have hlE : E ≤ last := by omega
    rw [hm, show (last - p).toNat = 0 by omega, plain_zero, Nat.shiftLeft_eq, Nat.mul_assoc, ← Nat.pow_add, show (p - last).toNat + (last - E).toNat = (p - E).toNat by omega]
/-- a finite number as a 64-bit one is the same number -/
theorem wide_exact {x : Nat} (hx : x % 2147483648 < 2139095040) : ∃ (m : Nat) (e : Int) (M : Nat) (i : Int), m < 16777216 ∧ -149 ≤ e ∧ m * 2 ^ (e + 149).toNat = mag 8388608 (x % 2147483648) ∧ Ieee.double.read (cwide x) = .number (x / 2147483648 % 2 == 1) M i ∧
    M * 2 ^ (i + (EE : Int)).toNat = m * 2 ^ (e + (EE : Int)).toNat ∧ -(EE : Int) ≤ i := by
  obtain ⟨m0, e0, h1, h2, h3, _⟩ := read_mag32 hx
  obtain ⟨m, e, M, i, g1, g2, g3, g4, g5, _⟩ := wide_mag hx
  have hm24 : m0 < 16777216 := (read32_num h1).1
  have hmm : m0 * 2 ^ (e0 + 149).toNat = m * 2 ^ (e + 149).toNat := h2.trans g2.symm
  have hr : rung 52 (-1074) m e = rung 52 (-1074) m0 e0 := Nat.le_antisymm (rung_mono (below_min (c := 149) (by omega) (by omega) (Nat.le_of_eq hmm.symm))) (rung_mono (below_min (c := 149) (by omega) (by omega) (Nat.le_of_eq hmm)))
  have hlog : m0.log2 ≤ 52 := by
    by_cases h : m0 = 0
    · subst h; decide
    · have : m0.log2 < 24 := (Nat.log2_lt h).2 hm24
      omega
  have hx2 := mag_exact (F := 52) (E := -1074) (N := m0) (p := e0) hlog (by omega)
  rw [show (2 : Nat) ^ 52 = 4503599627370496 by decide] at hx2
  refine ⟨m0, e0, M, i, hm24, h3, h2, g3, ?_, g5⟩
  rw [g4, hr, hx2, show (e0 - -1074).toNat = (e0 + (EE : Int)).toNat by rw [EE_eq]; omega]
end Go.Proofs.Ytkpcjjnaocdelaa
