/-
  Codes rise with the numbers. Conditions: finite numbers, a finite and positive spread.
-/
import Derived.Test.YtkpcjjnaocdelaaWhl
namespace Go.Proofs.Ytkpcjjnaocdelaa
open Ieee
set_option linter.unusedVariables false

def rq (m n : Nat) (i j : Int) : Nat := min (rung 52 (-1074) (stick (m * 2 ^ (54 + n.log2 - m.log2)) n) (i - j - ((54 + n.log2 - m.log2 : Nat) : Int) - 1)) 9218868437227405312
theorem vq_rq {x s : Nat} {a b : Bool} {m n : Nat} {i j : Int} (hx : Ieee.double.read (cwide x) = .number a m i) (hs : Ieee.double.read (cwide s) = .number b n j) (hn : n ≠ 0) : vq x s = Ieee.double.word (a ^^ b) (rq m n i j) := by
  have hf : floatBits .quo .f64 (cwide x) (cwide s) = some (Ieee.double.nearest (a ^^ b) (stick (m * 2 ^ (54 + n.log2 - m.log2)) n) (i - j - ((54 + n.log2 - m.log2 : Nat) : Int) - 1)) := by
    show ((Ieee.double.read (cwide x)).quotient 54 (Ieee.double.read (cwide s))).map Ieee.double.write = _
    rw [hx, hs]
    unfold Datum.quotient
    simp only [if_neg hn]
    rw [Nat.shiftLeft_eq]
    rfl
  unfold vq cop
  rw [hf, Option.getD_some, nearest_rung64]
  rfl
theorem stick_zero (n : Nat) : stick 0 n = 0 := by unfold stick; simp
theorem rq_zero (n : Nat) (i j : Int) : rq 0 n i j = 0 := by
  unfold rq
  rw [Nat.zero_mul, stick_zero]
  unfold rung
  rw [if_pos rfl]
  exact Nat.min_eq_left (Nat.zero_le _)
theorem big_quot {m n : Nat} (hm : m ≠ 0) (hn : 0 < n) : 2 ^ (52 + 1) ≤ m * 2 ^ (54 + n.log2 - m.log2) / n := by
  rw [Nat.le_div_iff_mul_le hn]
  have h1 : n ≤ 2 ^ (n.log2 + 1) := Nat.le_of_lt Nat.lt_log2_self
  have h2 : 2 ^ m.log2 ≤ m := Nat.log2_self_le hm
  calc 2 ^ (52 + 1) * n ≤ 2 ^ (52 + 1) * 2 ^ (n.log2 + 1) := Nat.mul_le_mul_left _ h1
    _ = 2 ^ (52 + 1 + (n.log2 + 1)) := by rw [← Nat.pow_add]
    _ ≤ 2 ^ (m.log2 + (54 + n.log2 - m.log2)) := Nat.pow_le_pow_right (by decide) (by omega)
    _ = 2 ^ m.log2 * 2 ^ (54 + n.log2 - m.log2) := by rw [Nat.pow_add]
    _ ≤ m * 2 ^ (54 + n.log2 - m.log2) := Nat.mul_le_mul_right _ h2
theorem rq_mono {m1 m2 n : Nat} {i1 i2 j : Int} (hn : n ≠ 0) (h : m1 * 2 ^ (i1 - min i1 i2).toNat ≤ m2 * 2 ^ (i2 - min i1 i2).toNat) : rq m1 n i1 j ≤ rq m2 n i2 j := by
  by_cases h1 : m1 = 0
  · subst h1; rw [rq_zero]; exact Nat.zero_le _
  · have h2 : m2 ≠ 0 := by
      rintro rfl
      rw [Nat.zero_mul] at h
      have := Nat.mul_pos (Nat.pos_of_ne_zero h1) (Nat.two_pow_pos (i1 - min i1 i2).toNat)
      omega
    have hp := Nat.pos_of_ne_zero hn
    have := quot_mono (F := 52) (E := -1074) (j := j) hp (big_quot h1 hp) (big_quot h2 hp) h
    unfold rq
    omega
/-- what a finite number is as a 64-bit one -/
theorem wide_mag {x : Nat} (hx : x % 2147483648 < 2139095040) : ∃ (m : Nat) (e : Int) (M : Nat) (i : Int), -149 ≤ e ∧ m * 2 ^ (e + 149).toNat = mag 8388608 (x % 2147483648) ∧ Ieee.double.read (cwide x) = .number (x / 2147483648 % 2 == 1) M i ∧
    M * 2 ^ (i + (EE : Int)).toNat = mag 4503599627370496 (rung 52 (-1074) m e) ∧ -(EE : Int) ≤ i ∧ (x % 2147483648 = 0 → M = 0) := by
  obtain ⟨m, e, h1, h2, h3, h4⟩ := read_mag32 hx
  have hf : fin32 x = true := by simp only [fin32, decide_eq_true_eq]; exact hx
  have hw : cwide x = Ieee.double.word (x / 2147483648 % 2 == 1) (min (rung 52 (-1074) m e) 9218868437227405312) := by
    rw [cwide_at hf, h1]
    exact nearest_rung64 _ _ _
  have hfin := widen_fin h1
  have hlt : rung 52 (-1074) m e < 9218868437227405312 := by
    by_cases h : rung 52 (-1074) m e < 9218868437227405312
    · exact h
    · exfalso
      have hw2 : Ieee.double.write (.number (x / 2147483648 % 2 == 1) m e) = Ieee.double.word (x / 2147483648 % 2 == 1) 9218868437227405312 := by
        show Ieee.double.nearest _ _ _ = _
        rw [nearest_rung64, Nat.min_eq_right (by omega)]
      rw [hw2] at hfin
      cases hb : (x / 2147483648 % 2 == 1) <;> rw [hb] at hfin <;> revert hfin <;> decide +kernel
  rw [Nat.min_eq_left (Nat.le_of_lt hlt)] at hw
  obtain ⟨M, i, g1, g2, g3⟩ := read_mag64 (x / 2147483648 % 2 == 1) hlt
  refine ⟨m, e, M, i, h3, h2, by rw [hw]; exact g1, g2, g3, fun h0 => ?_⟩
  have hm := h4.2 h0
  rw [hm] at g2
  have : rung 52 (-1074) 0 e = 0 := by unfold rung; rw [if_pos rfl]
  rw [this] at g2
  have hz : mag 4503599627370496 0 = 0 := by unfold mag; rw [if_pos (by decide)]
  rw [hz] at g2
  rcases Nat.mul_eq_zero.1 g2 with h | h
  · exact h
  · have := Nat.two_pow_pos (i + (EE : Int)).toNat; omega
/-- the code of a number, by the nearest whole quotient -/
def codeOf (x s : Nat) : Int := lim (rteV .even (vq x s))
theorem code_word {x s : Nat} (hx : x % 2147483648 < 2139095040) (h0 : 0 < s) (hs : s < 2139095040) : ∃ r, codeOf x s = sgn (x / 2147483648 % 2 == 1) (codeMag r) ∧ (x % 2147483648 = 0 → r = 0) ∧
    ∀ y, y % 2147483648 < 2139095040 → x % 2147483648 ≤ y % 2147483648 → ∃ q, codeOf y s = sgn (y / 2147483648 % 2 == 1) (codeMag q) ∧ r ≤ q := by
  obtain ⟨m, e, M, i, h1, h2, h3, h4, h5, h6⟩ := wide_mag hx
  obtain ⟨_, _, n, j, _, _, k3, _, _, _⟩ := wide_mag (x := s) (by omega)
  obtain ⟨t, n', j', g1, g2⟩ := cwide_some h0 hs
  rw [k3] at g1
  injection g1 with g1a g1b g1c
  have hn : n ≠ 0 := by rw [g1b]; exact g2
  have hsg : (s / 2147483648 % 2 == 1) = false := by rw [Nat.div_eq_of_lt (by omega)]; rfl
  rw [hsg] at k3
  have hrq : ∀ M i, rq M n i j ≤ 9218868437227405312 := fun M i => Nat.min_le_right _ _
  refine ⟨rq M n i j, ?_, fun hz => by rw [h6 hz]; exact rq_zero _ _ _, ?_⟩
  · unfold codeOf
    rw [vq_rq h3 k3 hn, Bool.xor_false]
    exact lim_rte _ (hrq _ _)
  · intro y hy hle
    obtain ⟨m2, e2, M2, i2, y1, y2, y3, y4, y5, y6⟩ := wide_mag hy
    refine ⟨rq M2 n i2 j, ?_, ?_⟩
    · unfold codeOf
      rw [vq_rq y3 k3 hn, Bool.xor_false]
      exact lim_rte _ (hrq _ _)
    · refine rq_mono hn (below_min (c := EE) h5 y5 ?_)
      rw [h4, y4]
      have hmag : mag 8388608 (x % 2147483648) ≤ mag 8388608 (y % 2147483648) := by
        rcases Nat.lt_or_eq_of_le hle with h | h
        · exact Nat.le_of_lt (mag_mono (by decide) h)
        · rw [h]; exact Nat.le_refl _
      rw [← h2, ← y2] at hmag
      have hr : rung 52 (-1074) m e ≤ rung 52 (-1074) m2 e2 := rung_mono (below_min (c := 149) (by omega) (by omega) hmag)
      rcases Nat.lt_or_eq_of_le hr with h | h
      · exact Nat.le_of_lt (mag_mono (by decide) h)
      · rw [h]; exact Nat.le_refl _
theorem sgn_le {a b : Nat} (h : a ≤ b) : sgn false a ≤ sgn false b ∧ sgn true b ≤ sgn true a := by unfold sgn; simp; omega
/-- codes rise -/
theorem code_rise {x y s : Nat} (hx : x < 4294967296) (hy : y < 4294967296) (fx : x % 2147483648 < 2139095040) (fy : y % 2147483648 < 2139095040) (h0 : 0 < s) (hs : s < 2139095040) (h : k32 x ≤ k32 y) : codeOf x s ≤ codeOf y s := by
  obtain ⟨r, c1, z1, n1⟩ := code_word fx h0 hs
  obtain ⟨q, c2, z2, n2⟩ := code_word fy h0 hs
  have sx : (x / 2147483648 % 2 == 1) = decide (2147483648 ≤ x) := by
    by_cases g : 2147483648 ≤ x
    · rw [decide_eq_true g, show x / 2147483648 = 1 by omega]; rfl
    · rw [decide_eq_false g, show x / 2147483648 = 0 by omega]; rfl
  have sy : (y / 2147483648 % 2 == 1) = decide (2147483648 ≤ y) := by
    by_cases g : 2147483648 ≤ y
    · rw [decide_eq_true g, show y / 2147483648 = 1 by omega]; rfl
    · rw [decide_eq_false g, show y / 2147483648 = 0 by omega]; rfl
  unfold k32 at h
  by_cases gx : 2147483648 ≤ x
  · rw [if_neg (by omega)] at h
    by_cases gy : 2147483648 ≤ y
    · rw [if_neg (by omega)] at h
      obtain ⟨q', d1, d2⟩ := n2 x fx (by omega)
      rw [c2, d1, sx, sy, decide_eq_true gx, decide_eq_true gy]
      exact (sgn_le (codeMag_mono d2)).2
    · rw [c1, c2, sx, sy, decide_eq_true gx, decide_eq_false gy]
      unfold sgn
      simp
  · rw [if_pos (by omega)] at h
    by_cases gy : 2147483648 ≤ y
    · rw [if_neg (by omega)] at h
      rw [c1, c2, z1 (by omega), z2 (by omega), codeMag_zero]
      unfold sgn
      simp
    · rw [if_pos (by omega)] at h
      obtain ⟨q', d1, d2⟩ := n1 y fy (by omega)
      rw [c1, d1, sx, sy, decide_eq_false gx, decide_eq_false gy]
      exact (sgn_le (codeMag_mono d2)).1
theorem code_in {x s : Nat} (fx : x % 2147483648 < 2139095040) (h0 : 0 < s) (hs : s < 2139095040) : -127 ≤ codeOf x s ∧ codeOf x s ≤ 127 := by
  obtain ⟨r, c1, _, _⟩ := code_word fx h0 hs
  have := codeMag_le r
  rw [c1]
  unfold sgn
  split <;> omega
end Go.Proofs.Ytkpcjjnaocdelaa
