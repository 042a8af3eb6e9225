/-
  Bounds by powers of two that rounding keeps, for sums, products, quotients and roots of 64-bit numbers, and that a bounded one is not too great for 32 bits. Conditions: as each says.
-/
import Derived.Test.YtpdgpoonblldgaaKey
import GoSem.Extern.MathSqrt
namespace Go.Proofs.Ytpdgpoonblldgaa
open Ieee
/-- a magnitude of at most 2 ^ K -/
def AtMost (m : Nat) (e K : Int) : Prop := m = 0 ∨ (e ≤ K ∧ m ≤ 2 ^ (K - e).toNat)

theorem cut_le {n drop B : Nat} (neg : Bool) (h : n ≤ B * 2 ^ drop) : Toward.even.cut neg n drop ≤ B := by
  unfold Toward.cut
  simp only
  rw [Nat.shiftLeft_eq, Nat.one_mul]
  by_cases hd : drop ≤ n.log2 + 2
  · rw [Nat.min_eq_left hd]
    have hp : 0 < 2 ^ drop := Nat.two_pow_pos _
    generalize 2 ^ drop = g at *
    have h1 := Nat.div_add_mod n g
    have h2 := Nat.mod_lt n hp
    by_cases hb : n / g = B
    · have h3 : n % g = 0 := by
        rw [hb, Nat.mul_comm] at h1
        omega
      rw [h3, hb]
      have : (decide (g < 2 * 0) || g == 2 * 0 && B % 2 == 1) = false := by
        simp; omega
      rw [this]; simp
    · have h4 : n / g ≤ B := Nat.div_le_of_le_mul (by rw [Nat.mul_comm]; exact h)
      have : (decide (g < 2 * (n % g)) || g == 2 * (n % g) && n / g % 2 == 1).toNat ≤ 1 := Bool.toNat_le _
      omega
  · rw [Nat.min_eq_right (by omega)]
    have hlt : n < 2 ^ (n.log2 + 1) := Nat.lt_log2_self
    have hlt2 : n < 2 ^ (n.log2 + 2) := Nat.lt_of_lt_of_le hlt (Nat.pow_le_pow_right (by decide) (by omega))
    rw [Nat.div_eq_of_lt hlt2, Nat.mod_eq_of_lt hlt2]
    have h5 : 2 * n < 2 ^ (n.log2 + 2) := by rw [Nat.pow_succ]; omega
    have : (decide (2 ^ (n.log2 + 2) < 2 * n) || 2 ^ (n.log2 + 2) == 2 * n && 0 % 2 == 1) = false := by
      simp; omega
    rw [this]; simp

theorem pow_mul_le {m a b c : Nat} (h : m ≤ 2 ^ a) (hab : a + b ≤ c) : m * 2 ^ b ≤ 2 ^ c :=
  calc m * 2 ^ b ≤ 2 ^ a * 2 ^ b := Nat.mul_le_mul_right _ h
    _ = 2 ^ (a + b) := (Nat.pow_add ..).symm
    _ ≤ 2 ^ c := Nat.pow_le_pow_right (by decide) hab

/-- THE NEAREST WORD OF A MAGNITUDE OF AT MOST 2 ^ K IS AT MOST 2 ^ K -/
theorem nearest_le (f : Format) (s : Bool) {m : Nat} {e K : Int} (h : AtMost m e K) (hK : f.leastPlace + f.fractionBits ≤ K) :
    f.nearest s m e % f.signWeight ≤ (K - f.leastPlace - f.fractionBits + 1).toNat * f.binade := by
  have hw : ∀ r, r ≤ f.infRung → f.word s r % f.signWeight = r := fun r hr => by
    have := f.infRung_lt
    unfold Format.word
    split
    · rw [Nat.add_mod_left]; exact Nat.mod_eq_of_lt (by omega)
    · exact Nat.mod_eq_of_lt (by omega)
  unfold Format.nearest
  simp only
  split
  · rw [hw 0 (Nat.zero_le _)]; exact Nat.zero_le _
  · rename_i hm
    rcases h with h0 | ⟨he, hm2⟩
    · exact absurd h0 hm
    rw [hw _ (Nat.min_le_right ..)]
    refine Nat.le_trans (Nat.min_le_left ..) ?_
    have hlog : 2 ^ m.log2 ≤ m := Nat.log2_self_le hm
    have hlog2 : m < 2 ^ (m.log2 + 1) := Nat.lt_log2_self
    have hT : m.log2 ≤ (K - e).toNat := by
      have := Nat.lt_of_le_of_lt (Nat.le_trans hlog hm2) (Nat.pow_lt_pow_right (by decide : 1 < 2) (Nat.lt_succ_self (K - e).toNat))
      have := (Nat.pow_lt_pow_iff_right (by decide : 1 < 2)).1 this
      omega
    unfold Format.binade
    generalize hp : f.fractionBits = p at *
    generalize hL : f.leastPlace = L at *
    generalize hlast : max (e + (m.log2 : Int) - (p : Int)) L = last
    have hlL : L ≤ last := by omega
    have hlT : e + (m.log2 : Int) - p ≤ last := by omega
    have keep : ∀ c : Nat, m * 2 ^ (e - last).toNat ≤ 2 ^ c * 2 ^ (last - e).toNat → Toward.even.cut s (m <<< (e - last).toNat) (last - e).toNat ≤ 2 ^ c := by
      intro c hc
      apply cut_le
      rw [Nat.shiftLeft_eq]; exact hc
    have k1 := keep (K - last).toNat (by rw [← Nat.pow_add]; exact pow_mul_le hm2 (by omega))
    have k2 := keep (e + (m.log2 : Int) - last + 1).toNat (by rw [← Nat.pow_add]; exact pow_mul_le (Nat.le_of_lt hlog2) (by omega))
    clear keep
    generalize Toward.even.cut s (m <<< (e - last).toNat) (last - e).toNat = kept at *
    by_cases hc : last = L
    · rw [hc, show (L - L).toNat = 0 by omega, Nat.zero_mul, Nat.zero_add]
      by_cases hT2 : e + (m.log2 : Int) - L + 1 ≤ p
      · have h1 : kept ≤ 2 ^ p := Nat.le_trans k2 (Nat.pow_le_pow_right (by decide) (by omega))
        have h2 : 1 ≤ (K - L - (p : Int) + 1).toNat := by omega
        calc kept ≤ 1 * 2 ^ p := by omega
          _ ≤ _ := Nat.mul_le_mul_right _ h2
      · by_cases hk : K = e + (m.log2 : Int)
        · rw [show (K - last).toNat = p by omega] at k1
          rw [show (K - L - (p : Int) + 1).toNat = 1 by omega]
          omega
        · rw [show (e + (m.log2 : Int) - last + 1).toNat = p + 1 by omega, Nat.pow_succ] at k2
          have : 2 ≤ (K - L - (p : Int) + 1).toNat := by omega
          calc kept ≤ 2 * 2 ^ p := by omega
            _ ≤ _ := Nat.mul_le_mul_right _ this
    · have hl : last = e + (m.log2 : Int) - p := by omega
      obtain ⟨a, ha⟩ : ∃ a : Nat, last - L = a := ⟨(last - L).toNat, by omega⟩
      rw [ha, Int.toNat_natCast]
      by_cases hk : K = e + (m.log2 : Int)
      · rw [show (K - last).toNat = p by omega] at k1
        rw [show (K - L - (p : Int) + 1).toNat = a + 1 by omega, Nat.add_mul, Nat.one_mul]
        omega
      · rw [show (e + (m.log2 : Int) - last + 1).toNat = p + 1 by omega, Nat.pow_succ] at k2
        have : a + 2 ≤ (K - L - (p : Int) + 1).toNat := by omega
        calc a * 2 ^ p + kept ≤ (a + 2) * 2 ^ p := by rw [Nat.add_mul]; omega
          _ ≤ _ := Nat.mul_le_mul_right _ this
theorem cut_ge {n drop B : Nat} (neg : Bool) (h : B * 2 ^ drop ≤ n) : B ≤ Toward.even.cut neg n drop := by
  unfold Toward.cut
  simp only
  rw [Nat.shiftLeft_eq, Nat.one_mul]
  by_cases hd : drop ≤ n.log2 + 2
  · rw [Nat.min_eq_left hd]
    have hp : 0 < 2 ^ drop := Nat.two_pow_pos _
    have : B ≤ n / 2 ^ drop := (Nat.le_div_iff_mul_le hp).2 h
    omega
  · have hlt : n < 2 ^ (n.log2 + 1) := Nat.lt_log2_self
    have h2 : 2 ^ (n.log2 + 1) ≤ 2 ^ drop := Nat.pow_le_pow_right (by decide) (by omega)
    have : B = 0 := by
      rcases Nat.eq_zero_or_pos B with h0 | h0
      · exact h0
      · have : 2 ^ drop ≤ B * 2 ^ drop := Nat.le_mul_of_pos_left _ h0
        omega
    rw [this]; exact Nat.zero_le _

/-- a magnitude of at least 2 ^ K -/
def AtLeast (m : Nat) (e K : Int) : Prop := 2 ^ (K - e).toNat ≤ m * 2 ^ (e - K).toNat

theorem word_mod (f : Format) (s : Bool) {r : Nat} (hr : r ≤ f.infRung) : f.word s r % f.signWeight = r := by
  have := f.infRung_lt
  unfold Format.word
  split
  · rw [Nat.add_mod_left]; exact Nat.mod_eq_of_lt (by omega)
  · exact Nat.mod_eq_of_lt (by omega)

/-- the rung of 2 ^ K -/
def pow2 (f : Format) (K : Int) : Nat := (K - f.leastPlace - f.fractionBits + 1).toNat * f.binade

theorem nearest_ge (f : Format) (s : Bool) {m : Nat} {e K : Int} (h : AtLeast m e K) (hK : f.leastPlace + f.fractionBits ≤ K) (hU : pow2 f K ≤ f.infRung) :
    pow2 f K ≤ f.nearest s m e % f.signWeight := by
  unfold pow2 at *
  unfold Format.nearest
  simp only
  have hm : m ≠ 0 := by
    intro h0; subst h0; unfold AtLeast at h; rw [Nat.zero_mul] at h
    have := Nat.two_pow_pos (K - e).toNat; omega
  rw [if_neg hm, word_mod f s (Nat.min_le_right ..)]
  refine Nat.le_min.2 ⟨?_, hU⟩
  have hlog2 : m < 2 ^ (m.log2 + 1) := Nat.lt_log2_self
  have hlog : 2 ^ m.log2 ≤ m := Nat.log2_self_le hm
  have hT : K ≤ e + (m.log2 : Int) := by
    unfold AtLeast at h
    have h1 : m * 2 ^ (e - K).toNat < 2 ^ (m.log2 + 1 + (e - K).toNat) := by
      rw [Nat.pow_add]; exact Nat.mul_lt_mul_of_pos_right hlog2 (Nat.two_pow_pos _)
    have h2 := (Nat.pow_lt_pow_iff_right (by decide : 1 < 2)).1 (Nat.lt_of_le_of_lt h h1)
    omega
  unfold Format.binade
  generalize hp : f.fractionBits = p at *
  generalize hL : f.leastPlace = L at *
  rw [show max (e + (m.log2 : Int) - (p : Int)) L = e + (m.log2 : Int) - p by omega]
  have hk : 2 ^ p ≤ Toward.even.cut s (m <<< (e - (e + (m.log2 : Int) - p)).toNat) ((e + (m.log2 : Int) - p) - e).toNat := by
    apply cut_ge
    rw [Nat.shiftLeft_eq, ← Nat.pow_add]
    calc 2 ^ (p + ((e + (m.log2 : Int) - p) - e).toNat) = 2 ^ (m.log2 + (e - (e + (m.log2 : Int) - p)).toNat) := by congr 1; omega
      _ = 2 ^ m.log2 * 2 ^ (e - (e + (m.log2 : Int) - p)).toNat := Nat.pow_add ..
      _ ≤ _ := Nat.mul_le_mul_right _ hlog
  generalize Toward.even.cut s (m <<< (e - (e + (m.log2 : Int) - p)).toNat) ((e + (m.log2 : Int) - p) - e).toNat = kept at *
  have : (K - L - (p : Int) + 1).toNat ≤ (e + (m.log2 : Int) - p - L).toNat + 1 := by omega
  calc (K - L - (p : Int) + 1).toNat * 2 ^ p ≤ ((e + (m.log2 : Int) - p - L).toNat + 1) * 2 ^ p := Nat.mul_le_mul_right _ this
    _ ≤ _ := by rw [Nat.add_mul]; omega

theorem read_le (f : Format) {x : Nat} {K : Int} (h : x % f.signWeight ≤ pow2 f K) (hK : f.leastPlace + f.fractionBits ≤ K) (hfin : x % f.signWeight < f.infRung) :
    ∃ m e, f.read x = .number (x / f.signWeight % 2 == 1) m e ∧ AtMost m e K := by
  unfold pow2 at h
  unfold Format.read
  simp only
  unfold AtMost
  have hb : 0 < f.binade := Nat.two_pow_pos _
  split
  · rename_i h1
    refine ⟨_, _, rfl, .inr ⟨by omega, ?_⟩⟩
    refine Nat.le_trans (Nat.le_of_lt h1) ?_
    exact Nat.pow_le_pow_right (by decide) (by omega)
  · rename_i h1
    refine ⟨_, _, rfl, .inr ?_⟩
    generalize x % f.signWeight = r at *
    have hq1 : 1 ≤ r / f.binade := (Nat.le_div_iff_mul_le hb).2 (by omega)
    have hq2 : r / f.binade ≤ (K - f.leastPlace - f.fractionBits + 1).toNat := Nat.div_le_of_le_mul (by rw [Nat.mul_comm]; exact h)
    refine ⟨by omega, ?_⟩
    have hmod : r % f.binade < f.binade := Nat.mod_lt _ hb
    by_cases heq : r / f.binade = (K - f.leastPlace - f.fractionBits + 1).toNat
    · have hdm := Nat.div_add_mod r f.binade
      rw [heq, Nat.mul_comm] at hdm
      have : r % f.binade = 0 := by omega
      rw [this, Nat.add_zero]
      exact Nat.pow_le_pow_right (by decide) (by omega)
    · have h2 : f.binade + r % f.binade ≤ 2 ^ (f.fractionBits + 1) := by
        rw [Nat.pow_succ]
        have : f.binade = 2 ^ f.fractionBits := rfl
        omega
      exact Nat.le_trans h2 (Nat.pow_le_pow_right (by decide) (by omega))
theorem read_ge (f : Format) {x : Nat} {K : Int} (h : pow2 f K ≤ x % f.signWeight) (hK : f.leastPlace + f.fractionBits ≤ K) (hfin : x % f.signWeight < f.infRung) :
    ∃ m e, f.read x = .number (x / f.signWeight % 2 == 1) m e ∧ AtLeast m e K := by
  unfold pow2 at h
  unfold Format.read
  simp only
  unfold AtLeast
  have hb : 0 < f.binade := Nat.two_pow_pos _
  have h1 : 1 * f.binade ≤ (K - f.leastPlace - f.fractionBits + 1).toNat * f.binade := Nat.mul_le_mul_right _ (by omega)
  rw [if_neg (by omega), if_pos hfin]
  refine ⟨_, _, rfl, ?_⟩
  generalize x % f.signWeight = r at *
  have hq2 : (K - f.leastPlace - f.fractionBits + 1).toNat ≤ r / f.binade := (Nat.le_div_iff_mul_le hb).2 h
  have hbb : f.binade = 2 ^ f.fractionBits := rfl
  generalize r / f.binade = q at *
  generalize r % f.binade = t at *
  calc 2 ^ (K - (f.leastPlace + ((q - 1 : Nat) : Int))).toNat ≤ 2 ^ (f.fractionBits + (f.leastPlace + ((q - 1 : Nat) : Int) - K).toNat) := Nat.pow_le_pow_right (by decide) (by omega)
    _ = f.binade * 2 ^ (f.leastPlace + ((q - 1 : Nat) : Int) - K).toNat := by rw [Nat.pow_add, hbb]
    _ ≤ _ := Nat.mul_le_mul_right _ (by omega)
/-! operations on bounded data -/
def Datum.atMost (d : Datum) (K : Int) : Prop := match d with | .number _ m e => AtMost m e K | _ => True

theorem AtMost.mono {m : Nat} {e K K' : Int} (h : AtMost m e K) (hK : K ≤ K') : AtMost m e K' := by
  rcases h with h | ⟨h1, h2⟩
  · exact .inl h
  · exact .inr ⟨by omega, Nat.le_trans h2 (Nat.pow_le_pow_right (by decide) (by omega))⟩

theorem atMost_mul {m n : Nat} {i j a b : Int} (hm : AtMost m i a) (hn : AtMost n j b) : AtMost (m * n) (i + j) (a + b) := by
  rcases hm with rfl | ⟨h1, h2⟩
  · exact .inl (Nat.zero_mul _)
  · rcases hn with rfl | ⟨h3, h4⟩
    · exact .inl (Nat.mul_zero _)
    · refine .inr ⟨by omega, ?_⟩
      calc m * n ≤ 2 ^ (a - i).toNat * 2 ^ (b - j).toNat := Nat.mul_le_mul h2 h4
        _ = 2 ^ ((a - i).toNat + (b - j).toNat) := (Nat.pow_add ..).symm
        _ ≤ _ := Nat.pow_le_pow_right (by decide) (by omega)

theorem signed_abs (s : Bool) (m k : Nat) : (signed s m k).natAbs = m * 2 ^ k := by
  unfold signed; rw [Nat.shiftLeft_eq]; split <;> simp only [Int.natAbs_neg, Int.natAbs_natCast]
theorem atMost_shift {m : Nat} {i base K : Int} (h : AtMost m i K) (hb : base ≤ i) : m * 2 ^ (i - base).toNat ≤ 2 ^ (K - base).toNat := by
  rcases h with rfl | ⟨h1, h2⟩
  · rw [Nat.zero_mul]; exact Nat.zero_le _
  · exact pow_mul_le h2 (by omega)
theorem atMost_sum {s t : Bool} {m n : Nat} {i j K : Int} (hm : AtMost m i K) (hn : AtMost n j K) (hi : i ≤ K) (hj : j ≤ K) :
    AtMost (signed s m (i - min i j).toNat + signed t n (j - min i j).toNat).natAbs (min i j) (K + 1) := by
  refine .inr ⟨by omega, ?_⟩
  have h1 := atMost_shift hm (show min i j ≤ i by omega)
  have h2 := atMost_shift hn (show min i j ≤ j by omega)
  have h3 := Int.natAbs_add_le (signed s m (i - min i j).toNat) (signed t n (j - min i j).toNat)
  rw [signed_abs, signed_abs] at h3
  have h4 : 2 ^ (K + 1 - min i j).toNat = 2 ^ (K - min i j).toNat * 2 := by
    rw [show (K + 1 - min i j).toNat = (K - min i j).toNat + 1 by omega, Nat.pow_succ]
  rw [h4]
  omega

/-- |x| ≤ 2 ^ a, |y| ≥ 2 ^ b: the digits of the quotient tell at most 2 ^ (a - b) -/
theorem atMost_quo {m n digits : Nat} {i j a b : Int} (hm : AtMost m i a) (hn : AtLeast n j b) (hmore : (i - j - (digits + n.log2 - m.log2 : Nat) : Int) ≤ a - b) :
    AtMost (2 * (m <<< (digits + n.log2 - m.log2) / n) + (m <<< (digits + n.log2 - m.log2) % n != 0).toNat) (i - j - (digits + n.log2 - m.log2 : Nat) - 1) (a - b) := by
  generalize (digits + n.log2 - m.log2) = more at *
  rw [Nat.shiftLeft_eq]
  refine .inr ⟨by omega, ?_⟩
  have hD : m * 2 ^ more ≤ n * 2 ^ (a - b - (i - j - more)).toNat := by
    rcases hm with rfl | ⟨h1, h2⟩
    · rw [Nat.zero_mul]; exact Nat.zero_le _
    · unfold AtLeast at hn
      have e1 : m * 2 ^ more * 2 ^ (j - b).toNat ≤ 2 ^ ((a - i).toNat + more + (j - b).toNat) := by
        rw [Nat.pow_add, Nat.pow_add]
        exact Nat.mul_le_mul_right _ (Nat.mul_le_mul_right _ h2)
      have e2 : 2 ^ ((b - j).toNat + (a - b - (i - j - more)).toNat) ≤ n * 2 ^ (a - b - (i - j - more)).toNat * 2 ^ (j - b).toNat := by
        rw [Nat.pow_add, Nat.mul_assoc, Nat.mul_comm (2 ^ (a - b - (i - j - more)).toNat), ← Nat.mul_assoc]
        exact Nat.mul_le_mul_right _ hn
      have e3 : (a - i).toNat + more + (j - b).toNat = (b - j).toNat + (a - b - (i - j - more)).toNat := by omega
      rw [e3] at e1
      exact Nat.le_of_mul_le_mul_right (Nat.le_trans e1 e2) (Nat.two_pow_pos _)
  have hq : m * 2 ^ more / n ≤ 2 ^ (a - b - (i - j - more)).toNat := Nat.div_le_of_le_mul hD
  have e4 : (a - b - (i - j - more - 1)).toNat = (a - b - (i - j - more)).toNat + 1 := by omega
  rw [e4, Nat.pow_succ]
  generalize 2 ^ (a - b - (i - j - more)).toNat = B at *
  have hdm := Nat.div_add_mod (m * 2 ^ more) n
  by_cases he : m * 2 ^ more / n = B
  · have : m * 2 ^ more % n = 0 := by rw [he] at hdm; omega
    rw [this, he]; simp; omega
  · have := Bool.toNat_le (m * 2 ^ more % n != 0)
    omega
theorem dsum_le (f : Format) : f.infRung < f.signWeight := f.infRung_lt
theorem double_pow {K : Int} : pow2 Ieee.double K = (K + 1023).toNat * 4503599627370496 := by
  unfold pow2; rw [double_least, double_frac, double_bin]; congr 2; omega
theorem single_pow {K : Int} : pow2 Ieee.single K = (K + 127).toNat * 8388608 := by
  unfold pow2; rw [single_least, single_frac, single_bin]; congr 2; omega
theorem double_pow_lt {K : Int} (h : K ≤ 1023) : pow2 Ieee.double K < 9218868437227405312 := by
  rw [double_pow]; have : (K + 1023).toNat ≤ 2046 := by omega
  generalize (K + 1023).toNat = q at *; omega

/-- a 64-bit number that is none, or of a magnitude of at most 2 ^ K -/
def B64 (x : Nat) (K : Int) : Prop := isNan .f64 x = true ∨ x % 9223372036854775808 ≤ pow2 Ieee.double K
theorem B64.read {x : Nat} {K : Int} (h : x % 9223372036854775808 ≤ pow2 Ieee.double K) (h1 : -1022 ≤ K) (h2 : K ≤ 1023) : ∃ s m e, Ieee.double.read x = .number s m e ∧ AtMost m e K := by
  have h3 := double_pow_lt h2
  obtain ⟨m, e, hr, hm⟩ := read_le Ieee.double (x := x) (K := K) (by rw [double_sw]; exact h) (by rw [double_least, double_frac]; omega) (by rw [double_sw, double_inf]; omega)
  exact ⟨_, m, e, hr, hm⟩
theorem B64.of_write {s : Bool} {m : Nat} {e K : Int} (h : AtMost m e K) (h1 : -1022 ≤ K) : Ieee.double.nearest s m e % 9223372036854775808 ≤ pow2 Ieee.double K := by
  have := nearest_le Ieee.double s h (by rw [double_least, double_frac]; omega)
  rw [double_sw] at this
  exact this
theorem AtMost.place {m : Nat} {e K : Int} (h : AtMost m e K) : m = 0 ∨ e ≤ K := by
  rcases h with h | h
  · exact .inl h
  · exact .inr h.1
theorem fval_none {op : BinOp} {k : FloatKind} {x y : Nat} (w : World) (h : floatBits op k x y = none) : isNan k (fval op k x y w) = true := by
  unfold fval; rw [h]; exact (cut_nanBits k x y _).1
theorem fval_some {op : BinOp} {k : FloatKind} {x y r : Nat} (w : World) (h : floatBits op k x y = some r) : fval op k x y w = r := by
  unfold fval; rw [h]; rfl

theorem b_mul {x y : Nat} {a b : Int} (w : World) (hx : B64 x a) (hy : B64 y b) (a1 : -1022 ≤ a) (a2 : a ≤ 1023) (b1 : -1022 ≤ b) (b2 : b ≤ 1023) (hab : -1022 ≤ a + b) : B64 (fval .mul .f64 x y w) (a + b) := by
  rcases hx with hx | hx
  · exact .inl (fval_none w (floatBits_nan_l _ _ hx))
  rcases hy with hy | hy
  · exact .inl (fval_none w (floatBits_nan_r _ _ hy))
  obtain ⟨s, m, i, hr, hm⟩ := B64.read hx a1 a2
  obtain ⟨t, n, j, hr', hn⟩ := B64.read hy b1 b2
  right
  have : floatBits .mul .f64 x y = some (Ieee.double.nearest (s ^^ t) (m * n) (i + j)) := by
    show ((Ieee.double.read x).product (Ieee.double.read y)).map Ieee.double.write = _
    rw [hr, hr']; rfl
  rw [fval_some w this]
  exact B64.of_write (atMost_mul hm hn) hab

theorem write_zero_le (s : Bool) (e K : Int) : Ieee.double.nearest s 0 e % 9223372036854775808 ≤ pow2 Ieee.double K := by
  unfold Format.nearest
  simp only [if_true]
  rw [← double_sw, word_mod _ _ (Nat.zero_le _)]
  exact Nat.zero_le _
theorem atMost_place_min {m : Nat} {e K : Int} (h : AtMost m e K) (hm : m ≠ 0) : e ≤ K := by
  rcases h with h | h
  · exact absurd h hm
  · exact h.1

theorem sum_bound {d1 d2 : Datum} {s t : Bool} {m n : Nat} {i j K : Int} (h1 : d1 = .number s m i) (h2 : d2 = .number t n j) (hm : AtMost m i K) (hn : AtMost n j K) (hK : -1023 ≤ K) :
    ∃ r, (d1.sum d2).map Ieee.double.write = some r ∧ r % 9223372036854775808 ≤ pow2 Ieee.double (K + 1) := by
  subst h1 h2
  refine ⟨_, rfl, ?_⟩
  by_cases hm0 : m = 0
  · by_cases hn0 : n = 0
    · subst hm0 hn0
      have e0 : ∀ (u : Bool) (k : Nat), signed u 0 k = 0 := fun u k => by unfold signed; simp
      simp only [e0]
      exact write_zero_le _ _ _
    · subst hm0
      have e0 : ∀ (u : Bool) (k : Nat), signed u 0 k = 0 := fun u k => by unfold signed; simp
      simp only [e0, Int.zero_add]
      refine B64.of_write (.inr ⟨?_, ?_⟩) (by omega)
      · have := atMost_place_min hn hn0; omega
      · rw [signed_abs]
        have := atMost_shift hn (show min i j ≤ j by omega)
        exact Nat.le_trans this (Nat.pow_le_pow_right (by decide) (by omega))
  · by_cases hn0 : n = 0
    · subst hn0
      have e0 : ∀ (u : Bool) (k : Nat), signed u 0 k = 0 := fun u k => by unfold signed; simp
      simp only [e0, Int.add_zero]
      refine B64.of_write (.inr ⟨?_, ?_⟩) (by omega)
      · have := atMost_place_min hm hm0; omega
      · rw [signed_abs]
        have := atMost_shift hm (show min i j ≤ i by omega)
        exact Nat.le_trans this (Nat.pow_le_pow_right (by decide) (by omega))
    · exact B64.of_write (atMost_sum hm hn (atMost_place_min hm hm0) (atMost_place_min hn hn0)) (by omega)

theorem b_add {x y : Nat} {K : Int} (w : World) (hx : B64 x K) (hy : B64 y K) (k1 : -1022 ≤ K) (k2 : K ≤ 1023) : B64 (fval .add .f64 x y w) (K + 1) := by
  rcases hx with hx | hx
  · exact .inl (fval_none w (floatBits_nan_l _ _ hx))
  rcases hy with hy | hy
  · exact .inl (fval_none w (floatBits_nan_r _ _ hy))
  obtain ⟨s, m, i, hr, hm⟩ := B64.read hx k1 k2
  obtain ⟨t, n, j, hr', hn⟩ := B64.read hy k1 k2
  right
  obtain ⟨r, h1, h2⟩ := sum_bound hr hr' hm hn (by omega)
  rw [fval_some w (show floatBits .add .f64 x y = some r from h1)]
  exact h2
theorem b_sub {x y : Nat} {K : Int} (w : World) (hx : B64 x K) (hy : B64 y K) (k1 : -1022 ≤ K) (k2 : K ≤ 1023) : B64 (fval .sub .f64 x y w) (K + 1) := by
  rcases hx with hx | hx
  · exact .inl (fval_none w (floatBits_nan_l _ _ hx))
  rcases hy with hy | hy
  · exact .inl (fval_none w (floatBits_nan_r _ _ hy))
  obtain ⟨s, m, i, hr, hm⟩ := B64.read hx k1 k2
  obtain ⟨t, n, j, hr', hn⟩ := B64.read hy k1 k2
  right
  obtain ⟨r, h1, h2⟩ := sum_bound (d2 := (Ieee.double.read y).opposite) hr (by rw [hr']; rfl) hm hn (by omega)
  rw [fval_some w (show floatBits .sub .f64 x y = some r from h1)]
  exact h2

theorem b_quo {x y : Nat} {a b : Int} (w : World) (hx : B64 x a) (hy : isNan .f64 y = true ∨ pow2 Ieee.double b ≤ y % 9223372036854775808 ∧ y % 9223372036854775808 < 9218868437227405312)
    (a1 : -1022 ≤ a) (a2 : a ≤ 1023) (b1 : -1022 ≤ b) (hab : -1022 ≤ a - b) : B64 (fval .quo .f64 x y w) (a - b) := by
  rcases hx with hx | hx
  · exact .inl (fval_none w (floatBits_nan_l _ _ hx))
  rcases hy with hy | ⟨hy, hf⟩
  · exact .inl (fval_none w (floatBits_nan_r _ _ hy))
  obtain ⟨s, m, i, hr, hm⟩ := B64.read hx a1 a2
  obtain ⟨n, j, hr', hn⟩ := read_ge Ieee.double (x := y) (K := b) (by rw [double_sw]; exact hy) (by rw [double_least, double_frac]; omega) (by rw [double_sw, double_inf]; exact hf)
  right
  have hn0 : n ≠ 0 := by
    intro h0; subst h0; unfold AtLeast at hn; rw [Nat.zero_mul] at hn
    have := Nat.two_pow_pos (b - j).toNat; omega
  have hq : floatBits .quo .f64 x y = ((Datum.number s m i).quotient 54 (Datum.number (y / Ieee.double.signWeight % 2 == 1) n j)).map Ieee.double.write := by
    show ((Ieee.double.read x).quotient 54 (Ieee.double.read y)).map Ieee.double.write = _
    rw [hr, hr']
  simp only [Datum.quotient, if_neg hn0] at hq
  rw [fval_some w hq]
  by_cases hm0 : m = 0
  · subst hm0
    rw [show (2 * (0 <<< (54 + n.log2 - Nat.log2 0) / n) + (0 <<< (54 + n.log2 - Nat.log2 0) % n != 0).toNat) = 0 by simp]
    exact write_zero_le _ _ _
  · refine B64.of_write (atMost_quo hm hn ?_) hab
    have h1 : m.log2 ≤ (a - i).toNat := by
      rcases hm with h0 | ⟨_, h2⟩
      · exact absurd h0 hm0
      · have := (Nat.pow_lt_pow_iff_right (by decide : 1 < 2)).1 (Nat.lt_of_le_of_lt (Nat.le_trans (Nat.log2_self_le hm0) h2) (Nat.pow_lt_pow_right (by decide : 1 < 2) (Nat.lt_succ_self (a - i).toNat)))
        omega
    have h1' := atMost_place_min hm hm0
    have h2 : b ≤ j + (n.log2 : Int) := by
      unfold AtLeast at hn
      have h3 : n * 2 ^ (j - b).toNat < 2 ^ (n.log2 + 1 + (j - b).toNat) := by
        rw [Nat.pow_add]; exact Nat.mul_lt_mul_of_pos_right Nat.lt_log2_self (Nat.two_pow_pos _)
      have h4 := (Nat.pow_lt_pow_iff_right (by decide : 1 < 2)).1 (Nat.lt_of_le_of_lt hn h3)
      omega
    omega

theorem read_isInf (f : Format) (x : Nat) (h : x % f.signWeight < f.infRung) : (f.read x).isInfinity = false := by
  unfold Format.read
  simp only
  split
  · rfl
  · rfl
/-- a number of at most 2 ^ 126 is not too great for 32 bits -/
theorem b_narrow {x : Nat} {K : Int} (h : B64 x K) (h1 : -1022 ≤ K) (h2 : K ≤ 126) : tooBig x = false := by
  rcases h with h | h
  · obtain ⟨s, t, hr⟩ := nan_read h
    unfold tooBig
    rw [show Ieee.double.read x = .nan s t from hr]
  · obtain ⟨s, m, e, hr, hm⟩ := B64.read h h1 (by omega)
    unfold tooBig
    rw [hr]
    have := nearest_le Ieee.single s (hm.mono (show K ≤ 126 from h2)) (by rw [single_least, single_frac]; omega)
    refine read_isInf _ _ (Nat.lt_of_le_of_lt this ?_)
    rw [single_inf, single_least, single_frac, single_bin]
    decide
theorem rootFrom_sq (n : Nat) : ∀ (todo root : Nat), root * root ≤ n → Datum.rootFrom n todo root * Datum.rootFrom n todo root ≤ n
  | 0, _, h => h
  | todo + 1, root, h => by
    unfold Datum.rootFrom
    simp only
    split
    · rename_i h2; exact rootFrom_sq n todo _ h2
    · exact rootFrom_sq n todo _ h

theorem root_atMost {m w : Nat} {i K h : Int} {more : Nat} (hm : m ≠ 0) (ha : AtMost m i (2 * K)) (hi : i - more = 2 * h) (hw : w * w ≤ m <<< more) :
    AtMost (2 * w + (w * w != m <<< more).toNat) (h - 1) K := by
  rcases ha with h0 | ⟨h1, h2⟩
  · exact absurd h0 hm
  refine .inr ⟨by omega, ?_⟩
  rw [Nat.shiftLeft_eq] at *
  have hn : m * 2 ^ more ≤ 2 ^ (K - h).toNat * 2 ^ (K - h).toNat := by
    rw [← Nat.pow_add]; exact pow_mul_le h2 (by omega)
  have e : (K - (h - 1)).toNat = (K - h).toNat + 1 := by omega
  rw [e, Nat.pow_succ]
  generalize 2 ^ (K - h).toNat = B at *
  have hwB : w ≤ B := by
    by_cases hc : w ≤ B
    · exact hc
    · exfalso
      have : B * B < w * w := Nat.mul_lt_mul'' (by omega) (by omega)
      omega
  by_cases he : w = B
  · subst he
    have : w * w = m * 2 ^ more := by omega
    rw [this]; simp; omega
  · have := Bool.toNat_le (w * w != m * 2 ^ more)
    omega

theorem sqrt_bound {s : Bool} {m : Nat} {i K : Int} {x r : Nat} (hx : Ieee.double.read x = .number s m i) (hm : AtMost m i (2 * K)) (h1 : -1022 ≤ K) (hr : Ieee.double.sqrt x = some r) : r % 9223372036854775808 ≤ pow2 Ieee.double K := by
  unfold Format.sqrt at hr
  rw [hx] at hr
  unfold Datum.root at hr
  simp only at hr
  by_cases hm0 : m = 0
  · rw [if_pos hm0] at hr
    cases hr
    subst hm0
    exact write_zero_le _ _ _
  · rw [if_neg hm0] at hr
    cases s
    · simp only [Bool.false_eq_true, if_false] at hr
      cases hr
      refine B64.of_write ?_ h1
      generalize hmore : 2 * (Ieee.double.fractionBits + 2) - m.log2 + ((i - ((2 * (Ieee.double.fractionBits + 2) - m.log2 : Nat) : Int)) % 2).toNat = more
      have hev : i - more = 2 * ((i - more) / 2) := by omega
      exact root_atMost hm0 hm hev (rootFrom_sq _ _ _ (Nat.zero_le _))
    · simp only [if_true] at hr; cases hr

/-- the square root, whatever the tape -/
def sqv (x : Nat) (w : World) : Nat := (Ieee.double.sqrt x).getD ((Question.nanBits .f64 x x).cut (w.tape w.drawn (.nanBits .f64 x x)))
def sqd (x : Nat) : Nat := if (Ieee.double.sqrt x).isSome then 0 else 1
def csq (x : Nat) : Nat := (Ieee.double.sqrt x).getD (qnan .f64)
theorem sqrt_nan {x : Nat} (h : isNan .f64 x = true) : Ieee.double.sqrt x = none := by
  obtain ⟨s, t, hr⟩ := nan_read h
  unfold Format.sqrt
  rw [show Ieee.double.read x = .nan s t from hr]
  rfl
theorem sqrt_num {x r : Nat} (h : Ieee.double.sqrt x = some r) : isNan .f64 r = false := map_write_num (fun _ => root_num) h
theorem canon_sqv (x : Nat) (w : World) : canon .f64 (sqv x w) = csq (canon .f64 x) := by
  unfold sqv csq
  by_cases hx : isNan .f64 x = true
  · rw [sqrt_nan hx, sqrt_nan (by rw [isNan_canon]; exact hx)]
    exact canon_nan (cut_nanBits .f64 x x _).1
  · rw [canon_num (b := x) (by simpa using hx)]
    cases h : Ieee.double.sqrt x with
    | none => exact canon_nan (cut_nanBits .f64 x x _).1
    | some r => exact canon_num (sqrt_num h)
theorem run_sqrt {P : Program} (x : Nat) (w : World) : (Extern.MathSqrt.sqrt #[.float .f64 x]).run P w = .ok (.float .f64 (sqv x w)) (w.drewN (sqd x)) := by
  have e : FloatKind.f64.format.sqrt x = Ieee.double.sqrt x := rfl
  unfold sqv sqd
  change Sem.run P (match FloatKind.f64.format.sqrt x with | some r => pure (Value.float .f64 r) | none => do pure (Value.float .f64 (← choose (.nanBits .f64 x x)))) w = _
  rw [e]
  cases h : Ieee.double.sqrt x with
  | none => simp [choose, Sem.run, Question.forced, World.drewN]
  | some r => simp [World.drewN_zero]

/-- a 32-bit number, taken as a 64-bit one: at most 2 ^ 128, or an infinity -/
theorem wide_bound (x : Nat) (w : World) : B64 (wide x w) 128 ∨ ∃ s, Ieee.double.read (wide x w) = .infinity s := by
  unfold wide
  split
  · exact .inl (.inl (cut_nanConv .f64 x _).1)
  · rename_i hn
    cases hr : Ieee.single.read x with
    | nan s t => exfalso; apply hn; unfold isNan; show (Ieee.single.read x).isNaN = true; rw [hr]; rfl
    | infinity s =>
      right
      refine ⟨s, ?_⟩
      cases s <;> decide +kernel
    | number s m e =>
      left; right
      obtain ⟨h1, h2, h3⟩ := read32_num hr
      exact B64.of_write (.inr ⟨by omega, Nat.le_trans (Nat.le_of_lt h1) (Nat.pow_le_pow_right (by decide) (by omega))⟩) (by decide)

theorem tooBig_inf {x : Nat} {s : Bool} (h : Ieee.double.read x = .infinity s) : tooBig x = false := by unfold tooBig; rw [h]
theorem sqrt_inf_pos {x : Nat} (h : Ieee.double.read x = .infinity false) : Ieee.double.sqrt x = some (Ieee.double.write (.infinity false)) := by unfold Format.sqrt; rw [h]; rfl
theorem sqrt_inf_neg {x : Nat} (h : Ieee.double.read x = .infinity true) : Ieee.double.sqrt x = none := by unfold Format.sqrt; rw [h]; rfl
theorem read_inf_pos : Ieee.double.read (Ieee.double.write (.infinity false)) = .infinity false := by decide +kernel
theorem tooBig_none {x : Nat} (w : World) (h : Ieee.double.sqrt x = none) : tooBig (sqv x w) = false := by
  unfold sqv
  rw [h, Option.getD_none]
  generalize hc : (Question.nanBits .f64 x x).cut (w.tape w.drawn (.nanBits .f64 x x)) = c
  exact b_narrow (K := 64) (.inl (by rw [← hc]; exact (cut_nanBits .f64 x x _).1)) (by decide) (by decide)
theorem tooBig_some {x r : Nat} (w : World) (h : Ieee.double.sqrt x = some r) (ht : tooBig r = false) : tooBig (sqv x w) = false := by
  unfold sqv
  rw [h, Option.getD_some]
  exact ht
theorem tooBig_root (x : Nat) (w w' : World) : tooBig (sqv (wide x w) w') = false := by
  rcases wide_bound x w with h | ⟨s, h⟩
  · generalize wide x w = y at *
    cases hr : Ieee.double.sqrt y with
    | none => exact tooBig_none w' hr
    | some r =>
      rcases h with h | h
      · rw [sqrt_nan h] at hr; cases hr
      · obtain ⟨s, m, e, hx, hm⟩ := B64.read h (by decide) (by decide)
        exact tooBig_some w' hr (b_narrow (K := 64) (.inr (sqrt_bound (K := 64) hx hm (by decide) hr)) (by decide) (by decide))
  · generalize wide x w = y at *
    cases s
    · exact tooBig_some w' (sqrt_inf_pos h) (tooBig_inf read_inf_pos)
    · exact tooBig_none w' (sqrt_inf_neg h)
end Go.Proofs.Ytpdgpoonblldgaa
