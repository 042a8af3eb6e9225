/-
  The exponential function's steps on 64-bit numbers: on one pattern for not-a-numbers, with bounds by powers of two, and that the hyperbolic tangent's quotient is not too great for 32 bits. Conditions: as each says.
-/
import Derived.Test.YtpdgpoonblldgaaBound
namespace Go.Proofs.Ytpdgpoonblldgaa
open Ieee
theorem B64.mono {x : Nat} {K K' : Int} (h : B64 x K) (hK : K ≤ K') : B64 x K' := by
  rcases h with h | h
  · exact .inl h
  · refine .inr (Nat.le_trans h ?_)
    rw [double_pow, double_pow]
    exact Nat.mul_le_mul_right _ (by omega)
theorem b_one64 : B64 4607182418800017408 0 := .inr (by rw [double_pow]; decide)
theorem b_two64 : B64 4611686018427387904 1 := .inr (by rw [double_pow]; decide)
theorem canon64_one : canon .f64 4607182418800017408 = 4607182418800017408 := by decide +kernel
theorem canon64_two : canon .f64 4611686018427387904 = 4611686018427387904 := by decide +kernel
theorem canon64_256 : canon .f64 4643211215818981376 = 4643211215818981376 := by decide +kernel

theorem num_lt64 {x : Nat} (h : isNan .f64 x = false) : x % 9223372036854775808 ≤ 9218868437227405312 := by
  rw [isNan64] at h; simpa using h
theorem key64 (x : Nat) : key Ieee.double x = if x / 9223372036854775808 % 2 == 1 then -((x % 9223372036854775808 : Nat) : Int) else ((x % 9223372036854775808 : Nat) : Int) := by
  unfold key; rw [double_sw]
theorem order64 {x y : Nat} (hx : isNan .f64 x = false) (hy : isNan .f64 y = false) : FloatKind.f64.format.order x y = some (compare (key Ieee.double x) (key Ieee.double y)) :=
  order_key Ieee.double x y (by rw [double_bin, double_inf]; decide) hx hy
/-- of at most 64: not greater than 200, not less than -200 -/
theorem in_200 {x : Nat} (h : B64 x 6) : (FloatKind.f64.format.order x 4641240890982006784 == some .gt) = false ∧ (FloatKind.f64.format.order x 13864612927836782592 == some .lt) = false := by
  by_cases hn : isNan .f64 x = true
  · rw [order_isNan_l _ hn, order_isNan_l _ hn]; exact ⟨rfl, rfl⟩
  · have hn : isNan .f64 x = false := by simpa using hn
    rcases h with h | h
    · rw [h] at hn; cases hn
    rw [double_pow] at h
    rw [order64 hn (by decide +kernel), order64 hn (by decide +kernel), key64 x, show key Ieee.double 4641240890982006784 = 4641240890982006784 by decide +kernel, show key Ieee.double 13864612927836782592 = -4641240890982006784 by decide +kernel]
    generalize x % 9223372036854775808 = r at *
    have h' : r ≤ 4634204016564240384 := h
    clear h
    generalize (x / 9223372036854775808 % 2 == 1) = s
    constructor
    · rw [Int.compare_eq_ite_lt]
      cases s
      · rw [if_pos (by simp; omega)]; rfl
      · rw [if_pos (by simp; omega)]; rfl
    · rw [Int.compare_eq_ite_lt]
      cases s
      · rw [if_neg (by first | (simp; done) | (simp; omega)), if_pos (by first | (simp; done) | (simp; omega))]; try rfl
      · rw [if_neg (by first | (simp; done) | (simp; omega)), if_pos (by first | (simp; done) | (simp; omega))]; try rfl

theorem ofInt_num (k : Int) : isNan .f64 (floatOfInt .f64 k) = false := nearest_num _ _ _ _
theorem canon_ofInt (k : Int) : canon .f64 (floatOfInt .f64 k) = floatOfInt .f64 k := canon_num (ofInt_num k)
theorem ofInt_ge {j : Nat} (h : j < 12) : pow2 Ieee.double 0 ≤ floatOfInt .f64 (12 - (j : Int)) % 9223372036854775808 ∧ floatOfInt .f64 (12 - (j : Int)) % 9223372036854775808 < 9218868437227405312 := by
  have : ∀ i : Fin 12, pow2 Ieee.double 0 ≤ floatOfInt .f64 (12 - ((i : Nat) : Int)) % 9223372036854775808 ∧ floatOfInt .f64 (12 - ((i : Nat) : Int)) % 9223372036854775808 < 9218868437227405312 := by decide +kernel
  exact this ⟨j, h⟩

/-- the steps of the exponential function, on one pattern for not-a-numbers -/
def ce1 (ct : Nat) : Nat → Nat
  | 0 => 4607182418800017408
  | j + 1 => cop .add .f64 4607182418800017408 (cop .quo .f64 (cop .mul .f64 ct (ce1 ct j)) (floatOfInt .f64 (12 - (j : Int))))
def csqr (p : Nat) : Nat → Nat
  | 0 => p
  | j + 1 => cop .mul .f64 (csqr p j) (csqr p j)
def cexp (c : Nat) : Nat := csqr (ce1 (cop .quo .f64 c 4643211215818981376) 12) 8
theorem cexp_nan : cexp (qnan .f64) = qnan .f64 := by decide +kernel

theorem ce1_step {t p j ct : Nat} (ht : canon .f64 t = ct) (hp : canon .f64 p = ce1 ct j) (w1 w2 w3 : World) :
    canon .f64 (fval .add .f64 4607182418800017408 (fval .quo .f64 (fval .mul .f64 t p w1) (floatOfInt .f64 (12 - (j : Int))) w2) w3) = ce1 ct (j + 1) := by
  simp only [canon_fval, canon64_one, canon_ofInt, ht, hp, ce1]
theorem ce1_bound {t p j : Nat} (ht : B64 t (-2)) (hp : B64 p 1) (hj : j < 12) (w1 w2 w3 : World) :
    B64 (fval .add .f64 4607182418800017408 (fval .quo .f64 (fval .mul .f64 t p w1) (floatOfInt .f64 (12 - (j : Int))) w2) w3) 1 := by
  have h1 := b_mul w1 ht hp (by decide) (by decide) (by decide) (by decide) (by decide)
  have h2 := b_quo w2 h1 (.inr (ofInt_ge hj)) (by decide) (by decide) (by decide) (by decide)
  exact (b_add (x := 4607182418800017408) (K := 0) w3 b_one64 (h2.mono (by omega)) (by omega) (by omega)).mono (by omega)
theorem t_bound {x : Nat} (h : B64 x 6) (w : World) : B64 (fval .quo .f64 x 4643211215818981376 w) (-2) :=
  b_quo (a := 6) (b := 8) w h (.inr ⟨by decide +kernel, by decide +kernel⟩) (by decide) (by decide) (by decide) (by decide)
theorem csqr_step {r p j : Nat} (h : canon .f64 r = csqr p j) (w : World) : canon .f64 (fval .mul .f64 r r w) = csqr p (j + 1) := by rw [canon_fval, h]; rfl
theorem csqr_bound {r j : Nat} (h : B64 r ((2 ^ j : Nat) : Int)) (hj : j < 8) (w : World) : B64 (fval .mul .f64 r r w) ((2 ^ (j + 1) : Nat) : Int) := by
  have h2 : 2 ^ j ≤ 2 ^ 7 := Nat.pow_le_pow_right (by decide) (by omega)
  rw [Nat.pow_succ]
  generalize 2 ^ j = q at *
  exact (b_mul w h h (by omega) (by omega) (by omega) (by omega) (by omega)).mono (by omega)

/-- none, or with no sign -/
def Pos (r : Nat) : Prop := isNan .f64 r = true ∨ r < 9223372036854775808
theorem word_pos (f : Format) {r : Nat} (h : r ≤ f.infRung) : f.word false r < f.signWeight := by unfold Format.word; have := f.infRung_lt; simp; omega
theorem write_pos {d : Datum} (h : d.neg = false) (hn : d.isNaN = false) : Ieee.double.write d < 9223372036854775808 := by
  rw [← double_sw]
  cases d with
  | nan s t => cases hn
  | infinity s => cases h; exact word_pos _ (Nat.le_refl _)
  | number s m e =>
    cases h
    show Ieee.double.nearest false m e < _
    unfold Format.nearest
    simp only
    split
    · exact word_pos _ (Nat.zero_le _)
    · exact word_pos _ (Nat.min_le_right ..)
theorem sqr_pos (r : Nat) (w : World) : Pos (fval .mul .f64 r r w) := by
  cases h : floatBits .mul .f64 r r with
  | none => exact .inl (fval_none w h)
  | some q =>
    right
    rw [fval_some w h]
    have h' : ((Ieee.double.read r).product (Ieee.double.read r)).map Ieee.double.write = some q := h
    cases hd : Ieee.double.read r with
    | nan s t => rw [hd] at h'; cases h'
    | infinity s =>
      rw [hd] at h'; cases h'
      exact write_pos (by cases s <;> rfl) rfl
    | number s m e =>
      rw [hd] at h'; cases h'
      exact write_pos (by cases s <;> rfl) rfl

/-! the hyperbolic tangent's quotient is small -/
theorem read_one : Ieee.double.read 4607182418800017408 = .number false 4503599627370496 (-52) := by decide +kernel
/-- p + 1 is at least 2 ^ k, and finite, for a p that is at least 2 ^ k or nought -/
theorem plus_one {r : Nat} {K k : Int} (w : World) (hp : r < 9223372036854775808) (h : r ≤ pow2 Ieee.double K) (k1 : 0 ≤ K) (k2 : K ≤ 1020) (hk : k = 0 ∨ pow2 Ieee.double k ≤ r ∧ 0 ≤ k ∧ k ≤ 1020) :
    pow2 Ieee.double k ≤ fval .add .f64 r 4607182418800017408 w % 9223372036854775808 ∧ fval .add .f64 r 4607182418800017408 w % 9223372036854775808 < 9218868437227405312 := by
  have hmod : r % 9223372036854775808 = r := Nat.mod_eq_of_lt hp
  have hneg : (r / 9223372036854775808 % 2 == 1) = false := by rw [Nat.div_eq_of_lt hp]; rfl
  have hfin : r < 9218868437227405312 := Nat.lt_of_le_of_lt h (double_pow_lt (by omega))
  obtain ⟨m, e, hr, hm⟩ := read_le Ieee.double (x := r) (K := K) (by rw [double_sw, hmod]; exact h) (by rw [double_least, double_frac]; omega) (by rw [double_sw, double_inf, hmod]; exact hfin)
  rw [double_sw, hneg] at hr
  have hs : floatBits .add .f64 r 4607182418800017408 = some (Ieee.double.nearest (if (signed false m (e - min e (-52)).toNat + signed false 4503599627370496 (-52 - min e (-52)).toNat) = 0 then false && false else decide ((signed false m (e - min e (-52)).toNat + signed false 4503599627370496 (-52 - min e (-52)).toNat) < 0)) (signed false m (e - min e (-52)).toNat + signed false 4503599627370496 (-52 - min e (-52)).toNat).natAbs (min e (-52))) := by
    show ((Ieee.double.read r).sum (Ieee.double.read 4607182418800017408)).map Ieee.double.write = _
    rw [hr, read_one]; rfl
  have hb : B64 (fval .add .f64 r 4607182418800017408 w) (K + 1) := b_add w (.inr (by rw [hmod]; exact h)) (b_one64.mono k1) (by omega) (by omega)
  have hnn : isNan .f64 (fval .add .f64 r 4607182418800017408 w) = false := by rw [fval_some w hs]; exact nearest_num _ _ _ _
  constructor
  · rw [fval_some w hs]
    have hk' : 0 ≤ k ∧ k ≤ 1020 := by omega
    have := nearest_ge Ieee.double (if (signed false m (e - min e (-52)).toNat + signed false 4503599627370496 (-52 - min e (-52)).toNat) = 0 then false && false else decide ((signed false m (e - min e (-52)).toNat + signed false 4503599627370496 (-52 - min e (-52)).toNat) < 0)) (m := (signed false m (e - min e (-52)).toNat + signed false 4503599627370496 (-52 - min e (-52)).toNat).natAbs) (e := min e (-52)) (K := k) ?_ (by rw [double_least, double_frac]; omega) (by rw [double_inf]; exact Nat.le_of_lt (double_pow_lt (by omega)))
    · rw [double_sw] at this; exact this
    · have e1 : (signed false m (e - min e (-52)).toNat + signed false 4503599627370496 (-52 - min e (-52)).toNat).natAbs = m * 2 ^ (e - min e (-52)).toNat + 4503599627370496 * 2 ^ (-52 - min e (-52)).toNat := by
        unfold signed
        simp only [Bool.false_eq_true, if_false, Nat.shiftLeft_eq]
        omega
      rw [e1]
      unfold AtLeast
      rcases hk with rfl | ⟨hk1, hk2, hk3⟩
      · rw [show (min e (-52) - 0).toNat = 0 by omega, Nat.pow_zero, Nat.mul_one]
        have : 2 ^ (0 - min e (-52)).toNat = 4503599627370496 * 2 ^ (-52 - min e (-52)).toNat := by
          rw [show (0 - min e (-52)).toNat = 52 + (-52 - min e (-52)).toNat by omega, Nat.pow_add]
        omega
      · obtain ⟨m', e', hr', hm'⟩ := read_ge Ieee.double (x := r) (K := k) (by rw [double_sw, hmod]; exact hk1) (by rw [double_least, double_frac]; omega) (by rw [double_sw, double_inf, hmod]; exact hfin)
        rw [double_sw, hneg, hr] at hr'
        cases hr'
        unfold AtLeast at hm'
        have h2 : 2 ^ (k - min e (-52)).toNat ≤ m * 2 ^ (e - min e (-52)).toNat := by
          have h3 : 2 ^ (k - e).toNat * 2 ^ (e - min e (-52)).toNat ≤ m * 2 ^ (e - k).toNat * 2 ^ (e - min e (-52)).toNat := Nat.mul_le_mul_right _ hm'
          rw [← Nat.pow_add] at h3
          have h4 : (k - e).toNat + (e - min e (-52)).toNat = (k - min e (-52)).toNat + (e - k).toNat := by omega
          rw [h4, Nat.pow_add, Nat.mul_assoc, Nat.mul_comm (2 ^ (e - k).toNat), ← Nat.mul_assoc] at h3
          exact Nat.le_of_mul_le_mul_right h3 (Nat.two_pow_pos _)
        rw [show (min e (-52) - k).toNat = 0 by omega, Nat.pow_zero, Nat.mul_one]
        omega
  · rcases hb with hb | hb
    · rw [hb] at hnn; cases hnn
    · exact Nat.lt_of_le_of_lt hb (double_pow_lt (by omega))

theorem tanh_small {r : Nat} (h : B64 r 256) (hp : Pos r) (w1 w2 w3 : World) : tooBig (fval .quo .f64 (fval .sub .f64 r 4607182418800017408 w1) (fval .add .f64 r 4607182418800017408 w2) w3) = false := by
  have nanCase : isNan .f64 r = true → tooBig (fval .quo .f64 (fval .sub .f64 r 4607182418800017408 w1) (fval .add .f64 r 4607182418800017408 w2) w3) = false := fun hn =>
    b_narrow (K := 0) (.inl (fval_none w3 (floatBits_nan_l _ _ (fval_none w1 (floatBits_nan_l _ _ hn))))) (by decide) (by decide)
  rcases hp with hp | hp
  · exact nanCase hp
  rcases h with h | h
  · exact nanCase h
  rw [Nat.mod_eq_of_lt hp] at h
  have hmod : r % 9223372036854775808 = r := Nat.mod_eq_of_lt hp
  by_cases hs : r ≤ pow2 Ieee.double 2
  · have h1 := b_sub (K := 2) w1 (.inr (by rw [hmod]; exact hs)) (b_one64.mono (by decide)) (by decide) (by decide)
    have h2 := plus_one (K := 2) (k := 0) w2 hp hs (by decide) (by decide) (.inl rfl)
    have h3 := (b_quo (a := 3) (b := 0) w3 h1 (.inr h2) (by omega) (by omega) (by omega) (by omega)).mono (show (3 - 0 : Int) ≤ 3 by omega)
    exact b_narrow h3 (by omega) (by omega)
  · obtain ⟨k, hk, h1, h2⟩ : ∃ k : Nat, 2 ≤ k ∧ k ≤ 256 ∧ pow2 Ieee.double k ≤ r ∧ r ≤ pow2 Ieee.double (k + 1 : Nat) := by
      rw [double_pow, show (256 + 1023 : Int).toNat = 1279 from rfl] at h
      rw [double_pow, show (2 + 1023 : Int).toNat = 1025 from rfl] at hs
      have hdm := Nat.div_add_mod r 4503599627370496
      have hlt := Nat.mod_lt r (show 0 < 4503599627370496 by decide)
      generalize r / 4503599627370496 = q at *
      generalize r % 4503599627370496 = t at *
      have q1 : 1025 ≤ q := by omega
      have q2 : q ≤ 1279 := by omega
      refine ⟨q - 1023, by omega, by omega, ?_, ?_⟩
      · rw [double_pow, show (((q - 1023 : Nat) : Int) + 1023).toNat = q by omega, Nat.mul_comm]
        omega
      · rw [double_pow, show (((q - 1023 + 1 : Nat) : Int) + 1023).toNat = q + 1 by omega, Nat.add_mul, Nat.mul_comm q]
        omega
    have b1 := b_sub (K := ((k + 1 : Nat) : Int)) w1 (.inr (by rw [hmod]; exact h2.2)) (b_one64.mono (by omega)) (by omega) (by omega)
    have b2 := plus_one (K := ((k + 1 : Nat) : Int)) (k := (k : Int)) w2 hp h2.2 (by omega) (by omega) (.inr ⟨h2.1, by omega, by omega⟩)
    have b3 : B64 _ 2 := (b_quo w3 b1 (.inr b2) (by omega) (by omega) (by omega) (by omega)).mono (by omega)
    exact b_narrow b3 (by decide) (by decide)

theorem order32 {x y : Nat} (hx : isNan .f32 x = false) (hy : isNan .f32 y = false) : FloatKind.f32.format.order x y = some (compare (key Ieee.single x) (key Ieee.single y)) :=
  order_key Ieee.single x y (by rw [single_bin, single_inf]; decide) hx hy
theorem key32 (x : Nat) : key Ieee.single x = if x / 2147483648 % 2 == 1 then -((x % 2147483648 : Nat) : Int) else ((x % 2147483648 : Nat) : Int) := by
  unfold key; rw [single_sw]
/-- a 32-bit number from -20 to 20, or none, times 2 -/
theorem tanh_in {x : Nat} (h1 : (FloatKind.f32.format.order x 1101004800 == some .gt) = false) (h2 : (FloatKind.f32.format.order x 3248488448 == some .lt) = false) (w1 w2 : World) :
    B64 (fval .mul .f64 4611686018427387904 (wide x w1) w2) 6 := by
  by_cases hn : isNan .f32 x = true
  · refine .inl (fval_none w2 (floatBits_nan_r _ _ ?_))
    unfold wide; rw [if_pos hn]; exact (cut_nanConv .f64 x _).1
  · have hn : isNan .f32 x = false := by simpa using hn
    rw [order32 hn (by decide +kernel), key32 x, show key Ieee.single 1101004800 = 1101004800 by decide +kernel, Int.compare_eq_ite_lt] at h1
    rw [order32 hn (by decide +kernel), key32 x, show key Ieee.single 3248488448 = -1101004800 by decide +kernel, Int.compare_eq_ite_lt] at h2
    have hr : x % 2147483648 ≤ 1101004800 := by
      generalize x % 2147483648 = r at *
      generalize (x / 2147483648 % 2 == 1) = s at *
      cases s
      · simp only [Bool.false_eq_true, if_false] at h1
        by_cases hc : r ≤ 1101004800
        · exact hc
        · rw [if_neg (by omega), if_pos (by omega)] at h1; cases h1
      · simp only [if_true] at h2
        by_cases hc : r ≤ 1101004800
        · exact hc
        · rw [if_pos (by omega)] at h2; cases h2
    obtain ⟨m, e, hrd, hm⟩ := read_le Ieee.single (x := x) (K := 5) (by rw [single_sw, single_pow]; exact Nat.le_trans hr (by decide)) (by rw [single_least, single_frac]; omega) (by rw [single_sw, single_inf]; omega)
    have hw : B64 (wide x w1) 5 := by
      unfold wide
      rw [if_neg (by rw [hn]; decide), hrd]
      exact .inr (B64.of_write hm (by decide))
    exact (b_mul w2 b_two64 hw (by omega) (by omega) (by omega) (by omega) (by omega)).mono (by omega)
end Go.Proofs.Ytpdgpoonblldgaa
