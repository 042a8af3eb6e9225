/-
  The logarithm's steps on 64-bit numbers: halving and doubling are exact, how often they are done, and that the sum is not too great for 32 bits. Conditions: as each says.
-/
import Derived.Test.YtaklcmibpnpffaaExpMath
namespace Go.Proofs.Ytaklcmibpnpffaa
open Ieee

theorem log2_shift {M k : Nat} (h1 : 4503599627370496 ≤ M) (h2 : M < 9007199254740992) : (M * 2 ^ k).log2 = 52 + k := by
  have hM : M * 2 ^ k ≠ 0 := Nat.ne_of_gt (Nat.mul_pos (by omega) (Nat.two_pow_pos k))
  apply Nat.le_antisymm
  · have : (M * 2 ^ k).log2 < 53 + k := by
      rw [Nat.log2_lt hM, Nat.pow_add]
      exact Nat.mul_lt_mul_of_pos_right h2 (Nat.two_pow_pos k)
    omega
  · rw [Nat.le_log2 hM, Nat.pow_add]
    exact Nat.mul_le_mul_right _ h1
theorem cut_exact (s : Bool) (M k : Nat) : Toward.even.cut s (M * 2 ^ k) k = M :=
  Nat.le_antisymm (cut_le s (Nat.le_refl _)) (cut_ge s (Nat.le_refl _))
/-- a number of 53 digits is written as it is -/
theorem nearest_exact (s : Bool) {M k : Nat} {p : Int} (h1 : 4503599627370496 ≤ M) (h2 : M < 9007199254740992) (hp : -1074 ≤ p + k) :
    Ieee.double.nearest s (M * 2 ^ k) p = Ieee.double.word s (min ((p + k + 1074).toNat * 4503599627370496 + M) 9218868437227405312) := by
  unfold Format.nearest
  simp only
  rw [if_neg (Nat.ne_of_gt (Nat.mul_pos (by omega) (Nat.two_pow_pos k))), log2_shift h1 h2, double_least, double_frac, double_bin, double_inf]
  rw [show max (p + ((52 + k : Nat) : Int) - ((52 : Nat) : Int)) (-1074) = p + k by omega]
  rw [show (p - (p + (k : Int))).toNat = 0 by omega, show (p + (k : Int) - p).toNat = k by omega, Nat.shiftLeft_eq, Nat.pow_zero, Nat.mul_one, cut_exact]
  rw [show p + (k : Int) - -1074 = p + k + 1074 by omega]

theorem read_normal {x : Nat} (h1 : 4503599627370496 ≤ x) (h2 : x < 9218868437227405312) :
    Ieee.double.read x = .number false (4503599627370496 + x % 4503599627370496) (-1074 + ((x / 4503599627370496 - 1 : Nat) : Int)) := by
  unfold Format.read
  simp only
  rw [double_sw, double_bin, double_inf, double_least, Nat.mod_eq_of_lt (show x < 9223372036854775808 by omega), Nat.div_eq_of_lt (show x < 9223372036854775808 by omega), if_neg (by omega), if_pos h2]
  rfl
theorem read_two : Ieee.double.read 4611686018427387904 = .number false 4503599627370496 (-51) := by decide +kernel

theorem double_exact {x : Nat} (w : World) (h1 : 4503599627370496 ≤ x) (h2 : x < 9214364837600034816) : fval .mul .f64 x 4611686018427387904 w = x + 4503599627370496 := by
  have hm : x % 4503599627370496 < 4503599627370496 := Nat.mod_lt _ (by decide)
  have hd := Nat.div_add_mod x 4503599627370496
  refine fval_some w ?_
  show ((Ieee.double.read x).product (Ieee.double.read 4611686018427387904)).map Ieee.double.write = _
  rw [read_normal h1 (by omega), read_two]
  have hq1 : 1 ≤ x / 4503599627370496 := by omega
  generalize x / 4503599627370496 = q at *
  generalize x % 4503599627370496 = t at *
  have hpro : (Datum.number false (4503599627370496 + t) (-1074 + ((q - 1 : Nat) : Int))).product (Datum.number false 4503599627370496 (-51)) = some (.number (false ^^ false) ((4503599627370496 + t) * 2 ^ 52) (-1074 + ((q - 1 : Nat) : Int) + -51)) := by
    rw [show (2 : Nat) ^ 52 = 4503599627370496 by decide]; unfold Datum.product; rfl
  rw [hpro, Option.map_some]
  unfold Format.write
  simp only
  rw [nearest_exact _ (by omega) (by omega) (by omega)]
  refine congrArg some ?_
  unfold Format.word
  rw [if_neg (by decide)]
  rw [show (-1074 + ((q - 1 : Nat) : Int) + -51 + ((52 : Nat) : Int) + 1074).toNat = q by omega]
  omega
theorem half_exact {x : Nat} (w : World) (h1 : 9007199254740992 ≤ x) (h2 : x < 9218868437227405312) : fval .quo .f64 x 4611686018427387904 w = x - 4503599627370496 := by
  have hm : x % 4503599627370496 < 4503599627370496 := Nat.mod_lt _ (by decide)
  have hd := Nat.div_add_mod x 4503599627370496
  refine fval_some w ?_
  show ((Ieee.double.read x).quotient 54 (Ieee.double.read 4611686018427387904)).map Ieee.double.write = _
  rw [read_normal (by omega) h2, read_two]
  have hq1 : 2 ≤ x / 4503599627370496 := by omega
  generalize x / 4503599627370496 = q at *
  generalize x % 4503599627370496 = t at *
  have hlog : (4503599627370496 + t).log2 = 52 := by have := log2_shift (M := 4503599627370496 + t) (k := 0) (by omega) (by omega); simpa using this
  have hlog2 : (4503599627370496 : Nat).log2 = 52 := by decide +kernel
  have hquo : (Datum.number false (4503599627370496 + t) (-1074 + ((q - 1 : Nat) : Int))).quotient 54 (Datum.number false 4503599627370496 (-51)) = some (.number (false ^^ false) ((4503599627370496 + t) * 2 ^ 3) (-1074 + ((q - 1 : Nat) : Int) - -51 - ((54 : Nat) : Int) - 1)) := by
    unfold Datum.quotient
    simp only
    rw [if_neg (by decide), hlog, hlog2, Nat.shiftLeft_eq]
    rw [show (54 + 52 - 52 : Nat) = 54 from rfl]
    rw [show (4503599627370496 + t) * 2 ^ 54 = 4503599627370496 * ((4503599627370496 + t) * 4) by omega, Nat.mul_div_cancel_left _ (by decide), Nat.mul_mod_right]
    congr 2
    simp
    omega
  rw [hquo, Option.map_some]
  unfold Format.write
  simp only
  rw [nearest_exact _ (by omega) (by omega) (by omega)]
  refine congrArg some ?_
  unfold Format.word
  rw [if_neg (by decide)]
  rw [show (-1074 + ((q - 1 : Nat) : Int) - -51 - ((54 : Nat) : Int) - 1 + ((3 : Nat) : Int) + 1074).toNat = q - 2 by omega]
  obtain ⟨p, rfl⟩ : ∃ p, q = p + 2 := ⟨q - 2, by omega⟩
  have e1 : p + 2 - 2 = p := by omega
  rw [e1, Nat.min_eq_left (by omega)]
  omega

/-! how often a number is halved and doubled -/
def hN (y : Nat) : Nat := if y < 4609434218613702656 then 0 else (y - 4609434218613702656) / 4503599627370496 + 1
def y1 (y : Nat) : Nat := y - hN y * 4503599627370496
def dN (y : Nat) : Nat := if 4604930618986332160 ≤ y then 0 else (4604930618986332159 - y) / 4503599627370496 + 1
def y2 (y : Nat) : Nat := y1 y + dN (y1 y) * 4503599627370496
def eN (y : Nat) : Int := (hN y : Int) - (dN (y1 y) : Int)
/-- a positive 64-bit number as great as a 32-bit one -/
def Mid (y : Nat) : Prop := 3936146074321813504 ≤ y ∧ y ≤ 5183643171103440896
theorem hN_le {y : Nat} (h : Mid y) : hN y ≤ 129 := by unfold hN; obtain ⟨a, b⟩ := h; split <;> omega
theorem y1_in {y : Nat} (h : Mid y) : 3936146074321813504 ≤ y1 y ∧ y1 y < 4609434218613702656 := by unfold y1 hN; obtain ⟨a, b⟩ := h; split <;> omega
theorem dN_le {y : Nat} (h : Mid y) : dN (y1 y) ≤ 150 := by have := y1_in h; unfold dN; split <;> omega
theorem y2_in {y : Nat} (h : Mid y) : 4604930618986332160 ≤ y2 y ∧ y2 y < 4609434218613702656 := by have := y1_in h; unfold y2 dN; split <;> omega
theorem half_more {y j : Nat} (h : Mid y) (hj : j ≤ hN y) : (4609434218613702656 ≤ y - j * 4503599627370496 ↔ j < hN y) := by
  unfold hN at *; obtain ⟨a, b⟩ := h; split at hj
  · rename_i h1; rw [if_pos h1]; omega
  · rename_i h1; rw [if_neg h1]; omega
theorem dbl_more {y j : Nat} (hj : j ≤ dN y) : (y + j * 4503599627370496 < 4604930618986332160 ↔ j < dN y) := by
  unfold dN at *; split at hj
  · rename_i h1; rw [if_pos h1]; omega
  · rename_i h1; rw [if_neg h1]; omega
theorem half_step {y j : Nat} (h : Mid y) (hj : j < hN y) (w : World) : fval .quo .f64 (y - j * 4503599627370496) 4611686018427387904 w = y - (j + 1) * 4503599627370496 := by
  have := (half_more h (Nat.le_of_lt hj)).2 hj
  obtain ⟨a, b⟩ := h
  rw [half_exact w (by omega) (by omega)]; omega
theorem dbl_step {y j : Nat} (hy : 4503599627370496 ≤ y) (hj : j < dN y) (w : World) : fval .mul .f64 (y + j * 4503599627370496) 4611686018427387904 w = y + (j + 1) * 4503599627370496 := by
  have := (dbl_more (Nat.le_of_lt hj)).2 hj
  rw [double_exact w (by omega) (by omega)]; omega
theorem num_pos {x : Nat} (h : x ≤ 9218868437227405312) : isNan .f64 x = false := by rw [isNan64, Nat.mod_eq_of_lt (by omega)]; simpa using h
theorem order_pos {x y : Nat} (hx : x ≤ 9218868437227405312) (hy : y ≤ 9218868437227405312) : FloatKind.f64.format.order x y = some (compare (x : Int) (y : Int)) := by
  rw [order64 (num_pos hx) (num_pos hy), key64, key64, Nat.div_eq_of_lt (show x < 9223372036854775808 by omega), Nat.div_eq_of_lt (show y < 9223372036854775808 by omega), Nat.mod_eq_of_lt (show x < 9223372036854775808 by omega), Nat.mod_eq_of_lt (show y < 9223372036854775808 by omega)]
  rfl

/-! the sum -/
def clq (cu : Nat) : Nat → Nat
  | 0 => 0
  | j + 1 => cop .add .f64 (cop .quo .f64 4607182418800017408 (floatOfInt .f64 (25 - 2 * (j : Int)))) (cop .mul .f64 cu (clq cu j))
def cls (y : Nat) : Nat := cop .quo .f64 (cop .sub .f64 y 4607182418800017408) (cop .add .f64 y 4607182418800017408)
def clogT (y : Nat) (e : Int) : Nat :=
  cop .add .f64 (cop .mul .f64 4611686018427387904 (cop .mul .f64 (cls y) (clq (cop .mul .f64 (cls y) (cls y)) 13))) (cop .mul .f64 (floatOfInt .f64 e) 4604418534313441775)
theorem clq_step {u q j cu : Nat} (hu : canon .f64 u = cu) (hq : canon .f64 q = clq cu j) (w1 w2 w3 : World) :
    canon .f64 (fval .add .f64 (fval .quo .f64 4607182418800017408 (floatOfInt .f64 (25 - 2 * (j : Int))) w1) (fval .mul .f64 u q w2) w3) = clq cu (j + 1) := by
  simp only [canon_fval, canon64_one, canon_ofInt, hu, hq, clq]
theorem ofIntL_ge {j : Nat} (h : j < 13) : pow2 Ieee.double 0 ≤ floatOfInt .f64 (25 - 2 * (j : Int)) % 9223372036854775808 ∧ floatOfInt .f64 (25 - 2 * (j : Int)) % 9223372036854775808 < 9218868437227405312 := by
  have : ∀ i : Fin 13, pow2 Ieee.double 0 ≤ floatOfInt .f64 (25 - 2 * ((i : Nat) : Int)) % 9223372036854775808 ∧ floatOfInt .f64 (25 - 2 * ((i : Nat) : Int)) % 9223372036854775808 < 9218868437227405312 := by decide +kernel
  exact this ⟨j, h⟩
theorem clq_bound {u q j : Nat} (hu : B64 u 4) (hq : B64 q (5 * j)) (hj : j < 13) (w1 w2 w3 : World) :
    B64 (fval .add .f64 (fval .quo .f64 4607182418800017408 (floatOfInt .f64 (25 - 2 * (j : Int))) w1) (fval .mul .f64 u q w2) w3) (5 * ((j + 1 : Nat) : Int)) := by
  have h1 := b_mul w2 hu hq (by omega) (by omega) (by omega) (by omega) (by omega)
  have h2 := b_quo w1 b_one64 (.inr (ofIntL_ge hj)) (by decide) (by decide) (by decide) (by decide)
  exact (b_add (K := 4 + 5 * j) w3 (h2.mono (by omega)) h1 (by omega) (by omega)).mono (by omega)
theorem cls_bound {y : Nat} (h1 : 4604930618986332160 ≤ y) (h2 : y < 4609434218613702656) (w1 w2 w3 : World) :
    B64 (fval .quo .f64 (fval .sub .f64 y 4607182418800017408 w1) (fval .add .f64 y 4607182418800017408 w2) w3) 2 := by
  have hy : y ≤ pow2 Ieee.double 1 := by rw [double_pow]; show y ≤ 1024 * 4503599627370496; omega
  have hy' : B64 y 1 := .inr (by rw [Nat.mod_eq_of_lt (by omega)]; exact hy)
  have b1 := b_sub (y := 4607182418800017408) (K := 1) w1 hy'
  have b2 := plus_one (K := 1) (k := 0) w2 (by omega) hy (by omega) (by omega) (.inl rfl)
  exact (b_quo (a := 1 + 1) (b := 0) w3 (b1 (b_one64.mono (by decide)) (by decide) (by decide)) (.inr b2) (by decide) (by decide) (by decide) (by decide)).mono (by decide)
theorem e_bound {e : Int} (h1 : -150 ≤ e) (h2 : e ≤ 150) : B64 (floatOfInt .f64 e) 8 := by
  have : ∀ i : Fin 301, floatOfInt .f64 (((i : Nat) : Int) - 150) % 9223372036854775808 ≤ pow2 Ieee.double 8 := by decide +kernel
  have h := this ⟨(e + 150).toNat, by omega⟩
  rw [show (((⟨(e + 150).toNat, by omega⟩ : Fin 301) : Nat) : Int) - 150 = e by simp; omega] at h
  exact .inr h
theorem log_small {s q : Nat} {e : Int} (hs : B64 s 2) (hq : B64 q 65) (h1 : -150 ≤ e) (h2 : e ≤ 150) (w1 w2 w3 w4 : World) :
    tooBig (fval .add .f64 (fval .mul .f64 4611686018427387904 (fval .mul .f64 s q w1) w2) (fval .mul .f64 (floatOfInt .f64 e) 4604418534313441775 w3) w4) = false := by
  have b1 := b_mul w1 hs hq (by omega) (by omega) (by omega) (by omega) (by omega)
  have b2 := b_mul w2 b_two64 b1 (by omega) (by omega) (by omega) (by omega) (by omega)
  have b3 := b_mul (y := 4604418534313441775) (b := 0) w3 (e_bound h1 h2) (.inr (by rw [double_pow]; decide)) (by omega) (by omega) (by omega) (by omega) (by omega)
  exact b_narrow (b_add (K := 68) w4 (b2.mono (by omega)) (b3.mono (by omega)) (by omega) (by omega)) (by omega) (by omega)
end Go.Proofs.Ytaklcmibpnpffaa
