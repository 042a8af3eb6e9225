/-
  Codes of numbers by the nearest whole quotient rise with the numbers. Conditions: finite numbers, a spread that is positive.
-/
import Derived.Test.YtkpcjjnaocdelaaRiseq
import Derived.Test.YtkpcjjnaocdelaaLim
namespace Go.Proofs.Ytkpcjjnaocdelaa
open Ieee
set_option linter.unusedVariables false

def EE : Nat := 1074
theorem EE_eq : EE = 1074 := rfl
theorem word_sign64 (s : Bool) {r : Nat} (hr : r ≤ 9218868437227405312) : (Ieee.double.word s r / 9223372036854775808 % 2 == 1) = s ∧ Ieee.double.word s r % 9223372036854775808 = r := by
  unfold Format.word
  rw [double_sw]
  cases s
  · simp only [Bool.false_eq_true, if_false]
    exact ⟨by rw [Nat.div_eq_of_lt (by omega)]; rfl, Nat.mod_eq_of_lt (by omega)⟩
  · simp only [if_true]
    refine ⟨?_, by omega⟩
    rw [show (9223372036854775808 + r) / 9223372036854775808 = 1 by omega]; rfl
theorem read_mag64 (s : Bool) {r : Nat} (hr : r < 9218868437227405312) : ∃ m e, Ieee.double.read (Ieee.double.word s r) = .number s m e ∧ m * 2 ^ (e + (EE : Int)).toNat = mag 4503599627370496 r ∧ -(EE : Int) ≤ e := by
  obtain ⟨h1, h2⟩ := word_sign64 s (Nat.le_of_lt hr)
  by_cases hb : r < 4503599627370496
  · refine ⟨r, -1074, ?_, ?_, by rw [EE_eq]; omega⟩
    · unfold Format.read
      simp only [double_sw, double_bin, double_inf, double_least]
      rw [h1, h2, if_pos hb]
    · unfold mag
      rw [if_pos hb, show ((-1074 : Int) + (EE : Int)).toNat = 0 by rw [EE_eq]; omega, Nat.pow_zero, Nat.mul_one]
  · refine ⟨4503599627370496 + r % 4503599627370496, -1074 + ((r / 4503599627370496 - 1 : Nat) : Int), ?_, ?_, by rw [EE_eq]; omega⟩
    · unfold Format.read
      simp only [double_sw, double_bin, double_inf, double_least]
      rw [h1, h2, if_neg hb, if_pos hr]
    · unfold mag
      rw [if_neg hb, show (-1074 + ((r / 4503599627370496 - 1 : Nat) : Int) + (EE : Int)).toNat = r / 4503599627370496 - 1 by rw [EE_eq]; omega]
theorem even_whole {s : Bool} {m V : Nat} {e : Int} (h : m * 2 ^ (e + (EE : Int)).toNat = V) (he : -(EE : Int) ≤ e) : Toward.even.cut s (m <<< e.toNat) (-e).toNat = plain V EE := by
  rw [cut_plain, Nat.shiftLeft_eq, ← h]
  generalize EE = E at *
  by_cases h0 : 0 ≤ e
  · rw [show (-e).toNat = 0 by omega, plain_zero, show (e + (E : Int)).toNat = e.toNat + E by omega, Nat.pow_add, ← Nat.mul_assoc]
    exact (plain_all _ _).symm
  · rw [show e.toNat = 0 by omega, Nat.pow_zero, Nat.mul_one]
    obtain ⟨t, ht⟩ : ∃ t, (e + (E : Int)).toNat = t := ⟨_, rfl⟩
    obtain ⟨d, hd⟩ : ∃ d, (-e).toNat = d := ⟨_, rfl⟩
    rw [ht, hd, show E = d + t by omega]
    exact (plain_shift _ _ _).symm
theorem near_small : ((List.range 128).all fun C => lim (Ieee.double.nearest false C 0) == (C : Int) && lim (Ieee.double.nearest true C 0) == -(C : Int)) = true := by decide +kernel
theorem rung_128 : rung 52 (-1074) 128 0 = 4638707616191610880 := by decide +kernel
def sgn (s : Bool) (c : Nat) : Int := if s then -(c : Int) else c
theorem lim_near (s : Bool) (C : Nat) : lim (Ieee.double.nearest s C 0) = sgn s (min 127 C) := by
  by_cases h : C < 128
  · have h1 := List.all_eq_true.1 near_small C (List.mem_range.2 h)
    simp only [Bool.and_eq_true, beq_iff_eq] at h1
    rw [Nat.min_eq_right (by omega)]
    cases s
    · exact h1.1
    · exact h1.2
  · rw [nearest_rung64, show min 127 C = 127 by omega]
    have h1 : 4638707616191610880 ≤ rung 52 (-1074) C 0 := by rw [← rung_128]; exact rung_same 0 (by omega)
    generalize rung 52 (-1074) C 0 = R at *
    have h2 : 4638707616191610880 ≤ min R 9218868437227405312 := by omega
    have h3 : min R 9218868437227405312 ≤ 9218868437227405312 := Nat.min_le_right _ _
    generalize min R 9218868437227405312 = r at *
    unfold lim sgn
    cases s
    · have e : k64 (Ieee.double.word false r) = (r : Int) := by
        show k64 r = _
        unfold k64
        rw [if_pos (by omega)]
      rw [e, if_pos (by omega)]
      rfl
    · have e : k64 (Ieee.double.word true r) = -(r : Int) := by
        unfold Format.word
        rw [double_sw]
        simp only [if_true]
        unfold k64
        rw [if_neg (by omega)]
        omega
      rw [e, if_neg (by omega), if_pos (by omega)]
      rfl
/-- the code's magnitude, by the quotient's rung -/
def codeMag (r : Nat) : Nat := if r < 9218868437227405312 then min 127 (plain (mag 4503599627370496 r) EE) else 127
theorem codeMag_mono {r q : Nat} (h : r ≤ q) : codeMag r ≤ codeMag q := by
  unfold codeMag
  by_cases h1 : q < 9218868437227405312
  · rw [if_pos h1, if_pos (by omega)]
    have hm : mag 4503599627370496 r ≤ mag 4503599627370496 q := by
      rcases Nat.lt_or_eq_of_le h with h | h
      · exact Nat.le_of_lt (mag_mono (by decide) h)
      · rw [h]; exact Nat.le_refl _
    have := plain_mono (d := EE) hm
    omega
  · rw [if_neg h1]
    split
    · omega
    · exact Nat.le_refl _
theorem codeMag_le (r : Nat) : codeMag r ≤ 127 := by unfold codeMag; split <;> omega
theorem codeMag_zero : codeMag 0 = 0 := by
  unfold codeMag mag
  rw [if_pos (by decide), if_pos (by decide)]
  have : plain 0 EE ≤ 0 := plain_le (by omega)
  omega
theorem lim_inf : lim (rteV .even (Ieee.double.word false 9218868437227405312)) = 127 ∧ lim (rteV .even (Ieee.double.word true 9218868437227405312)) = -127 := by decide +kernel
theorem lim_rte (s : Bool) {r : Nat} (hr : r ≤ 9218868437227405312) : lim (rteV .even (Ieee.double.word s r)) = sgn s (codeMag r) := by
  by_cases h : r < 9218868437227405312
  · obtain ⟨m, e, h1, h2, h3⟩ := read_mag64 s h
    unfold rteV
    rw [h1]
    show lim (Ieee.double.nearest s (Toward.even.cut s (m <<< e.toNat) (-e).toNat) 0) = _
    rw [even_whole h2 h3, lim_near]
    unfold codeMag
    rw [if_pos h]
  · obtain rfl : r = 9218868437227405312 := by omega
    unfold codeMag
    rw [if_neg h]
    cases s
    · exact lim_inf.1
    · exact lim_inf.2
/-! quotients -/
theorem word_sign32 (s : Bool) {r : Nat} (hr : r ≤ 2139095040) : (Ieee.single.word s r / 2147483648 % 2 == 1) = s ∧ Ieee.single.word s r % 2147483648 = r := by
  unfold Format.word
  rw [single_sw]
  cases s
  · simp only [Bool.false_eq_true, if_false]
    exact ⟨by rw [Nat.div_eq_of_lt (by omega)]; rfl, Nat.mod_eq_of_lt (by omega)⟩
  · simp only [if_true]
    refine ⟨?_, by omega⟩
    rw [show (2147483648 + r) / 2147483648 = 1 by omega]; rfl
theorem read_mag32 {x : Nat} (hx : x % 2147483648 < 2139095040) : ∃ m e, Ieee.single.read x = .number (x / 2147483648 % 2 == 1) m e ∧ m * 2 ^ (e + 149).toNat = mag 8388608 (x % 2147483648) ∧ -149 ≤ e ∧ (m = 0 ↔ x % 2147483648 = 0) := by
  obtain ⟨s, hs⟩ : ∃ s, (x / 2147483648 % 2 == 1) = s := ⟨_, rfl⟩
  obtain ⟨r, hr⟩ : ∃ r, x % 2147483648 = r := ⟨_, rfl⟩
  rw [hr] at hx
  by_cases hb : r < 8388608
  · refine ⟨r, -149, ?_, ?_, by omega, by rw [hr]⟩
    · unfold Format.read
      simp only [single_sw, single_bin, single_inf, single_least]
      rw [hs, hr, if_pos hb]
    · unfold mag
      rw [hr, if_pos hb, show ((-149 : Int) + 149).toNat = 0 by omega, Nat.pow_zero, Nat.mul_one]
  · refine ⟨8388608 + r % 8388608, -149 + ((r / 8388608 - 1 : Nat) : Int), ?_, ?_, by omega, by rw [hr]; omega⟩
    · unfold Format.read
      simp only [single_sw, single_bin, single_inf, single_least]
      rw [hs, hr, if_neg hb, if_pos hx]
    · unfold mag
      rw [hr, if_neg hb, show (-149 + ((r / 8388608 - 1 : Nat) : Int) + 149).toNat = r / 8388608 - 1 by omega]
/-- the wide word's rung -/
def wr64 (m : Nat) (e : Int) : Nat := rung 52 (-1074) m e
theorem below_min {N M : Nat} {p q : Int} {c : Nat} (hp : -(c : Int) ≤ p) (hq : -(c : Int) ≤ q) (h : N * 2 ^ (p + (c : Int)).toNat ≤ M * 2 ^ (q + (c : Int)).toNat) : N * 2 ^ (p - min p q).toNat ≤ M * 2 ^ (q - min p q).toNat := by
  obtain ⟨t, ht⟩ : ∃ t : Nat, min p q + (c : Int) = t := ⟨(min p q + (c : Int)).toNat, by omega⟩
  rw [show (p + (c : Int)).toNat = (p - min p q).toNat + t by omega, show (q + (c : Int)).toNat = (q - min p q).toNat + t by omega, Nat.pow_add, Nat.pow_add, ← Nat.mul_assoc, ← Nat.mul_assoc] at h
  exact Nat.le_of_mul_le_mul_right h (Nat.two_pow_pos t)
end Go.Proofs.Ytkpcjjnaocdelaa
