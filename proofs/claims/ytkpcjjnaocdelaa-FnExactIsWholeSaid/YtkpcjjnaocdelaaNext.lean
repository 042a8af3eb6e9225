/-
  What the functions on the neighbours of a number return. Conditions: the numbers fit their kind.
-/
import Derived.Test.YtkpcjjnaocdelaaBits
namespace Go.Proofs.Ytkpcjjnaocdelaa
open Go.RowKit

/-- the next greater number, by its bits -/
def nx (x : Nat) : Nat := if 2139095040 < x % 2147483648 ∨ x = 2139095040 then x else if x % 2147483648 = 0 then 1 else if x < 2147483648 then x + 1 else x - 1
theorem nx_lt {x : Nat} (h : x < 4294967296) : nx x < 4294967296 := by unfold nx; (repeat' split) <;> omega
/-- the number with the other sign -/
def opp (x : Nat) : Nat := if x < 2147483648 then x + 2147483648 else x - 2147483648
theorem opp_lt {x : Nat} (h : x < 4294967296) : opp x < 4294967296 := by unfold opp; split <;> omega
theorem xor_low {y : Nat} (h : y < 2 ^ 31) : y ^^^ 2 ^ 31 = y + 2 ^ 31 := by
  apply Nat.eq_of_testBit_eq
  intro i
  rw [Nat.testBit_xor, Nat.testBit_two_pow, Nat.add_comm]
  by_cases e : 31 = i
  · subst e; rw [Nat.testBit_two_pow_add_eq]; simp
  · by_cases g : i < 31
    · rw [Nat.testBit_two_pow_add_gt g]; simp [e]
    · have h1 : y.testBit i = false := Nat.testBit_lt_two_pow (Nat.lt_of_lt_of_le h (Nat.pow_le_pow_right (by decide) (by omega)))
      have h2 : (2 ^ 31 + y).testBit i = false := Nat.testBit_lt_two_pow (Nat.lt_of_lt_of_le (show 2 ^ 31 + y < 2 ^ 32 by omega) (Nat.pow_le_pow_right (by decide) (by omega)))
      rw [h1, h2]; simp [e]
theorem xor_31 {x : Nat} (h : x < 4294967296) : x ^^^ 2147483648 = opp x := by
  unfold opp
  split
  · rename_i h1; exact xor_low h1
  · rename_i h1
    obtain ⟨y, rfl⟩ : ∃ y, x = y + 2147483648 := ⟨x - 2147483648, by omega⟩
    have := xor_low (show y < 2 ^ 31 by omega)
    rw [show (2147483648 : Nat) = 2 ^ 31 from rfl, ← this, Nat.xor_assoc, Nat.xor_self, Nat.xor_zero, this, Nat.add_sub_cancel]
theorem neg32 {x : Nat} (h : x < 4294967296) : Op.negFloat .f32 x = opp x := xor_31 h
theorem and_top (x : Nat) : x &&& 2147483648 = (x / 2147483648 % 2) * 2147483648 := by
  rw [show (2147483648 : Nat) = 2 ^ 31 from rfl]
  apply Nat.eq_of_testBit_eq
  intro i
  rw [Nat.testBit_and, Nat.testBit_two_pow]
  have h31 : x.testBit 31 = decide (x / 2 ^ 31 % 2 = 1) := Nat.testBit_eq_decide_div_mod_eq
  by_cases e : 31 = i
  · subst e
    rw [h31]
    rcases Nat.mod_two_eq_zero_or_one (x / 2 ^ 31) with h | h
    · rw [h]; simp
    · rw [h]; simp; decide
  · rcases Nat.mod_two_eq_zero_or_one (x / 2 ^ 31) with h | h <;> rw [h] <;> simp [e]
    rw [show (2147483648 : Nat) = 2 ^ 31 from rfl, Nat.testBit_two_pow]
    simp [e]

theorem b_sign0 (x : Nat) (h : x < 2147483648) : bits .and .u32 (x : Int) 2147483648 = 0 := by
  have := u32_and_nat x 2147483648 (by omega) (by decide)
  rw [and_top, show x / 2147483648 % 2 = 0 by omega] at this
  exact this
theorem b_sign1 (x : Nat) (h : 2147483648 ≤ x) (h' : x < 4294967296) : bits .and .u32 (x : Int) 2147483648 = 2147483648 := by
  have := u32_and_nat x 2147483648 h' (by decide)
  rw [and_top, show x / 2147483648 % 2 = 1 by omega] at this
  exact this
theorem b_flip (x : Nat) (h : x < 4294967296) : bits .xor .u32 (x : Int) 2147483648 = (opp x : Nat) := by
  have := u32_xor_nat x 2147483648 h (by decide)
  rw [xor_31 h] at this
  exact this

end Go.Proofs.Ytkpcjjnaocdelaa
