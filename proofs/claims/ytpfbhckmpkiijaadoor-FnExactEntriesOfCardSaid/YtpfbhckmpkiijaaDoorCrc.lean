/-
  The check of bytes as plain arithmetic: eight steps of one bit, and the same by one look into a table of all bytes. Conditions: none.
-/
import Derived.Laws.BitsAllLaws
import Derived.Laws.BitsLemmas
import Derived.WalkKit
namespace Go.Proofs.YtpfbhckmpkiijaaDoor
open Go.RowKit

def crcOne (n : Nat) : Nat := if n % 2 = 1 then n / 2 ^^^ 3988292384 else n / 2
def crcK : Nat → Nat → Nat
  | 0, n => n
  | k + 1, n => crcOne (crcK k n)
def crcOf (l : List UInt8) : Nat := l.foldl (fun n c => crcK 8 (n ^^^ c.toNat)) 4294967295
theorem crcOf_snoc (l : List UInt8) (c : UInt8) : crcOf (l ++ [c]) = crcK 8 (crcOf l ^^^ c.toNat) := by
  unfold crcOf; rw [List.foldl_append]; rfl
theorem crcOne_lt {n : Nat} (h : n < 4294967296) : crcOne n < 4294967296 := by
  unfold crcOne
  split
  · exact Nat.xor_lt_two_pow (n := 32) (by omega) (by omega)
  · omega
theorem crcK_lt {n : Nat} (h : n < 4294967296) (k : Nat) : crcK k n < 4294967296 := by
  induction k with
  | zero => exact h
  | succ k ih => exact crcOne_lt ih
theorem xor_lt32 {a b : Nat} (ha : a < 4294967296) (hb : b < 4294967296) : a ^^^ b < 4294967296 := Nat.xor_lt_two_pow (n := 32) (by omega) (by omega)
theorem crcOf_lt (l : List UInt8) : crcOf l < 4294967296 := by
  rcases List.eq_nil_or_concat l with rfl | ⟨l, c, rfl⟩
  · decide
  · have : ∀ l : List UInt8, crcOf l < 4294967296 := by
      intro l
      unfold crcOf
      suffices h : ∀ n, n < 4294967296 → l.foldl (fun n c => crcK 8 (n ^^^ c.toNat)) n < 4294967296 from h _ (by decide)
      induction l with
      | nil => exact fun n h => h
      | cons c l ih => exact fun n h => ih _ (crcK_lt (xor_lt32 h (by have := UInt8.toNat_lt c; omega)) 8)
    exact this _
theorem crcOne_xor (a b : Nat) : crcOne (a ^^^ b) = crcOne a ^^^ crcOne b := by
  have h2 : (a ^^^ b) % 2 = (a + b) % 2 := by have := @Nat.xor_mod_two_eq_one a b; omega
  have hd : (a ^^^ b) / 2 = a / 2 ^^^ b / 2 := Nat.xor_div_two
  unfold crcOne
  rw [h2, hd]
  by_cases ha : a % 2 = 1 <;> by_cases hb : b % 2 = 1
  · rw [if_neg (by omega), if_pos ha, if_pos hb]
    rw [show a / 2 ^^^ 3988292384 ^^^ (b / 2 ^^^ 3988292384) = a / 2 ^^^ b / 2 ^^^ (3988292384 ^^^ 3988292384) by ac_rfl, Nat.xor_self, Nat.xor_zero]
  · rw [if_pos (by omega), if_pos ha, if_neg hb]
    ac_rfl
  · rw [if_pos (by omega), if_neg ha, if_pos hb]
    ac_rfl
  · rw [if_neg (by omega), if_neg ha, if_neg hb]
theorem crcK_xor (k a b : Nat) : crcK k (a ^^^ b) = crcK k a ^^^ crcK k b := by
  induction k with
  | zero => rfl
  | succ k ih => rw [crcK, ih, crcOne_xor]; rfl
theorem crcOne_even (m : Nat) : crcOne (2 * m) = m := by
  unfold crcOne
  rw [if_neg (by omega)]
  omega
theorem crcK_even (k m : Nat) : crcK k (2 ^ k * m) = m := by
  induction k generalizing m with
  | zero => simp [crcK]
  | succ k ih =>
    rw [crcK, show 2 ^ (k + 1) * m = 2 ^ k * (2 * m) by rw [Nat.pow_succ, Nat.mul_assoc], ih, crcOne_even]
theorem low_high (n : Nat) : n % 256 ^^^ 256 * (n / 256) = n := by
  apply Nat.eq_of_testBit_eq
  intro i
  rw [Nat.testBit_xor, show (256 : Nat) = 2 ^ 8 from rfl, Nat.testBit_mod_two_pow, Nat.testBit_two_pow_mul, Nat.testBit_div_two_pow]
  by_cases h : i < 8
  · simp [h, show ¬ 8 ≤ i by omega]
  · simp [h, show 8 ≤ i by omega, show i - 8 + 8 = i by omega]
/-- one look takes the place of eight steps -/
theorem crc_look (n b : Nat) : crcK 8 (n ^^^ b) = crcK 8 (n % 256 ^^^ b) ^^^ n / 256 := by
  have h : n ^^^ b = n % 256 ^^^ b ^^^ 2 ^ 8 * (n / 256) := by
    conv => lhs; rw [← low_high n]
    show n % 256 ^^^ 256 * (n / 256) ^^^ b = n % 256 ^^^ b ^^^ 256 * (n / 256)
    ac_rfl
  rw [h, crcK_xor, crcK_even]
theorem i64_xor_nat (a b : Nat) (ha : a < 4294967296) (hb : b < 4294967296) : bits .xor .i64 (a : Int) (b : Int) = ((a ^^^ b : Nat) : Int) := by
  show IntKind.i64.wrap ((BitVec.ofInt 64 (a : Int) ^^^ BitVec.ofInt 64 (b : Int)).toNat : Int) = _
  have h1 : (BitVec.ofInt 64 (a : Int)).toNat = a := by rw [BitVec.ofInt_natCast, BitVec.toNat_ofNat]; exact Nat.mod_eq_of_lt (by omega)
  have h2 : (BitVec.ofInt 64 (b : Int)).toNat = b := by rw [BitVec.ofInt_natCast, BitVec.toNat_ofNat]; exact Nat.mod_eq_of_lt (by omega)
  have hx := xor_lt32 ha hb
  rw [BitVec.toNat_xor, h1, h2, IntKind.wrap_i64]
  omega
theorem i64_and_nat (a b : Nat) (ha : a < 4294967296) (hb : b < 4294967296) : bits .and .i64 (a : Int) (b : Int) = ((a &&& b : Nat) : Int) := by
  show IntKind.i64.wrap ((BitVec.ofInt 64 (a : Int) &&& BitVec.ofInt 64 (b : Int)).toNat : Int) = _
  have h1 : (BitVec.ofInt 64 (a : Int)).toNat = a := by rw [BitVec.ofInt_natCast, BitVec.toNat_ofNat]; exact Nat.mod_eq_of_lt (by omega)
  have h2 : (BitVec.ofInt 64 (b : Int)).toNat = b := by rw [BitVec.ofInt_natCast, BitVec.toNat_ofNat]; exact Nat.mod_eq_of_lt (by omega)
  have hx : a &&& b ≤ a := Nat.and_le_left
  rw [BitVec.toNat_and, h1, h2, IntKind.wrap_i64]
  omega
end Go.Proofs.YtpfbhckmpkiijaaDoor
