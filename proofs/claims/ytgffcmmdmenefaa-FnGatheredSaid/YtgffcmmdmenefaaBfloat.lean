/-
  What rounding to fewer bits returns, by the bits. Conditions: the numbers fit their kinds.
-/
import Derived.Test.YtgffcmmdmenefaaNext
namespace Go.Proofs.Ytgffcmmdmenefaa
open Go.RowKit

theorem and_high (a m k : Nat) (h : a < 2 ^ (k + m)) : a &&& ((2 ^ m - 1) <<< k) = a / 2 ^ k * 2 ^ k := by
  rw [← Nat.shiftRight_eq_div_pow, ← Nat.shiftLeft_eq]
  apply Nat.eq_of_testBit_eq
  intro i
  rw [Nat.testBit_and, Nat.testBit_shiftLeft, Nat.testBit_shiftLeft, Nat.testBit_two_pow_sub_one, Nat.testBit_shiftRight]
  by_cases hi : k ≤ i
  · rw [show k + (i - k) = i by omega]
    by_cases hm : i - k < m
    · simp [hi, hm]
    · have : a.testBit i = false := Nat.testBit_lt_two_pow (Nat.lt_of_lt_of_le h (Nat.pow_le_pow_right (by decide) (by omega)))
      simp [this]
  · simp [hi]
theorem b_mask (x : Nat) (h : x < 4294967296) : bits .and .u32 (x : Int) 4294901760 = ((x / 65536 * 65536 : Nat) : Int) := by
  have h1 := u32_and_nat x 4294901760 h (by decide)
  have h2 := and_high x 16 16 h
  rw [show ((2 ^ 16 - 1) <<< 16 : Nat) = 4294901760 from rfl] at h2
  rw [h2] at h1
  exact h1
theorem b_mask64 (x : Nat) (h : x < 9223372036854775808) : bits .andNot .i64 (x : Int) 65535 = ((x / 65536 * 65536 : Nat) : Int) := by
  show IntKind.i64.wrap ((BitVec.ofInt 64 (x : Int) &&& ~~~BitVec.ofInt 64 ((65535 : Nat) : Int)).toNat : Int) = _
  rw [BitVec.toNat_and, BitVec.toNat_not, ofInt_u64 x (by omega), ofInt_u64 65535 (by decide)]
  have h2 := and_high x 48 16 (by omega)
  rw [show ((2 ^ 48 - 1) <<< 16 : Nat) = 2 ^ 64 - 1 - 65535 from rfl] at h2
  rw [h2]
  exact IntWalk.i64_in _ (by omega)
theorem b_one (x : Nat) (h : x < 4294967296) : bits .and .u32 (x : Int) 1 = ((x % 2 : Nat) : Int) := by
  have h1 := u32_and_nat x 1 h (by decide)
  rw [Nat.and_one_is_mod] at h1
  exact h1
theorem b_one64 (x : Nat) (h : x < 9223372036854775808) : bits .and .i64 (x : Int) 1 = ((x % 2 : Nat) : Int) := by
  show IntKind.i64.wrap ((BitVec.ofInt 64 (x : Int) &&& BitVec.ofInt 64 ((1 : Nat) : Int)).toNat : Int) = _
  rw [BitVec.toNat_and, ofInt_u64 x (by omega), ofInt_u64 1 (by decide), Nat.and_one_is_mod]
  exact IntWalk.i64_in _ (by omega)
theorem b_low64 (x : Nat) (h : x < 9223372036854775808) : bits .and .i64 (x : Int) 65535 = ((x % 65536 : Nat) : Int) := by
  show IntKind.i64.wrap ((BitVec.ofInt 64 (x : Int) &&& BitVec.ofInt 64 ((65535 : Nat) : Int)).toNat : Int) = _
  rw [BitVec.toNat_and, ofInt_u64 x (by omega), ofInt_u64 65535 (by decide), show (65535 : Nat) = 2 ^ 16 - 1 from rfl, Nat.and_two_pow_sub_one_eq_mod]
  exact IntWalk.i64_in _ (by omega)
theorem and_16 (x : Nat) : x &&& 65536 = (x / 65536 % 2) * 65536 := by
  rw [show (65536 : Nat) = 2 ^ 16 from rfl]
  apply Nat.eq_of_testBit_eq
  intro i
  rw [Nat.testBit_and, Nat.testBit_two_pow]
  have h16 : x.testBit 16 = decide (x / 2 ^ 16 % 2 = 1) := Nat.testBit_eq_decide_div_mod_eq
  by_cases e : 16 = i
  · subst e
    rw [h16]
    rcases Nat.mod_two_eq_zero_or_one (x / 2 ^ 16) with h | h
    · rw [h]; simp
    · rw [h]; simp; decide
  · rcases Nat.mod_two_eq_zero_or_one (x / 2 ^ 16) with h | h <;> rw [h] <;> simp [e]
    rw [show (65536 : Nat) = 2 ^ 16 from rfl, Nat.testBit_two_pow]
    simp [e]
theorem b_bit16 (x : Nat) (h : x < 9223372036854775808) : bits .and .i64 (x : Int) 65536 = ((x / 65536 % 2 * 65536 : Nat) : Int) := by
  show IntKind.i64.wrap ((BitVec.ofInt 64 (x : Int) &&& BitVec.ofInt 64 ((65536 : Nat) : Int)).toNat : Int) = _
  rw [BitVec.toNat_and, ofInt_u64 x (by omega), ofInt_u64 65536 (by decide), and_16]
  exact IntWalk.i64_in _ (by omega)
/-- the nearest number of 16 bits -/
def bf (x : Nat) : Nat := if 2139095040 ≤ x % 2147483648 then x else (x + 32767 + x / 65536 % 2) / 65536 * 65536
theorem bf_fin {x : Nat} (h : ¬ 2139095040 ≤ x % 2147483648) : bf x = (x + 32767 + x / 65536 % 2) / 65536 * 65536 := by unfold bf; rw [if_neg h]
theorem bf_inf {x : Nat} (h : 2139095040 ≤ x % 2147483648) : bf x = x := by unfold bf; rw [if_pos h]
theorem bf_impl {x : Nat} (h : x < 4294967296) (hn : ¬ 2139095040 < x % 2147483648) :
    (bits .and .u32 (((x : Int) + 32767 + bits .and .u32 ((x : Int) / 65536) 1) % 4294967296) 4294901760).toNat = bf x := by
  have e1 : (x : Int) / 65536 = ((x / 65536 : Nat) : Int) := by omega
  rw [e1, b_one _ (by omega)]
  have e2 : ((x : Int) + 32767 + ((x / 65536 % 2 : Nat) : Int)) % 4294967296 = ((x + 32767 + x / 65536 % 2 : Nat) : Int) := by omega
  rw [e2, b_mask _ (by omega), Int.toNat_natCast]
  by_cases hi : 2139095040 ≤ x % 2147483648
  · rw [bf_inf hi]; omega
  · rw [bf_fin hi]
theorem bf_lt {x : Nat} (h : x < 4294967296) : bf x < 4294967296 := by
  by_cases hi : 2139095040 ≤ x % 2147483648
  · rw [bf_inf hi]; exact h
  · rw [bf_fin hi]; omega

theorem c_iBfloatOf (x : Nat) (hx : x < 4294967296) (w : World) : Calls Try.prog 45 #[.float .f32 x] w fun e w' => ∃ r, canon .f32 r = canon .f32 (bf x) ∧ r < 4294967296 ∧ e = .returned (.float .f32 r) ∧ w = w' := by
  by_cases hn : 2139095040 < x % 2147483648
  · have Nn := Lib.hid (decide_eq_true hn)
    have hx' := Lib.hid hx
    have H := Lib.hid (show canon .f32 2143289344 = canon .f32 (bf x) by
      rw [bf_inf (by omega), canon_nan (k := .f32) (b := x) (by rw [isNan32]; simpa using hn)]; decide +kernel)
    clear hn hx
    go_enter Try.func45, Try.ntmps45
    go_wp2_with (first | (go_at_call 80; refine (c_wordOf _ _).mono ?_; rintro e w' ⟨rfl, rfl⟩) | (go_at_call 81; refine (c_isNan _ hx'.out _).mono ?_; rintro e w' ⟨rfl, rfl⟩; rw [Nn.out]) | (go_at_call 82; refine (c_number _ _).mono ?_; rintro e w' ⟨rfl, rfl⟩))
    go_ret
    exact ⟨_, H.out, by decide, rfl, rfl⟩
  · have Nn := Lib.hid (decide_eq_false hn)
    have hx' := Lib.hid hx
    have HN := Lib.hid hn
    have hl : (x : Int) ≤ 4294900000 := by omega
    clear hn hx
    go_enter Try.func45, Try.ntmps45
    go_wp2_with (first | (go_at_call 80; refine (c_wordOf _ _).mono ?_; rintro e w' ⟨rfl, rfl⟩) | (go_at_call 81; refine (c_isNan _ hx'.out _).mono ?_; rintro e w' ⟨rfl, rfl⟩; rw [Nn.out]) | (go_at_call 82; refine (c_number _ _).mono ?_; rintro e w' ⟨rfl, rfl⟩))
    go_ret
    exact ⟨bf x, rfl, bf_lt hx'.out, ret_f (bf_impl hx'.out HN.out), rfl⟩
theorem bf_spec {x : Nat} (h : x < 4294967296) (hn : ¬ 2139095040 ≤ x % 2147483648) : bits .andNot .i64 (wrap64 ((x : Int) + wrap64 (32767 + bits .and .i64 ((x : Int) / 65536) 1))) 65535 = (bf x : Int) := by
  have e1 : (x : Int) / 65536 = ((x / 65536 : Nat) : Int) := by omega
  rw [e1, b_one64 _ (by omega)]
  rw [IntWalk.wrap64_in (32767 + _) (by omega), IntWalk.wrap64_in _ (by omega)]
  have e2 : ((x : Int) + (32767 + ((x / 65536 % 2 : Nat) : Int))) = ((x + 32767 + x / 65536 % 2 : Nat) : Int) := by omega
  rw [e2, b_mask64 _ (by omega), bf_fin hn]
theorem c_l01Bfloat (x : Nat) (hx : x < 4294967296) (w : World) : Calls Try.prog 74 #[.float .f32 x] w fun e w' => e = .returned (.float .f32 (bf x)) ∧ Drawn w w' := by
  by_cases hn : 2139095040 ≤ x % 2147483648
  · have F := Lib.hid (show fin32 x = false by simp [fin32]; omega)
    have H := Lib.hid (bf_inf hn)
    clear hn
    go_enter Try.func74, Try.ntmps74
    go_wp2_with (go_at_call 85; refine (c_l01Finite _ _).mono ?_; rintro e w' ⟨rfl, n, rfl⟩; rw [F.out])
    go_ret
    exact ⟨ret_f H.out.symm, Drawn.mk _ _⟩
  · have F := Lib.hid (show fin32 x = true by simp [fin32]; omega)
    have HN := Lib.hid hn
    have HX := Lib.hid hx
    have HC := Lib.hid (canon_num (k := .f32) (b := x) (by rw [isNan32]; simp; omega))
    have hl : (x : Int) ≤ 4294967295 := by omega
    clear hn hx
    go_enter Try.func74, Try.ntmps74
    go_wp2_with (first | (go_at_call 85; refine (c_l01Finite _ _).mono ?_; rintro e w' ⟨rfl, n, rfl⟩; rw [F.out]) | (go_at_call 93; refine (c_l01Bits _ HX.out _).mono ?_; rintro e w' ⟨rfl, rfl⟩; rw [HC.out]))
    rw [bf_spec HX.out HN.out]
    go_wp2_with (go_at_call 100; refine (c_l01From _ (bf_lt HX.out) _).mono ?_; rintro e w' ⟨rfl, rfl⟩)
    go_ret
    exact ⟨rfl, Drawn.mk _ _⟩

/-- the number of 16 bits that a chance chooses -/
def bb (x c : Nat) : Nat := if 2139095040 ≤ x % 2147483648 then x else (x + c) / 65536 * 65536
theorem bb_fin {x c : Nat} (h : ¬ 2139095040 ≤ x % 2147483648) : bb x c = (x + c) / 65536 * 65536 := by unfold bb; rw [if_neg h]
theorem bb_inf {x c : Nat} (h : 2139095040 ≤ x % 2147483648) : bb x c = x := by unfold bb; rw [if_pos h]
theorem bb_lt {x c : Nat} (h : x < 4294967296) (hc : c ≤ 65535) : bb x c < 4294967296 := by
  by_cases hi : 2139095040 ≤ x % 2147483648
  · rw [bb_inf hi]; exact h
  · rw [bb_fin hi]; omega
theorem bb_parts {x c : Nat} (hf : ¬ 2139095040 ≤ x % 2147483648) (hc : c ≤ 65535) : bb x c = if 65536 ≤ x % 65536 + c then x / 65536 * 65536 + 65536 else x / 65536 * 65536 := by
  rw [bb_fin hf]
  clear hf
  split <;> omega
theorem bf_parts {x : Nat} (hf : ¬ 2139095040 ≤ x % 2147483648) : bf x = if x % 65536 < 32768 ∨ x % 65536 = 32768 ∧ x / 65536 * 65536 / 65536 % 2 = 0 then x / 65536 * 65536 else x / 65536 * 65536 + 65536 := by
  rw [bf_fin hf]
  clear hf
  split <;> omega
end Go.Proofs.Ytgffcmmdmenefaa
