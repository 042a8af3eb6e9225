/-
  What rounding to fewer bits returns, by the bits. Conditions: the numbers fit their kinds.
-/
import Derived.Test.YtnjimhedcmjfbabNext
namespace Go.Proofs.Ytnjimhedcmjfbab
open Go.RowKit

theorem and_high (a m k : Nat) (h : a < 2 ^ (k + m)) : a &&& ((2 ^ m - 1) <<< k) = a / 2 ^ k * 2 ^ k := by
  rw [← Nat.shiftRight_eq_div_pow, ← Nat.shiftLeft_eq]
  apply Nat.eq_of_testBit_eq
  intro i
  rw [Nat.testBit_and, Nat.testBit_shiftLeft, Nat.testBit_shiftLeft, Nat.testBit_two_pow_sub_one, Nat.testBit_shiftRight]
  by_cases hi : k ≤ i
  · rw [show k + (i - k) = i by omega]
    by_cases hm : i - k < m
    · simp [hi, hm]
    · have : a.testBit i = false := Nat.testBit_lt_two_pow (Nat.lt_of_lt_of_le h (Nat.pow_le_pow_right (by decide) (by omega)))
      simp [this]
  · simp [hi]
theorem b_mask (x : Nat) (h : x < 4294967296) : bits .and .u32 (x : Int) 4294901760 = ((x / 65536 * 65536 : Nat) : Int) := by
  have h1 := u32_and_nat x 4294901760 h (by decide)
  have h2 := and_high x 16 16 h
  rw [show ((2 ^ 16 - 1) <<< 16 : Nat) = 4294901760 from rfl] at h2
  rw [h2] at h1
  exact h1
theorem b_mask64 (x : Nat) (h : x < 9223372036854775808) : bits .andNot .i64 (x : Int) 65535 = ((x / 65536 * 65536 : Nat) : Int) := by
  show IntKind.i64.wrap ((BitVec.ofInt 64 (x : Int) &&& ~~~BitVec.ofInt 64 ((65535 : Nat) : Int)).toNat : Int) = _
  rw [BitVec.toNat_and, BitVec.toNat_not, ofInt_u64 x (by omega), ofInt_u64 65535 (by decide)]
  have h2 := and_high x 48 16 (by omega)
  rw [show ((2 ^ 48 - 1) <<< 16 : Nat) = 2 ^ 64 - 1 - 65535 from rfl] at h2
  rw [h2]
  exact IntWalk.i64_in _ (by omega)
theorem b_one (x : Nat) (h : x < 4294967296) : bits .and .u32 (x : Int) 1 = ((x % 2 : Nat) : Int) := by
  have h1 := u32_and_nat x 1 h (by decide)
  rw [Nat.and_one_is_mod] at h1
  exact h1
theorem b_one64 (x : Nat) (h : x < 9223372036854775808) : bits .and .i64 (x : Int) 1 = ((x % 2 : Nat) : Int) := by
  show IntKind.i64.wrap ((BitVec.ofInt 64 (x : Int) &&& BitVec.ofInt 64 ((1 : Nat) : Int)).toNat : Int) = _
  rw [BitVec.toNat_and, ofInt_u64 x (by omega), ofInt_u64 1 (by decide), Nat.and_one_is_mod]
  exact IntWalk.i64_in _ (by omega)
/-- the nearest number of 16 bits -/
def bf (x : Nat) : Nat := if 2139095040 ≤ x % 2147483648 then x else (x + 32767 + x / 65536 % 2) / 65536 * 65536
theorem bf_fin {x : Nat} (h : ¬ 2139095040 ≤ x % 2147483648) : bf x = (x + 32767 + x / 65536 % 2) / 65536 * 65536 := by unfold bf; rw [if_neg h]
theorem bf_inf {x : Nat} (h : 2139095040 ≤ x % 2147483648) : bf x = x := by unfold bf; rw [if_pos h]
theorem bf_impl {x : Nat} (h : x < 4294967296) (hn : ¬ 2139095040 < x % 2147483648) :
    (bits .and .u32 (((x : Int) + 32767 + bits .and .u32 ((x : Int) / 65536) 1) % 4294967296) 4294901760).toNat = bf x := by
  have e1 : (x : Int) / 65536 = ((x / 65536 : Nat) : Int) := by omega
  rw [e1, b_one _ (by omega)]
  have e2 : ((x : Int) + 32767 + ((x / 65536 % 2 : Nat) : Int)) % 4294967296 = ((x + 32767 + x / 65536 % 2 : Nat) : Int) := by omega
  rw [e2, b_mask _ (by omega), Int.toNat_natCast]
  by_cases hi : 2139095040 ≤ x % 2147483648
  · rw [bf_inf hi]; omega
  · rw [bf_fin hi]
theorem bf_lt {x : Nat} (h : x < 4294967296) : bf x < 4294967296 := by
  by_cases hi : 2139095040 ≤ x % 2147483648
  · rw [bf_inf hi]; exact h
  · rw [bf_fin hi]; omega

theorem c_iBfloatOf (x : Nat) (hx : x < 4294967296) (w : World) : Calls Try.prog 33 #[.float .f32 x] w fun e w' => ∃ r, canon .f32 r = canon .f32 (bf x) ∧ e = .returned (.float .f32 r) ∧ w = w' := by
  by_cases hn : 2139095040 < x % 2147483648
  · have Nn := Lib.hid (decide_eq_true hn)
    have hx' := Lib.hid hx
    have H := Lib.hid (show canon .f32 2143289344 = canon .f32 (bf x) by
      rw [bf_inf (by omega), canon_nan (k := .f32) (b := x) (by rw [isNan32]; simpa using hn)]; decide +kernel)
    clear hn hx
    go_enter Try.func33, Try.ntmps33
    go_wp2_with (first | (go_at_call 43; refine (c_wordOf _ _).mono ?_; rintro e w' ⟨rfl, rfl⟩) | (go_at_call 44; refine (c_isNan _ hx'.out _).mono ?_; rintro e w' ⟨rfl, rfl⟩; rw [Nn.out]) | (go_at_call 47; refine (c_number _ _).mono ?_; rintro e w' ⟨rfl, rfl⟩))
    go_ret
    exact ⟨_, H.out, rfl, rfl⟩
  · have Nn := Lib.hid (decide_eq_false hn)
    have hx' := Lib.hid hx
    have HN := Lib.hid hn
    have hl : (x : Int) ≤ 4294900000 := by omega
    clear hn hx
    go_enter Try.func33, Try.ntmps33
    go_wp2_with (first | (go_at_call 43; refine (c_wordOf _ _).mono ?_; rintro e w' ⟨rfl, rfl⟩) | (go_at_call 44; refine (c_isNan _ hx'.out _).mono ?_; rintro e w' ⟨rfl, rfl⟩; rw [Nn.out]) | (go_at_call 47; refine (c_number _ _).mono ?_; rintro e w' ⟨rfl, rfl⟩))
    go_ret
    exact ⟨bf x, rfl, ret_f (bf_impl hx'.out HN.out), rfl⟩
theorem bf_spec {x : Nat} (h : x < 4294967296) (hn : ¬ 2139095040 ≤ x % 2147483648) : bits .andNot .i64 (wrap64 ((x : Int) + wrap64 (32767 + bits .and .i64 ((x : Int) / 65536) 1))) 65535 = (bf x : Int) := by
  have e1 : (x : Int) / 65536 = ((x / 65536 : Nat) : Int) := by omega
  rw [e1, b_one64 _ (by omega)]
  rw [IntWalk.wrap64_in (32767 + _) (by omega), IntWalk.wrap64_in _ (by omega)]
  have e2 : ((x : Int) + (32767 + ((x / 65536 % 2 : Nat) : Int))) = ((x + 32767 + x / 65536 % 2 : Nat) : Int) := by omega
  rw [e2, b_mask64 _ (by omega), bf_fin hn]
theorem c_l01Bfloat (x : Nat) (hx : x < 4294967296) (w : World) : Calls Try.prog 58 #[.float .f32 x] w fun e w' => e = .returned (.float .f32 (bf x)) ∧ Drawn w w' := by
  by_cases hn : 2139095040 ≤ x % 2147483648
  · have F := Lib.hid (show fin32 x = false by simp [fin32]; omega)
    have H := Lib.hid (bf_inf hn)
    clear hn
    go_enter Try.func58, Try.ntmps58
    go_wp2_with (go_at_call 76; refine (c_l01Finite _ _).mono ?_; rintro e w' ⟨rfl, n, rfl⟩; rw [F.out])
    go_ret
    exact ⟨ret_f H.out.symm, Drawn.mk _ _⟩
  · have F := Lib.hid (show fin32 x = true by simp [fin32]; omega)
    have HN := Lib.hid hn
    have HX := Lib.hid hx
    have HC := Lib.hid (canon_num (k := .f32) (b := x) (by rw [isNan32]; simp; omega))
    have hl : (x : Int) ≤ 4294967295 := by omega
    clear hn hx
    go_enter Try.func58, Try.ntmps58
    go_wp2_with (first | (go_at_call 76; refine (c_l01Finite _ _).mono ?_; rintro e w' ⟨rfl, n, rfl⟩; rw [F.out]) | (go_at_call 71; refine (c_l01Bits _ HX.out _).mono ?_; rintro e w' ⟨rfl, rfl⟩; rw [HC.out]))
    rw [bf_spec HX.out HN.out]
    go_wp2_with (go_at_call 72; refine (c_l01From _ (bf_lt HX.out) _).mono ?_; rintro e w' ⟨rfl, rfl⟩)
    go_ret
    exact ⟨rfl, Drawn.mk _ _⟩
theorem c_sBfloatOf (x : Nat) (hx : x < 4294967296) (w : World) : Calls Try.prog 32 #[.float .f32 x] w fun e w' => e = .returned (.float .f32 (bf x)) ∧ Drawn w w' := by
  go_enter Try.func32, Try.ntmps32
  go_wp2_with (go_at_call 58; refine (c_l01Bfloat _ (by assumption) _).mono ?_; rintro e w' ⟨rfl, n, rfl⟩)
  go_ret
  exact ⟨rfl, Drawn.mk _ _⟩

/-- the number of 16 bits that a chance chooses -/
def bb (x c : Nat) : Nat := if 2139095040 ≤ x % 2147483648 then x else (x + c) / 65536 * 65536
theorem bb_fin {x c : Nat} (h : ¬ 2139095040 ≤ x % 2147483648) : bb x c = (x + c) / 65536 * 65536 := by unfold bb; rw [if_neg h]
theorem bb_inf {x c : Nat} (h : 2139095040 ≤ x % 2147483648) : bb x c = x := by unfold bb; rw [if_pos h]
theorem bb_lt {x c : Nat} (h : x < 4294967296) (hc : c ≤ 65535) : bb x c < 4294967296 := by
  by_cases hi : 2139095040 ≤ x % 2147483648
  · rw [bb_inf hi]; exact h
  · rw [bb_fin hi]; omega
theorem bb_impl {x c : Nat} (h : x < 4294967296) (hn : ¬ 2139095040 ≤ x % 2147483648) (hc : c ≤ 65535) : bits .and .u32 ((x : Int) + (c : Int)) 4294901760 = (bb x c : Int) := by
  have := b_mask (x + c) (by omega)
  rw [bb_fin hn]
  exact this
theorem c_isFinite (x : Nat) (hx : x < 4294967296) (w : World) : Calls Try.prog 61 #[.int .u32 x] w fun e w' => e = .returned (.bool (fin32 x)) ∧ w = w' := by
  have hb := b_clear x hx
  go_enter Try.func61, Try.ntmps61
  go_wp2
  go_ret
  exact ⟨ret_b (by simp [fin32]; omega), rfl⟩
theorem c_iBfloatBy_no (x : Nat) (c : Int) (h : c < 0 ∨ 65535 < c) (w : World) : Calls Try.prog 35 #[.float .f32 x, .int .i64 c] w fun e w' => e = .returned (.tuple #[.float .f32 0, .bool false]) ∧ w = w' := by
  by_cases h0 : c < 0
  · go_enter Try.func35, Try.ntmps35
    go_wp2
    go_ret2
    exact ⟨rfl, rfl⟩
  · have h1 : 0 ≤ c := by omega
    have h2 : 65535 < c := by omega
    clear h h0
    go_enter Try.func35, Try.ntmps35
    go_wp2
    go_ret2
    exact ⟨rfl, rfl⟩
theorem c_iBfloatBy (x c : Nat) (hx : x < 4294967296) (hc : c ≤ 65535) (w : World) : Calls Try.prog 35 #[.float .f32 x, .int .i64 c] w fun e w' => e = .returned (.tuple #[.float .f32 (bb x c), .bool true]) ∧ w = w' := by
  have HX := Lib.hid hx
  have hc' : (c : Int) ≤ 65535 := by omega
  by_cases hn : 2139095040 ≤ x % 2147483648
  · have F := Lib.hid (show fin32 x = false by simp [fin32]; omega)
    have H := Lib.hid (bb_inf (c := c) hn)
    clear hn hc hx
    go_enter Try.func35, Try.ntmps35
    go_wp2_with (first | (go_at_call 43; refine (c_wordOf _ _).mono ?_; rintro e w' ⟨rfl, rfl⟩) | (go_at_call 61; refine (c_isFinite _ HX.out _).mono ?_; rintro e w' ⟨rfl, rfl⟩; rw [F.out]))
    go_ret2
    exact ⟨by rw [H.out]; rfl, rfl⟩
  · have F := Lib.hid (show fin32 x = true by simp [fin32]; omega)
    have H := Lib.hid (bb_impl hx hn hc)
    have hl : (x : Int) ≤ 4294900000 := by omega
    clear hn hc hx
    go_enter Try.func35, Try.ntmps35
    go_wp2_with (first | (go_at_call 43; refine (c_wordOf _ _).mono ?_; rintro e w' ⟨rfl, rfl⟩) | (go_at_call 61; refine (c_isFinite _ HX.out _).mono ?_; rintro e w' ⟨rfl, rfl⟩; rw [F.out]) | (go_at_call 47; refine (c_number _ _).mono ?_; rintro e w' ⟨rfl, rfl⟩))
    go_ret2
    exact ⟨by rw [H.out]; rfl, rfl⟩
theorem bb_spec {x c : Nat} (h : x < 4294967296) (hn : ¬ 2139095040 ≤ x % 2147483648) (hc : c ≤ 65535) : bits .andNot .i64 ((x : Int) + (c : Int)) 65535 = (bb x c : Int) := by
  have := b_mask64 (x + c) (by omega)
  rw [bb_fin hn]
  exact this
theorem c_l01BfloatBy (x c : Nat) (hx : x < 4294967296) (hc : c ≤ 65535) (w : World) : Calls Try.prog 60 #[.float .f32 x, .int .i64 c] w fun e w' => e = .returned (.float .f32 (bb x c)) ∧ Drawn w w' := by
  by_cases hn : 2139095040 ≤ x % 2147483648
  · have F := Lib.hid (show fin32 x = false by simp [fin32]; omega)
    have H := Lib.hid (bb_inf (c := c) hn)
    clear hn
    go_enter Try.func60, Try.ntmps60
    go_wp2_with (go_at_call 76; refine (c_l01Finite _ _).mono ?_; rintro e w' ⟨rfl, n, rfl⟩; rw [F.out])
    go_ret
    exact ⟨ret_f H.out.symm, Drawn.mk _ _⟩
  · have F := Lib.hid (show fin32 x = true by simp [fin32]; omega)
    have HN := Lib.hid hn
    have HX := Lib.hid hx
    have HB := Lib.hid (bb_lt hx hc)
    have HC := Lib.hid (canon_num (k := .f32) (b := x) (by rw [isNan32]; simp; omega))
    have hl : (x : Int) ≤ 4294967295 := by omega
    have hl2 : (c : Int) ≤ 65535 := by omega
    have HL := Lib.hid (bb_spec hx hn hc)
    clear hn hx hc
    go_enter Try.func60, Try.ntmps60
    go_wp2_with (first | (go_at_call 76; refine (c_l01Finite _ _).mono ?_; rintro e w' ⟨rfl, n, rfl⟩; rw [F.out]) | (go_at_call 71; refine (c_l01Bits _ HX.out _).mono ?_; rintro e w' ⟨rfl, rfl⟩; rw [HC.out]))
    rw [HL.out]
    go_wp2_with (go_at_call 72; refine (c_l01From _ HB.out _).mono ?_; rintro e w' ⟨rfl, rfl⟩)
    go_ret
    exact ⟨rfl, Drawn.mk _ _⟩
theorem c_sBfloatBy_no (x : Nat) (c : Int) (h : c < 0 ∨ 65535 < c) (w : World) : Calls Try.prog 34 #[.float .f32 x, .int .i64 c] w fun e w' => e = .returned (.tuple #[.float .f32 0, .bool false]) ∧ w = w' := by
  have H := Lib.hid (show (decide ((0 : Int) ≤ c) && decide (c ≤ 65535)) = false by simp; omega)
  clear h
  go_enter Try.func34, Try.ntmps34
  go_wp2_with (go_at_call 59; refine (c_l00In _ _ _ false H.out _).mono ?_; rintro e w' ⟨rfl, rfl⟩)
  go_ret2
  exact ⟨rfl, rfl⟩
theorem c_sBfloatBy (x c : Nat) (hx : x < 4294967296) (hc : c ≤ 65535) (w : World) : Calls Try.prog 34 #[.float .f32 x, .int .i64 c] w fun e w' => e = .returned (.tuple #[.float .f32 (bb x c), .bool true]) ∧ Drawn w w' := by
  have H := Lib.hid (show (decide ((0 : Int) ≤ (c : Int)) && decide ((c : Int) ≤ 65535)) = true by simp; omega)
  have HX := Lib.hid hx
  have HC := Lib.hid hc
  clear hx hc
  go_enter Try.func34, Try.ntmps34
  go_wp2_with (first | (go_at_call 59; refine (c_l00In _ _ _ true H.out _).mono ?_; rintro e w' ⟨rfl, rfl⟩) | (go_at_call 60; refine (c_l01BfloatBy _ _ HX.out HC.out _).mono ?_; rintro e w' ⟨rfl, n, rfl⟩))
  go_ret2
  exact ⟨rfl, Drawn.mk _ _⟩
end Go.Proofs.Ytnjimhedcmjfbab
