/-
  What the functions on the neighbours of a number return. Conditions: the numbers fit their kind.
-/
import Derived.Test.YtnjimhedcmjfbaaBits
namespace Go.Proofs.Ytnjimhedcmjfbaa
open Go.RowKit

/-- the next greater number, by its bits -/
def nx (x : Nat) : Nat := if 2139095040 < x % 2147483648 ∨ x = 2139095040 then x else if x % 2147483648 = 0 then 1 else if x < 2147483648 then x + 1 else x - 1
theorem nx_lt {x : Nat} (h : x < 4294967296) : nx x < 4294967296 := by unfold nx; (repeat' split) <;> omega
/-- the number with the other sign -/
def opp (x : Nat) : Nat := if x < 2147483648 then x + 2147483648 else x - 2147483648
theorem opp_lt {x : Nat} (h : x < 4294967296) : opp x < 4294967296 := by unfold opp; split <;> omega
theorem xor_low {y : Nat} (h : y < 2 ^ 31) : y ^^^ 2 ^ 31 = y + 2 ^ 31 := by
  apply Nat.eq_of_testBit_eq
  intro i
  rw [Nat.testBit_xor, Nat.testBit_two_pow, Nat.add_comm]
  by_cases e : 31 = i
  · subst e; rw [Nat.testBit_two_pow_add_eq]; simp
  · by_cases g : i < 31
    · rw [Nat.testBit_two_pow_add_gt g]; simp [e]
    · have h1 : y.testBit i = false := Nat.testBit_lt_two_pow (Nat.lt_of_lt_of_le h (Nat.pow_le_pow_right (by decide) (by omega)))
      have h2 : (2 ^ 31 + y).testBit i = false := Nat.testBit_lt_two_pow (Nat.lt_of_lt_of_le (show 2 ^ 31 + y < 2 ^ 32 by omega) (Nat.pow_le_pow_right (by decide) (by omega)))
      rw [h1, h2]; simp [e]
theorem xor_31 {x : Nat} (h : x < 4294967296) : x ^^^ 2147483648 = opp x := by
  unfold opp
  split
  · rename_i h1; exact xor_low h1
  · rename_i h1
    obtain ⟨y, rfl⟩ : ∃ y, x = y + 2147483648 := ⟨x - 2147483648, by omega⟩
    have := xor_low (show y < 2 ^ 31 by omega)
    rw [show (2147483648 : Nat) = 2 ^ 31 from rfl, ← this, Nat.xor_assoc, Nat.xor_self, Nat.xor_zero, this, Nat.add_sub_cancel]
theorem neg32 {x : Nat} (h : x < 4294967296) : Op.negFloat .f32 x = opp x := xor_31 h
theorem and_top (x : Nat) : x &&& 2147483648 = (x / 2147483648 % 2) * 2147483648 := by
  rw [show (2147483648 : Nat) = 2 ^ 31 from rfl]
  apply Nat.eq_of_testBit_eq
  intro i
  rw [Nat.testBit_and, Nat.testBit_two_pow]
  have h31 : x.testBit 31 = decide (x / 2 ^ 31 % 2 = 1) := Nat.testBit_eq_decide_div_mod_eq
  by_cases e : 31 = i
  · subst e
    rw [h31]
    rcases Nat.mod_two_eq_zero_or_one (x / 2 ^ 31) with h | h
    · rw [h]; simp
    · rw [h]; simp; decide
  · rcases Nat.mod_two_eq_zero_or_one (x / 2 ^ 31) with h | h <;> rw [h] <;> simp [e]
    rw [show (2147483648 : Nat) = 2 ^ 31 from rfl, Nat.testBit_two_pow]
    simp [e]

theorem b_sign0 (x : Nat) (h : x < 2147483648) : bits .and .u32 (x : Int) 2147483648 = 0 := by
  have := u32_and_nat x 2147483648 (by omega) (by decide)
  rw [and_top, show x / 2147483648 % 2 = 0 by omega] at this
  exact this
theorem b_sign1 (x : Nat) (h : 2147483648 ≤ x) (h' : x < 4294967296) : bits .and .u32 (x : Int) 2147483648 = 2147483648 := by
  have := u32_and_nat x 2147483648 h' (by decide)
  rw [and_top, show x / 2147483648 % 2 = 1 by omega] at this
  exact this
theorem b_flip (x : Nat) (h : x < 4294967296) : bits .xor .u32 (x : Int) 2147483648 = (opp x : Nat) := by
  have := u32_xor_nat x 2147483648 h (by decide)
  rw [xor_31 h] at this
  exact this

theorem c_l01Next (x : Nat) (hx : x < 4294967296) (w : World) : Calls Try.prog 63 #[.float .f32 x] w fun e w' => e = .returned (.float .f32 (nx x)) ∧ w = w' := by
  by_cases hn : 2139095040 < x % 2147483648
  · have hnn : isNan .f32 x = true := by rw [isNan32]; simpa using hn
    have ho : (FloatKind.f32.format.order x x != some .eq) = true := by rw [order_self_ne]; exact hnn
    have H := Lib.hid (show nx x = x by unfold nx; rw [if_pos (.inl hn)])
    have hx' := Lib.hid hx
    clear hn hnn hx
    go_enter Try.func63, Try.ntmps63
    go_wp2_with (go_at_call 65; refine (c_l01Bits _ hx'.out _).mono ?_; rintro e w' ⟨rfl, rfl⟩)
    go_ret
    exact ⟨ret_f H.out.symm, rfl⟩
  · have hnn : isNan .f32 x = false := by rw [isNan32]; simpa using hn
    have ho : (FloatKind.f32.format.order x x != some .eq) = false := by rw [order_self_ne]; exact hnn
    have hb : ∀ w, Calls Try.prog 65 #[.float .f32 x] w fun e w' => e = .returned (.int .i64 x) ∧ w = w' := fun w => by
      have := c_l01Bits x hx w
      rwa [canon_num hnn] at this
    have HB := Lib.hid hb
    have hz := order_zero hx hnn
    clear hnn hb
    by_cases hi : x = 2139095040
    · have H := Lib.hid (show nx x = x by unfold nx; rw [if_pos (.inr hi)])
      have ht : ((x : Int) == 2139095040) = true := by simp; omega
      clear hi hn hz
      go_enter Try.func63, Try.ntmps63
      go_wp2_with (go_at_call 65; refine (HB.out _).mono ?_; rintro e w' ⟨rfl, rfl⟩)
      go_ret
      exact ⟨ret_f H.out.symm, rfl⟩
    · have ht : ((x : Int) == 2139095040) = false := by simp; omega
      by_cases h0 : x % 2147483648 = 0
      · have H := Lib.hid (show nx x = 1 by unfold nx; rw [if_neg (by omega), if_pos h0])
        have hz1 : (FloatKind.f32.format.order x 0 == some .eq) = true := by rw [hz, if_pos h0]; rfl
        clear hi hn hz h0
        go_enter Try.func63, Try.ntmps63
        go_wp2_with (first | (go_at_call 65; refine (HB.out _).mono ?_; rintro e w' ⟨rfl, rfl⟩) | (go_at_call 54; refine (c_l01From 1 (by decide) _).mono ?_; rintro e w' ⟨rfl, rfl⟩))
        go_ret
        exact ⟨ret_f H.out.symm, rfl⟩
      · have hz1 : (FloatKind.f32.format.order x 0 == some .eq) = false := by rw [hz, if_neg h0]; split <;> rfl
        by_cases hp : x < 2147483648
        · have H := Lib.hid (show nx x = x + 1 by unfold nx; rw [if_neg (by omega), if_neg h0, if_pos hp])
          have hz2 : (FloatKind.f32.format.order x 0 == some .gt) = true := by rw [hz, if_neg h0, if_pos hp]; rfl
          have hl : x + 1 < 4294967296 := by omega
          clear hi hn hz h0
          go_enter Try.func63, Try.ntmps63
          go_wp2_with (first | (go_at_call 65; refine (HB.out _).mono ?_; rintro e w' ⟨rfl, rfl⟩) | (go_at_call 54; refine (c_l01From (x + 1) hl _).mono ?_; rintro e w' ⟨rfl, rfl⟩))
          go_ret
          exact ⟨ret_f H.out.symm, rfl⟩
        · have H := Lib.hid (show nx x = x - 1 by unfold nx; rw [if_neg (by omega), if_neg h0, if_neg hp])
          have hz2 : (FloatKind.f32.format.order x 0 == some .gt) = false := by rw [hz, if_neg h0, if_neg hp]; rfl
          obtain ⟨y, rfl⟩ : ∃ y, x = y + 1 := ⟨x - 1, by omega⟩
          have hl : y < 4294967296 := by omega
          have ey : (((y + 1 : Nat) : Int) - 1) = (y : Int) := by omega
          clear hi hn hz h0
          go_enter Try.func63, Try.ntmps63
          go_wp2_with (first | (go_at_call 65; refine (HB.out _).mono ?_; rintro e w' ⟨rfl, rfl⟩) | (go_at_call 54; refine (c_l01From y hl _).mono ?_; rintro e w' ⟨rfl, rfl⟩))
          go_ret
          exact ⟨ret_f (by have := H.out; omega), rfl⟩
theorem c_wordOf (x : Nat) (w : World) : Calls Try.prog 56 #[.float .f32 x] w fun e w' => e = .returned (.int .u32 x) ∧ w = w' := by
  go_enter Try.func56, Try.ntmps56
  go_wp2
  go_ret
  exact ⟨rfl, rfl⟩
theorem c_number (n : Int) (w : World) : Calls Try.prog 58 #[.int .u32 n] w fun e w' => e = .returned (.float .f32 n.toNat) ∧ w = w' := by
  go_enter Try.func58, Try.ntmps58
  go_wp2
  go_ret
  exact ⟨rfl, rfl⟩
theorem c_isNan (x : Nat) (hx : x < 4294967296) (w : World) : Calls Try.prog 57 #[.int .u32 x] w fun e w' => e = .returned (.bool (decide (2139095040 < x % 2147483648))) ∧ w = w' := by
  have hb := b_clear x hx
  go_enter Try.func57, Try.ntmps57
  go_wp2
  go_ret
  exact ⟨ret_b (by simp; omega), rfl⟩
theorem c_withoutSign (x : Nat) (hx : x < 4294967296) (w : World) : Calls Try.prog 60 #[.int .u32 x] w fun e w' => e = .returned (.int .u32 (x % 2147483648 : Nat)) ∧ w = w' := by
  have hb := b_clear x hx
  go_enter Try.func60, Try.ntmps60
  go_wp2
  go_ret
  exact ⟨rfl, rfl⟩
theorem c_hasSign (x : Nat) (hx : x < 4294967296) (w : World) : Calls Try.prog 61 #[.int .u32 x] w fun e w' => e = .returned (.bool (decide (2147483648 ≤ x))) ∧ w = w' := by
  by_cases h : x < 2147483648
  · have H := Lib.hid (decide_eq_false (show ¬ 2147483648 ≤ x by omega))
    have hs : (bits .and .u32 (x : Int) 2147483648 != 0) = false := by rw [b_sign0 x h]; rfl
    clear h hx
    go_enter Try.func61, Try.ntmps61
    go_wp2
    go_ret
    exact ⟨ret_b H.out.symm, rfl⟩
  · have H := Lib.hid (decide_eq_true (show 2147483648 ≤ x by omega))
    have hs : (bits .and .u32 (x : Int) 2147483648 != 0) = true := by rw [b_sign1 x (by omega) hx]; rfl
    clear h hx
    go_enter Try.func61, Try.ntmps61
    go_wp2
    go_ret
    exact ⟨ret_b H.out.symm, rfl⟩

theorem c_iNextUp (x : Nat) (hx : x < 4294967296) (w : World) : Calls Try.prog 21 #[.float .f32 x] w fun e w' => e = .returned (.float .f32 (nx x)) ∧ w = w' := by
  have hb := b_clear x hx
  by_cases hn : 2139095040 < x % 2147483648
  · have H := Lib.hid (show nx x = x by unfold nx; rw [if_pos (.inl hn)])
    go_enter Try.func21, Try.ntmps21
    go_wp2
    go_ret
    exact ⟨ret_f H.out.symm, rfl⟩
  · by_cases hi : x = 2139095040
    · have H := Lib.hid (show nx x = x by unfold nx; rw [if_pos (.inr hi)])
      have ht : ((x : Int) == 2139095040) = true := by simp; omega
      have hi' := Lib.hid hi
      clear hi
      go_enter Try.func21, Try.ntmps21
      go_wp2
      go_ret
      exact ⟨ret_f H.out.symm, rfl⟩
    · have ht : ((x : Int) == 2139095040) = false := by simp; omega
      by_cases h0 : x % 2147483648 = 0
      · have H := Lib.hid (show nx x = 1 by unfold nx; rw [if_neg (by omega), if_pos h0])
        have ht0 : (((x % 2147483648 : Nat) : Int) == 0) = true := by simp; omega
        clear h0
        go_enter Try.func21, Try.ntmps21
        go_wp2
        go_ret
        exact ⟨ret_f H.out.symm, rfl⟩
      · have ht0 : (((x % 2147483648 : Nat) : Int) == 0) = false := by simp; omega
        by_cases hp : x < 2147483648
        · have H := Lib.hid (show nx x = x + 1 by unfold nx; rw [if_neg (by omega), if_neg h0, if_pos hp])
          have S := Lib.hid (decide_eq_false (show ¬ 2147483648 ≤ x by omega))
          have Nn := Lib.hid (decide_eq_false hn)
          have hx' := Lib.hid hx
          have hl : (x : Int) ≤ 4294967294 := by omega
          clear h0 hp hn hb hx
          go_enter Try.func21, Try.ntmps21
          go_wp2_with (first | (go_at_call 56; refine (c_wordOf _ _).mono ?_; rintro e w' ⟨rfl, rfl⟩) | (go_at_call 57; refine (c_isNan _ hx'.out _).mono ?_; rintro e w' ⟨rfl, rfl⟩; rw [Nn.out]) | (go_at_call 60; refine (c_withoutSign _ hx'.out _).mono ?_; rintro e w' ⟨rfl, rfl⟩) | (go_at_call 61; refine (c_hasSign _ hx'.out _).mono ?_; rintro e w' ⟨rfl, rfl⟩; rw [S.out]) | (go_at_call 58; refine (c_number _ _).mono ?_; rintro e w' ⟨rfl, rfl⟩))
          go_ret
          exact ⟨ret_f (by have := H.out; omega), rfl⟩
        · have H := Lib.hid (show nx x = x - 1 by unfold nx; rw [if_neg (by omega), if_neg h0, if_neg hp])
          have hs := b_sign1 x (by omega) hx
          have hl : 0 ≤ (x : Int) - 1 := by omega
          have hl' : (1 : Int) ≤ (x : Int) := by omega
          clear h0
          go_enter Try.func21, Try.ntmps21
          go_wp2
          go_ret
          exact ⟨ret_f (by rw [H.out]), rfl⟩
theorem c_sNextUp (x : Nat) (hx : x < 4294967296) (w : World) : Calls Try.prog 25 #[.float .f32 x] w fun e w' => e = .returned (.float .f32 (nx x)) ∧ w = w' := by
  go_enter Try.func25, Try.ntmps25
  go_wp2_with (go_at_call 63; refine (c_l01Next _ (by assumption) _).mono ?_; rintro e w' ⟨rfl, rfl⟩)
  go_ret
  exact ⟨rfl, rfl⟩
theorem c_iNextDown (x : Nat) (hx : x < 4294967296) (w : World) : Calls Try.prog 22 #[.float .f32 x] w fun e w' => e = .returned (.float .f32 (opp (nx (opp x)))) ∧ w = w' := by
  have h1 := opp_lt hx
  have e1 := b_flip x hx
  have e2 := b_flip _ (nx_lt h1)
  go_enter Try.func22, Try.ntmps22
  go_wp2_with (first | (go_at_call 56; refine (c_wordOf _ _).mono ?_; rintro e w' ⟨rfl, rfl⟩) | (go_at_call 21; refine (c_iNextUp _ (by assumption) _).mono ?_; rintro e w' ⟨rfl, rfl⟩) | (go_at_call 58; refine (c_number _ _).mono ?_; rintro e w' ⟨rfl, rfl⟩))
  go_ret
  exact ⟨rfl, rfl⟩
end Go.Proofs.Ytnjimhedcmjfbaa
