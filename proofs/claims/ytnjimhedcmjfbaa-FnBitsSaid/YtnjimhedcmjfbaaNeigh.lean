/-
  How a number stands to its neighbours: the next greater one and the next lesser one have the next integers as keys. Conditions: the numbers fit 32 bits.
-/
import Derived.Test.YtnjimhedcmjfbaaNext
import Derived.Test.YtnjimhedcmjfbaaKey
namespace Go.Proofs.Ytnjimhedcmjfbaa
open Go.RowKit Ieee

/-- a 32-bit number as an integer that rises with it -/
def k32 (x : Nat) : Int := if x / 2147483648 % 2 == 1 then -((x % 2147483648 : Nat) : Int) else ((x % 2147483648 : Nat) : Int)
theorem k32_eq (x : Nat) : key Ieee.single x = k32 x := by unfold key k32; rw [single_sw]
theorem k32_pos {x : Nat} (h : x < 2147483648) : k32 x = x := by
  unfold k32
  rw [show x / 2147483648 = 0 from Nat.div_eq_of_lt h, Nat.mod_eq_of_lt h]
  exact if_neg (by decide)
theorem k32_neg {x : Nat} (h : 2147483648 ≤ x) (h' : x < 4294967296) : k32 x = -((x - 2147483648 : Nat) : Int) := by
  unfold k32
  obtain ⟨y, rfl⟩ : ∃ y, x = y + 2147483648 := ⟨x - 2147483648, by omega⟩
  rw [show (y + 2147483648) / 2147483648 = 1 by omega, show (y + 2147483648) % 2147483648 = y by omega, Nat.add_sub_cancel]
  exact if_pos (by decide)
theorem k32_opp {x : Nat} (h : x < 4294967296) : k32 (opp x) = -k32 x := by
  unfold opp
  split
  · rename_i h1
    rw [k32_neg (by omega) (by omega), k32_pos h1]; omega
  · rename_i h1
    rw [k32_pos (by omega), k32_neg (by omega) h]; omega
theorem nan_opp {x : Nat} (h : x < 4294967296) : isNan .f32 (opp x) = isNan .f32 x := by
  rw [isNan32, isNan32]
  have : opp x % 2147483648 = x % 2147483648 := by unfold opp; split <;> omega
  rw [this]
theorem opp_opp {x : Nat} (h : x < 4294967296) : opp (opp x) = x := by unfold opp; split <;> split <;> omega
theorem not_nan {x : Nat} (h : isNan .f32 x = false) : x % 2147483648 ≤ 2139095040 := by rw [isNan32] at h; simpa using h
theorem is_nan {x : Nat} (h : x % 2147483648 ≤ 2139095040) : isNan .f32 x = false := by rw [isNan32]; simpa using h
theorem k32_nx {x : Nat} (h : x < 4294967296) (hn : isNan .f32 x = false) (hi : x ≠ 2139095040) : k32 (nx x) = k32 x + 1 ∧ isNan .f32 (nx x) = false := by
  have hm := not_nan hn
  unfold nx
  rw [if_neg (by omega)]
  by_cases h0 : x % 2147483648 = 0
  · rw [if_pos h0]
    refine ⟨?_, by decide +kernel⟩
    rw [k32_pos (by decide)]
    by_cases hp : x < 2147483648
    · rw [k32_pos hp]; omega
    · rw [k32_neg (by omega) h]; omega
  · rw [if_neg h0]
    by_cases hp : x < 2147483648
    · rw [if_pos hp]
      refine ⟨?_, is_nan (by omega)⟩
      rw [k32_pos (by omega), k32_pos hp]; omega
    · rw [if_neg hp]
      refine ⟨?_, is_nan (by omega)⟩
      rw [k32_neg (by omega) (by omega), k32_neg (by omega) h]; omega
/-- the next lesser number -/
def dn (x : Nat) : Nat := opp (nx (opp x))
theorem dn_lt {x : Nat} (h : x < 4294967296) : dn x < 4294967296 := opp_lt (nx_lt (opp_lt h))
theorem k32_dn {x : Nat} (h : x < 4294967296) (hn : isNan .f32 x = false) (hi : x ≠ 4286578688) : k32 (dn x) = k32 x - 1 ∧ isNan .f32 (dn x) = false := by
  have h1 := k32_nx (opp_lt h) (by rw [nan_opp h]; exact hn) (by unfold opp; split <;> omega)
  unfold dn
  rw [k32_opp (nx_lt (opp_lt h)), h1.1, k32_opp h, nan_opp (nx_lt (opp_lt h)), h1.2]
  exact ⟨by omega, rfl⟩
theorem ordk {x y : Nat} (hx : isNan .f32 x = false) (hy : isNan .f32 y = false) : FloatKind.f32.format.order x y = some (compare (k32 x) (k32 y)) := by
  rw [← k32_eq, ← k32_eq]
  exact order_key Ieee.single x y (by rw [single_bin, single_inf]; decide) hx hy
theorem ord_gt {x y : Nat} (hx : isNan .f32 x = false) (hy : isNan .f32 y = false) : (FloatKind.f32.format.order x y == some .gt) = decide (k32 y < k32 x) := by
  rw [ordk hx hy, Int.compare_eq_ite_lt]
  by_cases h1 : k32 x < k32 y
  · rw [if_pos h1, decide_eq_false (by omega)]; rfl
  · rw [if_neg h1]
    by_cases h2 : k32 y < k32 x
    · rw [if_pos h2, decide_eq_true h2]; rfl
    · rw [if_neg h2, decide_eq_false h2]; rfl
theorem ord_lt {x y : Nat} (hx : isNan .f32 x = false) (hy : isNan .f32 y = false) : (FloatKind.f32.format.order x y == some .lt) = decide (k32 x < k32 y) := by
  rw [ordk hx hy, Int.compare_eq_ite_lt]
  by_cases h1 : k32 x < k32 y
  · rw [if_pos h1, decide_eq_true h1]; rfl
  · rw [if_neg h1, decide_eq_false h1]
    by_cases h2 : k32 y < k32 x
    · rw [if_pos h2]; rfl
    · rw [if_neg h2]; rfl
theorem ord_eq {x y : Nat} (hx : isNan .f32 x = false) (hy : isNan .f32 y = false) : (FloatKind.f32.format.order x y == some .eq) = decide (k32 x = k32 y) := by
  rw [ordk hx hy, Int.compare_eq_ite_lt]
  by_cases h1 : k32 x < k32 y
  · rw [if_pos h1, decide_eq_false (by omega)]; rfl
  · rw [if_neg h1]
    by_cases h2 : k32 y < k32 x
    · rw [if_pos h2, decide_eq_false (by omega)]; rfl
    · rw [if_neg h2, decide_eq_true (by omega)]; rfl

/-- what a finite number's neighbours are -/
theorem neigh {x : Nat} (h : x < 4294967296) (hf : x % 2147483648 < 2139095040) :
    (FloatKind.f32.format.order (nx x) x == some .gt) = true ∧ (FloatKind.f32.format.order (dn x) x == some .lt) = true ∧
    (FloatKind.f32.format.order (dn (nx x)) x == some .eq) = true ∧ (FloatKind.f32.format.order (nx (dn x)) x == some .eq) = true ∧
    (∀ y, (FloatKind.f32.format.order y x == some .gt) = true → (FloatKind.f32.format.order y (nx x) == some .lt) = false) ∧
    (∀ y, (FloatKind.f32.format.order y x == some .lt) = true → (FloatKind.f32.format.order y (dn x) == some .gt) = false) := by
  have hn : isNan .f32 x = false := is_nan (by omega)
  obtain ⟨u1, u2⟩ := k32_nx h hn (by omega)
  obtain ⟨d1, d2⟩ := k32_dn h hn (by omega)
  have hu : nx x ≠ 4286578688 := by
    unfold nx; rw [if_neg (by omega)]; split
    · omega
    · split <;> omega
  have hd : dn x ≠ 2139095040 := by
    intro e
    have : nx (opp x) = 4286578688 := by
      have h2 := congrArg opp e
      unfold dn at h2
      rw [opp_opp (nx_lt (opp_lt h))] at h2
      exact h2
    have h3 : opp x % 2147483648 = x % 2147483648 := by unfold opp; split <;> omega
    unfold nx at this
    rw [if_neg (by omega)] at this
    split at this
    · omega
    · split at this <;> omega
  obtain ⟨v1, v2⟩ := k32_dn (nx_lt h) u2 hu
  obtain ⟨e1, e2⟩ := k32_nx (dn_lt h) d2 hd
  refine ⟨?_, ?_, ?_, ?_, ?_, ?_⟩
  · rw [ord_gt u2 hn]; exact decide_eq_true (by omega)
  · rw [ord_lt d2 hn]; exact decide_eq_true (by omega)
  · rw [ord_eq v2 hn]; exact decide_eq_true (by omega)
  · rw [ord_eq e2 hn]; exact decide_eq_true (by omega)
  · intro y hy
    by_cases hyn : isNan .f32 y = true
    · rw [order_isNan_l _ hyn]; rfl
    · have hyn : isNan .f32 y = false := by simpa using hyn
      rw [ord_gt hyn hn] at hy
      rw [ord_lt hyn u2]
      have := of_decide_eq_true hy
      exact decide_eq_false (by omega)
  · intro y hy
    by_cases hyn : isNan .f32 y = true
    · rw [order_isNan_l _ hyn]; rfl
    · have hyn : isNan .f32 y = false := by simpa using hyn
      rw [ord_lt hyn hn] at hy
      rw [ord_gt hyn d2]
      have := of_decide_eq_true hy
      exact decide_eq_false (by omega)

theorem and_exp (x : Nat) (h : x < 4294967296) : bits .and .i64 (x : Int) 2139095040 = ((x % 2147483648 / 8388608 * 8388608 : Nat) : Int) := by
  show IntKind.i64.wrap ((BitVec.ofInt 64 (x : Int) &&& BitVec.ofInt 64 ((2139095040 : Nat) : Int)).toNat : Int) = _
  rw [BitVec.toNat_and, ofInt_u64 x (by omega), ofInt_u64 2139095040 (by decide)]
  have e : x &&& 2139095040 = x % 2147483648 / 8388608 * 8388608 := by
    rw [show (2139095040 : Nat) = 2147483647 &&& ((2 ^ 8 - 1) <<< 23) by decide, ← Nat.and_assoc, and_31]
    have hx : x % 2147483648 < 2 ^ (23 + 8) := Nat.mod_lt _ (by decide)
    generalize x % 2147483648 = r at *
    rw [show (8388608 : Nat) = 2 ^ 23 from rfl, ← Nat.shiftRight_eq_div_pow, ← Nat.shiftLeft_eq]
    apply Nat.eq_of_testBit_eq
    intro i
    rw [Nat.testBit_and, Nat.testBit_shiftLeft, Nat.testBit_shiftLeft, Nat.testBit_two_pow_sub_one, Nat.testBit_shiftRight]
    by_cases hi : 23 ≤ i
    · rw [show 23 + (i - 23) = i by omega]
      by_cases hm : i - 23 < 8
      · simp [hi, hm]
      · have : r.testBit i = false := Nat.testBit_lt_two_pow (Nat.lt_of_lt_of_le hx (Nat.pow_le_pow_right (by decide) (by omega)))
        simp [this]
    · simp [hi]
  rw [e]
  exact IntWalk.i64_in _ (by omega)
theorem nx_nan {x : Nat} (h : isNan .f32 x = true) : nx x = x := by
  rw [isNan32] at h
  unfold nx; rw [if_pos (.inl (by simpa using h))]
theorem dn_nan {x : Nat} (hx : x < 4294967296) (h : isNan .f32 x = true) : opp (nx (opp x)) = x := by
  rw [nx_nan (by rw [nan_opp hx]; exact h), opp_opp hx]
end Go.Proofs.Ytnjimhedcmjfbaa
