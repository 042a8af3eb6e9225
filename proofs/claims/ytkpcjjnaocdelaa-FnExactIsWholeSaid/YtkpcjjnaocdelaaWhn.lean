/-
  Whole numbers of 32 bits that are not too great: by their bits, and as both sides test them. Conditions: as each says.
-/
import Derived.Test.YtkpcjjnaocdelaaHalf
import Derived.Test.YtkpcjjnaocdelaaIntF
namespace Go.Proofs.Ytkpcjjnaocdelaa
open Go.RowKit Ieee
set_option linter.unusedVariables false
set_option linter.unusedSimpArgs false

/-- the magnitude of a finite number, in units of 2 ^ -149 -/
def magX (x : Nat) : Nat := mag 8388608 (x % 2147483648)
def neg? (x : Nat) : Bool := x / 2147483648 % 2 == 1
def fin? (x : Nat) : Bool := decide (x % 2147483648 < 2139095040)
def wholeF (most : Nat) (x : Nat) : Bool := fin? x && (decide (magX x % 2 ^ 149 = 0) && decide (magX x ≤ most * 2 ^ 149))
theorem sval_sgn (x : Nat) : sval Ieee.single x = sgn (neg? x) (magX x) := by
  unfold sval sgn neg? magX
  rw [single_sw, single_bin]
theorem order32 {x y : Nat} (hx : isNan .f32 x = false) (hy : isNan .f32 y = false) : FloatKind.f32.format.order x y = some (compare (sval Ieee.single x) (sval Ieee.single y)) := by
  rw [compare_sval]
  exact order_key Ieee.single x y (by rw [single_bin, single_inf]; decide) hx hy
theorem order64 {x y : Nat} (hx : isNan .f64 x = false) (hy : isNan .f64 y = false) : FloatKind.f64.format.order x y = some (compare (sval Ieee.double x) (sval Ieee.double y)) := by
  rw [compare_sval]
  exact order_key Ieee.double x y (by rw [double_bin, double_inf]; decide) hx hy
theorem rung_1024 : rung 23 (-149) 1024 0 = 1149239296 := by decide +kernel
theorem log_small {N : Nat} (h : N ≤ 1024) : N.log2 ≤ 23 := by
  by_cases h0 : N = 0
  · subst h0; decide
  · have : N.log2 < 24 := (Nat.log2_lt h0).2 (by omega)
    omega
/-- the word of a small integer -/
theorem fi32_small {n : Int} (h : n.natAbs ≤ 1024) : ∃ r, fi32 n = Ieee.single.word (decide (n < 0)) r ∧ r ≤ 1149239296 ∧ mag 8388608 r = n.natAbs * 2 ^ 149 := by
  have hr : rung 23 (-149) n.natAbs 0 ≤ 1149239296 := by
    rw [← rung_1024]
    exact rung_same 0 h
  refine ⟨_, ?_, hr, ?_⟩
  · rw [fi32_eq, nearest_rung32, Nat.min_eq_left (by omega)]
  · have := mag_exact (F := 23) (E := -149) (N := n.natAbs) (p := 0) (log_small h) (by decide)
    rw [show (2 : Nat) ^ 23 = 8388608 by decide] at this
    rw [this]
    rfl
theorem sgn_int (n : Int) (c : Nat) : sgn (decide (n < 0)) (n.natAbs * c) = n * (c : Int) := by
  unfold sgn
  by_cases h : n < 0
  · rw [if_pos (by simpa using h), Int.natCast_mul, show ((n.natAbs : Nat) : Int) = -n by omega, Int.neg_mul, Int.neg_neg]
  · rw [if_neg (by simpa using h), Int.natCast_mul, show ((n.natAbs : Nat) : Int) = n by omega]
theorem sval_fi32 {n : Int} (h : n.natAbs ≤ 1024) : sval Ieee.single (fi32 n) = n * ((2 ^ 149 : Nat) : Int) := by
  obtain ⟨r, h1, h2, h3⟩ := fi32_small h
  obtain ⟨e1, e2⟩ := word_sign32 (decide (n < 0)) (r := r) (by omega)
  rw [sval_sgn, h1]
  unfold neg? magX
  rw [e1, e2, h3, sgn_int]
theorem fi32_pos {n : Nat} (h : n ≤ 1024) : fi32 (n : Int) < 2147483648 ∧ mag 8388608 (fi32 (n : Int)) = n * 2 ^ 149 := by
  obtain ⟨r, h1, h2, h3⟩ := fi32_small (n := (n : Int)) (by omega)
  have hd : decide ((n : Int) < 0) = false := by simp
  rw [hd] at h1
  have : Ieee.single.word false r = r := by unfold Format.word; simp
  rw [this] at h1
  rw [h1]
  exact ⟨by omega, by simpa using h3⟩
/-- the cut of a number towards zero -/
theorem zero_cut_eq (s : Bool) (n drop : Nat) : Toward.zero.cut s n drop = n / 2 ^ drop := by
  unfold Toward.cut
  simp only [gap_eq, Bool.toNat_false, Nat.add_zero]
  by_cases hd : drop ≤ n.log2 + 2
  · rw [Nat.min_eq_left hd]
  · rw [Nat.min_eq_right (by omega)]
    have h1 : n < 2 ^ (n.log2 + 2) := Nat.lt_of_lt_of_le Nat.lt_log2_self (Nat.pow_le_pow_right (by decide) (by omega))
    have h2 : n < 2 ^ drop := Nat.lt_of_lt_of_le h1 (Nat.pow_le_pow_right (by decide) (by omega))
    rw [Nat.div_eq_of_lt h1, Nat.div_eq_of_lt h2]
theorem zero_whole {s : Bool} {m V E : Nat} {e : Int} (h : m * 2 ^ (e + (E : Int)).toNat = V) (he : -(E : Int) ≤ e) : Toward.zero.cut s (m <<< e.toNat) (-e).toNat = V / 2 ^ E := by
  rw [zero_cut_eq, Nat.shiftLeft_eq, ← h]
  by_cases h0 : 0 ≤ e
  · rw [show (-e).toNat = 0 by omega, Nat.pow_zero, Nat.div_one, show (e + (E : Int)).toNat = e.toNat + E by omega, Nat.pow_add, ← Nat.mul_assoc, Nat.mul_div_cancel _ (Nat.two_pow_pos _)]
  · rw [show e.toNat = 0 by omega, Nat.pow_zero, Nat.mul_one]
    obtain ⟨t, ht⟩ : ∃ t, (e + (E : Int)).toNat = t := ⟨_, rfl⟩
    obtain ⟨d, hd⟩ : ∃ d, (-e).toNat = d := ⟨_, rfl⟩
    rw [ht, hd, show E = d + t by omega, Nat.pow_add, Nat.mul_div_mul_right _ _ (Nat.two_pow_pos _)]
theorem signed_sgn0 (s : Bool) (m : Nat) : signed s m 0 = sgn s m := by unfold signed sgn; rw [Nat.shiftLeft_zero]
/-- a number that is not too great as an integer -/
theorem f2i_mag {x : Nat} (hf : x % 2147483648 < 2139095040) (hm : magX x ≤ 1000 * 2 ^ 149) : floatToIntVal .f32 x .i64 = some (sgn (neg? x) (magX x / 2 ^ 149)) ∧ magX x / 2 ^ 149 ≤ 1000 := by
  obtain ⟨m, e, h1, h2, h3, _⟩ := read_mag32 hf
  have hq : magX x / 2 ^ 149 ≤ 1000 := Nat.div_le_of_le_mul (by rw [Nat.mul_comm]; exact hm)
  have hcut : Toward.zero.cut (x / 2147483648 % 2 == 1) (m <<< e.toNat) (-e).toNat = magX x / 2 ^ 149 := zero_whole (E := 149) h2 (by omega)
  have hi : (FloatKind.f32.decode x).toInt .zero = some (sgn (neg? x) (magX x / 2 ^ 149)) := by
    rw [← signed_sgn0, ← hcut]
    show (Ieee.single.read x).toInt .zero = _
    rw [h1]; rfl
  refine ⟨?_, hq⟩
  unfold floatToIntVal
  rw [hi]
  simp only
  rw [if_pos]
  have e1 : IntKind.i64.min = -9223372036854775808 := by decide
  have e2 : IntKind.i64.max = 9223372036854775807 := by decide
  rw [e1, e2]
  unfold sgn
  split <;> omega
theorem sgn_abs (s : Bool) (c : Nat) : (sgn s c).natAbs = c := by unfold sgn; cases s <;> simp
theorem sgn_mul0 (s : Bool) (c k : Nat) : sgn s c * (k : Int) = sgn s (c * k) := by
  unfold sgn
  cases s
  · simp
  · simp [Int.neg_mul]
theorem sgn_inj {s : Bool} {a b : Nat} (h : sgn s a = sgn s b) : a = b := by unfold sgn at h; cases s <;> simp at h <;> omega
theorem num_of_fin {x : Nat} (h : x % 2147483648 < 2139095040) : isNan .f32 x = false := by rw [isNan32]; simp; omega
theorem cmp_eq_iff (a b : Int) : compare a b = .eq ↔ a = b := by
  rw [Int.compare_eq_ite_lt]
  split
  · constructor
    · intro h; cases h
    · intro h; omega
  · split
    · constructor
      · intro h; cases h
      · intro h; omega
    · constructor
      · intro _; omega
      · intro _; rfl
/-- the integer that it is cut to is the number, just if it is whole -/
theorem cut_back {x : Nat} (hf : x % 2147483648 < 2139095040) (hm : magX x ≤ 1000 * 2 ^ 149) : FloatKind.f32.format.order x (fi32 (sgn (neg? x) (magX x / 2 ^ 149))) = some (compare (sgn (neg? x) (magX x)) (sgn (neg? x) (magX x / 2 ^ 149 * 2 ^ 149))) := by
  have hq := (f2i_mag hf hm).2
  rw [order32 (num_of_fin hf) (fi32_num _), sval_sgn, sval_fi32 (by rw [sgn_abs]; omega), sgn_mul0]
theorem whole_iff {x most : Nat} (hf : x % 2147483648 < 2139095040) (hm : magX x ≤ most * 2 ^ 149) : (compare (sgn (neg? x) (magX x)) (sgn (neg? x) (magX x / 2 ^ 149 * 2 ^ 149)) == .eq) = wholeF most x := by
  have hd := Nat.div_add_mod (magX x) (2 ^ 149)
  unfold wholeF fin?
  rw [decide_eq_true hf, decide_eq_true hm, Bool.true_and, Bool.and_true]
  by_cases h0 : magX x % 2 ^ 149 = 0
  · have e : magX x / 2 ^ 149 * 2 ^ 149 = magX x := by rw [Nat.mul_comm]; omega
    rw [e, decide_eq_true h0, (cmp_eq_iff _ _).2 rfl]; rfl
  · rw [decide_eq_false h0]
    cases hc : compare (sgn (neg? x) (magX x)) (sgn (neg? x) (magX x / 2 ^ 149 * 2 ^ 149)) with
    | eq =>
      have := sgn_inj ((cmp_eq_iff _ _).1 hc)
      exfalso
      rw [Nat.mul_comm] at this
      omega
    | lt => rfl
    | gt => rfl
/-! the same in 64 bits -/
def E9 : Nat := 925
theorem E9_eq : E9 = 925 := rfl
def QW : Nat := 2 ^ E9
theorem QW_pos : 0 < QW := Nat.two_pow_pos E9
theorem EE_E9 : EE = 149 + E9 := rfl
theorem pow_EE : (2 : Nat) ^ EE = 2 ^ 149 * QW := by
  unfold QW
  rw [← Nat.pow_add, EE_E9]
theorem sval_word64 (s : Bool) {r : Nat} (hr : r ≤ 9218868437227405312) : sval Ieee.double (Ieee.double.word s r) = sgn s (mag 4503599627370496 r) := by
  obtain ⟨e1, e2⟩ := word_sign64 s hr
  unfold sval sgn
  rw [double_sw, double_bin, e1, e2]
theorem num_word64 (s : Bool) {r : Nat} (hr : r ≤ 9218868437227405312) : isNan .f64 (Ieee.double.word s r) = false := by
  rw [isNan64, (word_sign64 s hr).2]; simp; omega
/-- a finite number made wide: its sign, and its magnitude in units of 2 ^ -1074 -/
theorem wide_word {x : Nat} (hf : x % 2147483648 < 2139095040) : ∃ r, cwide x = Ieee.double.word (neg? x) r ∧ r < 9218868437227405312 ∧ mag 4503599627370496 r = magX x * QW := by
  obtain ⟨m, e, h1, h2, h3, h4⟩ := read_mag32 hf
  have hfn : fin32 x = true := by simp only [fin32, decide_eq_true_eq]; exact hf
  have hm24 : m < 16777216 := (read32_num h1).1
  have hw : cwide x = Ieee.double.word (x / 2147483648 % 2 == 1) (min (rung 52 (-1074) m e) 9218868437227405312) := by
    rw [cwide_at hfn, h1]
    exact nearest_rung64 _ _ _
  have hfin := widen_fin h1
  have hlt : rung 52 (-1074) m e < 9218868437227405312 := by
    by_cases h : rung 52 (-1074) m e < 9218868437227405312
    · exact h
    · exfalso
      have hw2 : Ieee.double.write (.number (x / 2147483648 % 2 == 1) m e) = Ieee.double.word (x / 2147483648 % 2 == 1) 9218868437227405312 := by
        show Ieee.double.nearest _ _ _ = _
        rw [nearest_rung64, Nat.min_eq_right (by omega)]
      rw [hw2] at hfin
      cases hb : (x / 2147483648 % 2 == 1) <;> rw [hb] at hfin <;> revert hfin <;> decide +kernel
  rw [Nat.min_eq_left (Nat.le_of_lt hlt)] at hw
  have hlog : m.log2 ≤ 52 := by
    by_cases h : m = 0
    · subst h; decide
    · have : m.log2 < 24 := (Nat.log2_lt h).2 hm24
      omega
  have hx2 := mag_exact (F := 52) (E := -1074) (N := m) (p := e) hlog (by omega)
  rw [show (2 : Nat) ^ 52 = 4503599627370496 by decide] at hx2
  refine ⟨_, hw, hlt, ?_⟩
  rw [hx2]
  unfold magX QW
  rw [← h2, Nat.mul_assoc, ← Nat.pow_add, show (e - -1074).toNat = (e + 149).toNat + E9 by rw [E9_eq]; omega]
theorem rung64_1024 : rung 52 (-1074) 1024 0 = 4652218415073722368 := by decide +kernel
theorem near64 (s : Bool) {q : Nat} (h : q ≤ 1024) : ∃ r, Ieee.double.nearest s q 0 = Ieee.double.word s r ∧ r ≤ 4652218415073722368 ∧ mag 4503599627370496 r = q * 2 ^ 149 * QW := by
  have hr : rung 52 (-1074) q 0 ≤ 4652218415073722368 := by
    rw [← rung64_1024]
    exact rung_same 0 h
  refine ⟨_, ?_, hr, ?_⟩
  · rw [nearest_rung64, Nat.min_eq_left (by omega)]
  · have hl := log_small h
    have hx2 := mag_exact (F := 52) (E := -1074) (N := q) (p := 0) (by omega) (by decide)
    rw [show (2 : Nat) ^ 52 = 4503599627370496 by decide] at hx2
    rw [hx2, Nat.mul_assoc, ← pow_EE, show ((0 : Int) - -1074).toNat = EE from rfl]
/-- what it is cut to, in 64 bits -/
theorem trunc_word {x : Nat} (hf : x % 2147483648 < 2139095040) : rteV .zero (cwide x) = Ieee.double.nearest (neg? x) (magX x / 2 ^ 149) 0 := by
  obtain ⟨r, h1, h2, h3⟩ := wide_word hf
  obtain ⟨M, i, g1, g2, g3⟩ := read_mag64 (neg? x) h2
  unfold rteV
  rw [h1, g1]
  show Ieee.double.nearest (neg? x) (Toward.zero.cut (neg? x) (M <<< i.toNat) (-i).toNat) 0 = _
  rw [zero_whole g2 g3, h3, pow_EE, Nat.mul_div_mul_right _ _ QW_pos]
theorem trunc_order {x : Nat} (hf : x % 2147483648 < 2139095040) (hm : magX x ≤ 1000 * 2 ^ 149) : FloatKind.f64.format.order (rteV .zero (cwide x)) (cwide x) = some (compare (sgn (neg? x) (magX x / 2 ^ 149 * 2 ^ 149 * QW)) (sgn (neg? x) (magX x * QW))) := by
  have hq := (f2i_mag hf hm).2
  obtain ⟨r, h1, h2, h3⟩ := wide_word hf
  obtain ⟨r', g1, g2, g3⟩ := near64 (neg? x) (q := magX x / 2 ^ 149) (by omega)
  rw [trunc_word hf, h1, g1, order64 (num_word64 _ (by omega)) (num_word64 _ (by omega)), sval_word64 _ (by omega), sval_word64 _ (by omega), g3, h3]
theorem trunc_iff {x most : Nat} (hf : x % 2147483648 < 2139095040) (hm : magX x ≤ most * 2 ^ 149) : (compare (sgn (neg? x) (magX x / 2 ^ 149 * 2 ^ 149 * QW)) (sgn (neg? x) (magX x * QW)) == .eq) = wholeF most x := by
  have hd := Nat.div_add_mod (magX x) (2 ^ 149)
  unfold wholeF fin?
  rw [decide_eq_true hf, decide_eq_true hm, Bool.true_and, Bool.and_true]
  by_cases h0 : magX x % 2 ^ 149 = 0
  · have e : magX x / 2 ^ 149 * 2 ^ 149 = magX x := by rw [Nat.mul_comm]; omega
    rw [e, decide_eq_true h0, (cmp_eq_iff _ _).2 rfl]; rfl
  · rw [decide_eq_false h0]
    cases hc : compare (sgn (neg? x) (magX x / 2 ^ 149 * 2 ^ 149 * QW)) (sgn (neg? x) (magX x * QW)) with
    | eq =>
      have := Nat.eq_of_mul_eq_mul_right QW_pos (sgn_inj ((cmp_eq_iff _ _).1 hc))
      exfalso
      rw [Nat.mul_comm] at this
      omega
    | lt => rfl
    | gt => rfl
/-- its magnitude against the limit, in 64 bits -/
theorem abs_order {x n : Nat} (hf : x % 2147483648 < 2139095040) (hn : n ≤ 1000) : FloatKind.f64.format.order (cwide x % 9223372036854775808) (floatOfInt .f64 (n : Int)) = some (compare ((magX x : Nat) : Int) ((n * 2 ^ 149 : Nat) : Int)) := by
  obtain ⟨r, h1, h2, h3⟩ := wide_word hf
  obtain ⟨r', g1, g2, g3⟩ := near64 false (q := n) (by omega)
  have hG : floatOfInt .f64 (n : Int) = Ieee.double.word false r' := by
    rw [← g1]
    show Ieee.double.nearest (decide ((n : Int) < 0)) ((n : Int)).natAbs 0 = _
    rw [show decide ((n : Int) < 0) = false by simp]; rfl
  have hA : cwide x % 9223372036854775808 = Ieee.double.word false r := by
    rw [h1, (word_sign64 (neg? x) (Nat.le_of_lt h2)).2]
    unfold Format.word; simp
  rw [hA, hG, order64 (num_word64 _ (by omega)) (num_word64 _ (by omega)), sval_word64 _ (by omega), sval_word64 _ (by omega), g3, h3]
  unfold sgn
  simp only [Bool.false_eq_true, if_false]
  rw [Int.natCast_mul, Int.natCast_mul (n * 2 ^ 149), compare_scale _ QW_pos]
theorem inf_abs (n : Nat) (hn : n ≤ 1000) : FloatKind.f64.format.order 9218868437227405312 (floatOfInt .f64 (n : Int)) = some .gt := by
  obtain ⟨r', g1, g2, g3⟩ := near64 false (q := n) (by omega)
  have hG : floatOfInt .f64 (n : Int) = Ieee.double.word false r' := by
    rw [← g1]
    show Ieee.double.nearest (decide ((n : Int) < 0)) ((n : Int)).natAbs 0 = _
    rw [show decide ((n : Int) < 0) = false by simp]; rfl
  rw [hG, show (9218868437227405312 : Nat) = Ieee.double.word false 9218868437227405312 by decide +kernel, order64 (num_word64 _ (by omega)) (num_word64 _ (by omega)), sval_word64 _ (by omega), sval_word64 _ (by omega)]
  have hl := mag_mono (B := 4503599627370496) (by decide) (show r' < 9218868437227405312 by omega)
  unfold sgn
  simp only [Bool.false_eq_true, if_false]
  rw [Int.compare_eq_ite_lt, if_neg (by omega), if_pos (by omega)]
end Go.Proofs.Ytkpcjjnaocdelaa
