/-
  What the law of rates compares. Conditions: the drawn numbers are in their bounds.
-/
import Derived.Test.YtjlkfhnjfbidjaaRatN
namespace Go.Proofs.Ytjlkfhnjfbidjaa
open Go.RowKit
set_option linter.unusedVariables false

theorem all_at {n : Nat} {p : Nat → Bool} (h : (List.range n).all p = true) {i : Nat} (hi : i < n) : p i = true := List.all_eq_true.1 h i (List.mem_range.2 hi)
theorem base_at {v : Nat} (hv : v < 64) : cB v = tB v ∧ oEq (tB v) (tB v) = true ∧ canon .f32 (tB v) = tB v := by
  have h := all_at (p := fun v => cB v == tB v && oEq (tB v) (tB v) && canon .f32 (tB v) == tB v) chkB_true hv
  simp only [Bool.and_eq_true, beq_iff_eq] at h
  exact ⟨h.1.1, h.1.2, h.2⟩
theorem half_at {v k : Nat} (hv : v < 64) (hk : k < 61) : cop .quo .f32 (tB v - k * 8388608) 1073741824 = tB v - (k + 1) * 8388608 ∧ oLe (tB v - (k + 1) * 8388608) (tB v - k * 8388608) = true ∧ oGt (tB v - k * 8388608) 0 = true ∧ oLe (tB v - k * 8388608) (tB v - k * 8388608) = true ∧ oEq (tB v - k * 8388608) (tB v - k * 8388608) = true := by
  have h := all_at (all_at (p := fun v => (List.range 61).all fun k => cop .quo .f32 (tB v - k * 8388608) 1073741824 == tB v - (k + 1) * 8388608 && oLe (tB v - (k + 1) * 8388608) (tB v - k * 8388608) && oGt (tB v - k * 8388608) 0 && oLe (tB v - k * 8388608) (tB v - k * 8388608) && oEq (tB v - k * 8388608) (tB v - k * 8388608)) chkHalf_true hv) hk
  simp only [Bool.and_eq_true, beq_iff_eq] at h
  exact ⟨h.1.1.1.1, h.1.1.1.2, h.1.1.2, h.1.2, h.2⟩
theorem warm_at {v m s : Nat} (hv : v < 64) (hm : m < 10) (hs : s < m) : oGt (cW v s m) 0 = true ∧ oLe (cW v s m) (tB v) = true ∧ (s = 0 ∨ oGe (cW v s m) (cW v (s - 1) m) = true) := by
  have h := all_at (all_at (all_at (p := fun v => (List.range 10).all fun m => (List.range m).all fun s => oGt (cW v s m) 0 && oLe (cW v s m) (tB v) && (s == 0 || oGe (cW v s m) (cW v (s - 1) m))) chkW_true hv) hm) hs
  simp only [Bool.and_eq_true, Bool.or_eq_true, beq_iff_eq] at h
  exact ⟨h.1.1, h.1.2, h.2⟩
theorem chalf_at {v : Nat} (hv : v < 64) : ∀ k, k ≤ 61 → chalf (tB v) k = tB v - k * 8388608
  | 0, _ => by simp [chalf]
  | k + 1, h => by
    show cop .quo .f32 (chalf (tB v) k) 1073741824 = _
    rw [chalf_at hv k (by omega), (half_at hv (by omega)).1]
theorem rate_lo {b v : Nat} {m h s : Int} (hb : canon .f32 b = tB v) (m1 : m ≤ 9) (h0 : 1 ≤ h) (h1 : h ≤ 10) (s0 : 0 ≤ s) (hs : s < m) : vRateAt b m h s = (cW v s.toNat m.toNat, true) := by
  rw [vRateAt_warm (by simp only [okRate, inSteps, Bool.and_eq_true, decide_eq_true_eq]; omega) hs, hb]
  unfold cW
  rw [Int.toNat_of_nonneg s0, Int.toNat_of_nonneg (by omega)]
theorem rate_hi {b v : Nat} {m h s : Int} (hv : v < 64) (hb : canon .f32 b = tB v) (m0 : 0 ≤ m) (m1 : m ≤ 9) (h0 : 1 ≤ h) (h1 : h ≤ 10) (s1 : s ≤ 60) (hs : m ≤ s) : vRateAt b m h s = (tB v - ((s - m).toNat / h.toNat) * 8388608, true) := by
  unfold vRateAt
  rw [if_pos (by simp only [okRate, inSteps, Bool.and_eq_true, decide_eq_true_eq]; omega), if_neg (by omega), hb, chalf_at hv _ (Nat.le_trans (Nat.div_le_self _ _) (by omega))]
theorem rate_true {b v : Nat} {m h s : Int} (hv : v < 64) (hb : canon .f32 b = tB v) (m0 : 0 ≤ m) (m1 : m ≤ 9) (h0 : 1 ≤ h) (h1 : h ≤ 10) (s0 : 0 ≤ s) (s1 : s ≤ 60) : (vRateAt b m h s).2 = true := by
  by_cases hs : s < m
  · rw [rate_lo hb m1 h0 h1 s0 hs]
  · rw [rate_hi hv hb m0 m1 h0 h1 s1 (by omega)]
theorem c_rate {b v : Nat} {m h s : Int} (w : World) (hbl : b < 4294967296) (hv : v < 64) (hb : canon .f32 b = tB v) (m0 : 0 ≤ m) (m1 : m ≤ 9) (h0 : 1 ≤ h) (h1 : h ≤ 10) (s0 : 0 ≤ s) (s1 : s ≤ 60) :
    Calls Try.prog 6 #[.float .f32 b, .int .i64 m, .int .i64 h, .int .i64 s] w fun e w' => ∃ r n, canon .f32 r = (vRateAt b m h s).1 ∧ e = .returned (.tuple #[.float .f32 r, .bool true]) ∧ w' = w.drewN n := by
  refine (t_iRateAt b m h s w hbl).mono ?_
  rintro e w' ⟨r, hr, rfl, n, rfl⟩
  rw [rate_true hv hb m0 m1 h0 h1 s0 s1]
  exact ⟨r, n, hr, rfl, rfl⟩
theorem o_of {x y X Y : Nat} (hx : canon .f32 x = X) (hy : canon .f32 y = Y) : FloatKind.f32.format.order x y = FloatKind.f32.format.order X Y := by rw [← order_canon, hx, hy]
theorem canon_zero32 : canon .f32 0 = 0 := by decide +kernel
theorem div_next (a h : Nat) (hh : 1 ≤ h) : (a + 1) / h = a / h ∨ (a + 1) / h = a / h + 1 := by
  have h1 : a / h ≤ (a + 1) / h := Nat.div_le_div_right (Nat.le_succ a)
  have h2 : (a + 1) / h ≤ (a + h) / h := Nat.div_le_div_right (by omega)
  rw [Nat.add_div_right _ (by omega)] at h2
  omega
/-- all that the law compares -/
theorem rates_ok {b v r1 r2 r3 r4 : Nat} {m h s : Int} (hv : v < 64) (hb : canon .f32 b = tB v) (m0 : 0 ≤ m) (m1 : m ≤ 9) (h0 : 1 ≤ h) (h1 : h ≤ 10) (s0 : 0 ≤ s) (s1 : s ≤ 59)
    (e1 : canon .f32 r1 = (vRateAt b m h s).1) (e2 : canon .f32 r2 = (vRateAt b m h (s + 1)).1) (e3 : canon .f32 r3 = (vRateAt b m h m).1) (e4 : canon .f32 r4 = (vRateAt b m h (m + h)).1) :
    (FloatKind.f32.format.order r3 b != some .eq) = false ∧ (∀ w, (FloatKind.f32.format.order r4 (fval .quo .f32 b 1073741824 w) != some .eq) = false) ∧ (FloatKind.f32.format.order r1 0 == some .gt) = true ∧
      (s + 1 < m → (FloatKind.f32.format.order r2 r1 == some .gt || FloatKind.f32.format.order r2 r1 == some .eq) = true ∧ (FloatKind.f32.format.order r2 b == some .lt || FloatKind.f32.format.order r2 b == some .eq) = true) ∧
      (m ≤ s → (FloatKind.f32.format.order r2 r1 == some .lt || FloatKind.f32.format.order r2 r1 == some .eq) = true) := by
  obtain ⟨b1, b2, b3⟩ := base_at hv
  refine ⟨?_, fun w => ?_, ?_, fun hs => ?_, fun hs => ?_⟩
  · rw [rate_hi hv hb m0 m1 h0 h1 (by omega) (Int.le_refl _)] at e3
    have e : canon .f32 r3 = tB v := by rw [e3]; simp
    rw [o_of e hb]
    have h := b2
    unfold oEq at h
    simp only [beq_iff_eq] at h
    rw [h]; rfl
  · rw [rate_hi hv hb m0 m1 h0 h1 (by omega) (by omega)] at e4
    have hd : (m + h - m).toNat / h.toNat = 1 := by
      have : (m + h - m).toNat = h.toNat := by omega
      rw [this]
      exact Nat.div_self (by omega)
    rw [hd] at e4
    have q := half_at hv (show 0 < 61 by decide)
    have q1 := half_at hv (show 1 < 61 by decide)
    have e : canon .f32 (fval .quo .f32 b 1073741824 w) = tB v - 1 * 8388608 := by
      rw [canon_fval, hb, canon_two32]
      have := q.1
      simpa using this
    rw [o_of e4 e]
    have h := q1.2.2.2.2
    unfold oEq at h
    simp only [beq_iff_eq] at h
    show (FloatKind.f32.format.order (tB v - 1 * 8388608) (tB v - 1 * 8388608) != some .eq) = false
    rw [h]; rfl
  · by_cases hs : s < m
    · rw [rate_lo hb m1 h0 h1 s0 hs] at e1
      rw [o_of e1 canon_zero32]
      exact (warm_at hv (by omega) (by omega)).1
    · rw [rate_hi hv hb m0 m1 h0 h1 (by omega) (by omega)] at e1
      rw [o_of e1 canon_zero32]
      exact (half_at hv (Nat.lt_of_le_of_lt (Nat.div_le_self _ _) (by omega))).2.2.1
  · rw [rate_lo hb m1 h0 h1 s0 (by omega)] at e1
    rw [rate_lo hb m1 h0 h1 (by omega) hs] at e2
    obtain ⟨w1, w2, w3⟩ := warm_at (v := v) (m := m.toNat) (s := (s + 1).toNat) hv (by omega) (by omega)
    rcases w3 with w3 | w3
    · omega
    · have hp : (s + 1).toNat - 1 = s.toNat := by omega
      rw [hp] at w3
      exact ⟨by rw [o_of e2 e1]; exact w3, by rw [o_of e2 hb]; exact w2⟩
  · rw [rate_hi hv hb m0 m1 h0 h1 (by omega) hs] at e1
    rw [rate_hi hv hb m0 m1 h0 h1 (by omega) (by omega)] at e2
    rw [o_of e2 e1]
    have hn : (s + 1 - m).toNat = (s - m).toNat + 1 := by omega
    rw [hn]
    have hk : (s - m).toNat / h.toNat < 61 := Nat.lt_of_le_of_lt (Nat.div_le_self _ _) (by omega)
    rcases div_next (s - m).toNat h.toNat (by omega) with hd | hd
    · rw [hd]
      exact (half_at hv hk).2.2.2.1
    · rw [hd]
      exact (half_at hv hk).2.1
end Go.Proofs.Ytjlkfhnjfbidjaa
