/-
  Powers and rates of steps: the same for the program and for its model. Conditions: the number's bits are 32.
-/
import Derived.Test.YtaklcmibpnpffaaOp5
namespace Go.Proofs.Ytaklcmibpnpffaa
open Go.RowKit
set_option linter.unusedVariables false

def cpow (b : Nat) : Nat → Nat
  | 0 => 1065353216
  | k + 1 => cop .mul .f32 (cpow b k) b
theorem canon_one32 : canon .f32 1065353216 = 1065353216 := by decide +kernel
theorem canon_two32 : canon .f32 1073741824 = 1073741824 := by decide +kernel
theorem floatOfInt_canon (k : Int) : canon .f32 (floatOfInt .f32 k) = floatOfInt .f32 k := canon_num (floatOfInt_num k)
def PowDown (b n : Nat) (w : World) (i s : Value) (wr : World) : Prop :=
  ∃ k r m : Nat, k ≤ n ∧ i = .int .i64 ((n : Int) - (k : Int)) ∧ s = .float .f32 r ∧ canon .f32 r = cpow (canon .f32 b) k ∧ r < 2 ^ 32 ∧ wr = w.drewN m
def PowUp (b n : Nat) (w : World) (s i : Value) (wr : World) : Prop :=
  ∃ k r m : Nat, k ≤ n ∧ i = .int .i64 (k : Int) ∧ s = .float .f32 r ∧ canon .f32 r = cpow (canon .f32 b) k ∧ r < 2 ^ 32 ∧ wr = w.drewN m
theorem c_l05Power (b n : Nat) (w : World) (hn : n ≤ 1000) : Calls Try.prog 54 #[.float .f32 b, .int .i64 n] w (RetF .f32 (cpow (canon .f32 b) n) w) := by
  go_enter Try.func54, Try.ntmps54
  go_wp2
  go_loopw [1, 5] (fun i s wr => PowDown b n w i s wr) (fun i _ _ => (intOf i).toNat)
  case atStart => exact ⟨0, 1065353216, 0, Nat.zero_le _, by simp, rfl, canon_one32, by decide, rfl⟩
  case round =>
    obtain ⟨k, r, m, hk, rfl, rfl, hr, hr2, rfl⟩ := hrel
    have HR := Lib.hid hr
    have HR2 := Lib.hid hr2
    clear hr hr2
    by_cases hlt : k < n
    · have h0 : (1 : Int) ≤ (n : Int) - (k : Int) := by omega
      go_wp2
      go_roundw
      case rel => exact ⟨k + 1, _, _, by omega, by go_num, rfl, by rw [canon_fval, HR.out]; rfl, fval_lt .mul .f32 _ _ _, rfl⟩
      case measure => simp [intOf]; omega
    · obtain rfl : k = n := by omega
      go_wp2
      go_ret
      exact ⟨r, _, HR.out, HR2.out, rfl, rfl⟩
theorem c_powerOf (b n : Nat) (w : World) (hn : n ≤ 1001) : Calls Try.prog 56 #[.float .f32 b, .int .i64 n] w (RetF .f32 (cpow (canon .f32 b) n) w) := by
  go_enter Try.func56, Try.ntmps56
  go_wp2
  go_loopw [5, 7] (fun s i wr => PowUp b n w s i wr) (fun _ i _ => n - (intOf i).toNat)
  case atStart => exact ⟨0, 1065353216, 0, Nat.zero_le _, rfl, rfl, canon_one32, by decide, rfl⟩
  case round =>
    obtain ⟨k, r, m, hk, rfl, rfl, hr, hr2, rfl⟩ := hrel
    have HR := Lib.hid hr
    have HR2 := Lib.hid hr2
    clear hr hr2
    by_cases hlt : k < n
    · have h0 : (k : Int) < (n : Int) := by omega
      go_wp2_with (go_at_call 57; refine (c_productOfTwo _ _ _).mono ?_; rintro e w' ⟨rfl, rfl⟩)
      go_roundw
      case rel => exact ⟨k + 1, _, _, by omega, by go_num, rfl, by rw [canon_fval, HR.out]; rfl, fval_lt .mul .f32 _ _ _, rfl⟩
      case measure => simp [intOf]; omega
    · obtain rfl : k = n := by omega
      go_wp2
      go_ret
      exact ⟨r, _, HR.out, HR2.out, rfl, rfl⟩
def inSteps (lo n : Int) : Bool := decide (lo ≤ n) && decide (n ≤ 1000)
theorem inSteps_yes {lo n : Int} (h : inSteps lo n = true) : lo ≤ n ∧ n ≤ 1000 := by simpa [inSteps] using h
theorem inSteps_no {lo n : Int} (h : inSteps lo n = false) : n < lo ∨ 1000 < n := by
  simp only [inSteps, Bool.and_eq_false_imp, decide_eq_true_eq, decide_eq_false_iff_not] at h
  by_cases h1 : lo ≤ n
  · have := h h1; omega
  · omega
theorem c_isStepCount (n : Int) (b : Bool) (h : inSteps 0 n = b) (w : World) : Calls Try.prog 55 #[.int .i64 n] w fun e w' => e = .returned (.bool b) ∧ w = w' := by
  cases b with
  | true =>
    obtain ⟨h1, h2⟩ := inSteps_yes h
    clear h
    go_enter Try.func55, Try.ntmps55
    go_wp2
    go_ret
    exact ⟨rfl, rfl⟩
  | false =>
    rcases inSteps_no h with h1 | h1
    · have h2 : n ≤ -1 := by omega
      clear h h1
      go_enter Try.func55, Try.ntmps55
      go_wp2
      go_ret
      exact ⟨rfl, rfl⟩
    · have h2 : 1001 ≤ n := by omega
      have h3 : 0 ≤ n := by omega
      clear h h1
      go_enter Try.func55, Try.ntmps55
      go_wp2
      go_ret
      exact ⟨ret_b (by simp; omega), rfl⟩
theorem c_stepsIn (n lo : Int) (b : Bool) (h : inSteps lo n = b) (w : World) : Calls Try.prog 53 #[.int .i64 n, .int .i64 lo, .int .i64 1000] w fun e w' => e = .returned (.bool b) ∧ w = w' := c_l00In n lo 1000 b h w
theorem c_stepsV (n lo : Int) (w : World) : Calls Try.prog 53 #[.int .i64 n, .int .i64 lo, .int .i64 1000] w fun e w' => e = .returned (.bool (inSteps lo n)) ∧ w = w' := c_stepsIn n lo _ rfl w
theorem c_stepsC (n : Int) (w : World) : Calls Try.prog 55 #[.int .i64 n] w fun e w' => e = .returned (.bool (inSteps 0 n)) ∧ w = w' := c_isStepCount n _ rfl w
def vPowerOf (b : Nat) (p : Int) : Nat × Bool := if inSteps 0 p = true then (cpow (canon .f32 b) p.toNat, true) else (0, false)
theorem t_sPowerOf (b : Nat) (p : Int) (w : World) (hb : b < 4294967296) : Calls Try.prog 15 #[.float .f32 b, .int .i64 p] w (RetFb (vPowerOf b p).1 (vPowerOf b p).2 w) := by
  cases hp : inSteps 0 p with
  | false =>
    have HX := Lib.hid (show vPowerOf b p = (0, false) by unfold vPowerOf; rw [if_neg (by rw [hp]; decide)])
    have HP := Lib.hid hp
    rw [HX.out]
    clear hp
    go_enter Try.func15, Try.ntmps15
    go_wp2_with (go_at_call 53; refine (c_stepsIn _ _ false HP.out _).mono ?_; rintro e w' ⟨rfl, rfl⟩)
    go_ret2
    exact ⟨0, by decide +kernel, rfl, Below.refl _ _⟩
  | true =>
    have HX := Lib.hid (show vPowerOf b p = (cpow (canon .f32 b) p.toNat, true) by unfold vPowerOf; rw [if_pos hp])
    have HP := Lib.hid hp
    rw [HX.out]
    obtain ⟨h1, h2⟩ := inSteps_yes hp
    obtain ⟨n, rfl⟩ : ∃ n : Nat, p = n := ⟨p.toNat, by omega⟩
    have hn : n ≤ 1000 := by omega
    rw [Int.toNat_natCast]
    clear hp
    go_enter Try.func15, Try.ntmps15
    go_wp2_with (first | (go_at_call 53; refine (c_stepsIn _ _ true HP.out _).mono ?_; rintro e w' ⟨rfl, rfl⟩) | (go_at_call 54; refine (c_l05Power b n _ hn).mono ?_; rintro e w' ⟨r, m, hr, hr2, rfl, rfl⟩; have HR := Lib.hid hr; clear hr hr2))
    go_ret2
    exact ⟨r, HR.out, rfl, below_drewN (Below.refl _ _) _⟩
theorem t_iPowerOf (b : Nat) (p : Int) (w : World) (hb : b < 4294967296) : Calls Try.prog 16 #[.float .f32 b, .int .i64 p] w (RetFb (vPowerOf b p).1 (vPowerOf b p).2 w) := by
  cases hp : inSteps 0 p with
  | false =>
    have HX := Lib.hid (show vPowerOf b p = (0, false) by unfold vPowerOf; rw [if_neg (by rw [hp]; decide)])
    have HP := Lib.hid hp
    rw [HX.out]
    clear hp
    go_enter Try.func16, Try.ntmps16
    go_wp2_with (go_at_call 55; refine (c_isStepCount _ false HP.out _).mono ?_; rintro e w' ⟨rfl, rfl⟩)
    go_ret2
    exact ⟨0, by decide +kernel, rfl, Below.refl _ _⟩
  | true =>
    have HX := Lib.hid (show vPowerOf b p = (cpow (canon .f32 b) p.toNat, true) by unfold vPowerOf; rw [if_pos hp])
    have HP := Lib.hid hp
    rw [HX.out]
    obtain ⟨h1, h2⟩ := inSteps_yes hp
    obtain ⟨n, rfl⟩ : ∃ n : Nat, p = n := ⟨p.toNat, by omega⟩
    have hn : n ≤ 1001 := by omega
    rw [Int.toNat_natCast]
    clear hp
    go_enter Try.func16, Try.ntmps16
    go_wp2_with (first | (go_at_call 55; refine (c_isStepCount _ true HP.out _).mono ?_; rintro e w' ⟨rfl, rfl⟩) | (go_at_call 56; refine (c_powerOf b n _ hn).mono ?_; rintro e w' ⟨r, m, hr, hr2, rfl, rfl⟩; have HR := Lib.hid hr; clear hr hr2))
    go_ret2
    exact ⟨r, HR.out, rfl, below_drewN (Below.refl _ _) _⟩
/-- a number halved so many times -/
def chalf (b : Nat) : Nat → Nat
  | 0 => b
  | k + 1 => cop .quo .f32 (chalf b k) 1073741824
def HalfDown (b n : Nat) (w : World) (s i : Value) (wr : World) : Prop :=
  ∃ k r m : Nat, k ≤ n ∧ i = .int .i64 ((n : Int) - (k : Int)) ∧ s = .float .f32 r ∧ canon .f32 r = chalf (canon .f32 b) k ∧ r < 2 ^ 32 ∧ wr = w.drewN m
def HalfUp (b n : Nat) (w : World) (s i : Value) (wr : World) : Prop :=
  ∃ k r m : Nat, k ≤ n ∧ i = .int .i64 (k : Int) ∧ s = .float .f32 r ∧ canon .f32 r = chalf (canon .f32 b) k ∧ r < 2 ^ 32 ∧ wr = w.drewN m
theorem half_step {b r k : Nat} (h : canon .f32 r = chalf (canon .f32 b) k) (w : World) : canon .f32 (fval .quo .f32 r 1073741824 w) = chalf (canon .f32 b) (k + 1) := by rw [canon_fval, h, canon_two32]; rfl
def okRate (m h s : Int) : Bool := inSteps 0 m && (inSteps 1 h && inSteps 0 s)
def vRateAt (b : Nat) (m h s : Int) : Nat × Bool :=
  if okRate m h s = true then
    (if s < m then cop .quo .f32 (cop .mul .f32 (canon .f32 b) (floatOfInt .f32 (s + 1))) (floatOfInt .f32 m) else chalf (canon .f32 b) ((s - m).toNat / h.toNat), true)
  else (0, false)
theorem vRateAt_no {b : Nat} {m h s : Int} (hk : okRate m h s = false) : vRateAt b m h s = (0, false) := by unfold vRateAt; rw [if_neg (by rw [hk]; decide)]
theorem vRateAt_warm {b : Nat} {m h s : Int} (hk : okRate m h s = true) (hs : s < m) : vRateAt b m h s = (cop .quo .f32 (cop .mul .f32 (canon .f32 b) (floatOfInt .f32 (s + 1))) (floatOfInt .f32 m), true) := by unfold vRateAt; rw [if_pos hk, if_pos hs]
theorem vRateAt_half {b : Nat} {M H S : Nat} (hk : okRate M H S = true) (hs : M ≤ S) : vRateAt b M H S = (chalf (canon .f32 b) ((S - M) / H), true) := by
  unfold vRateAt
  rw [if_pos hk, if_neg (by omega)]
  have : ((S : Int) - (M : Int)).toNat = S - M := by omega
  rw [this, Int.toNat_natCast]
theorem tdiv_nat {S M H : Nat} (hs : M ≤ S) : Int.tdiv ((S : Int) - (M : Int)) (H : Int) = (((S - M) / H : Nat) : Int) := by
  have e : (S : Int) - (M : Int) = ((S - M : Nat) : Int) := by omega
  rw [e, Int.tdiv_eq_ediv_of_nonneg (by omega)]
  rfl
set_option maxHeartbeats 1000000 in
theorem t_sRateAt (b : Nat) (m h s : Int) (w : World) (hb : b < 4294967296) : Calls Try.prog 18 #[.float .f32 b, .int .i64 m, .int .i64 h, .int .i64 s] w (RetFb (vRateAt b m h s).1 (vRateAt b m h s).2 w) := by
  cases hp : okRate m h s with
  | false =>
    have HX := Lib.hid (vRateAt_no (b := b) hp)
    rw [HX.out]
    cases h1 : inSteps 0 m with
    | false =>
      have H1 := Lib.hid h1
      clear hp h1
      go_enter Try.func18, Try.ntmps18
      go_wp2_with (go_at_call 53; refine (c_stepsV _ _ _).mono ?_; rintro e w' ⟨rfl, rfl⟩; rw [H1.out])
      go_ret2
      exact ⟨0, by decide +kernel, rfl, Below.refl _ _⟩
    | true =>
      have H1 := Lib.hid h1
      cases h2 : inSteps 1 h with
      | false =>
        have H2 := Lib.hid h2
        clear hp h1 h2
        go_enter Try.func18, Try.ntmps18
        go_wp2_with (go_at_call 53; refine (c_stepsV _ _ _).mono ?_; rintro e w' ⟨rfl, rfl⟩; first | rw [H1.out] | rw [H2.out])
        go_ret2
        exact ⟨0, by decide +kernel, rfl, Below.refl _ _⟩
      | true =>
        have H2 := Lib.hid h2
        have h3 : inSteps 0 s = false := by simpa [okRate, h1, h2] using hp
        have H3 := Lib.hid h3
        clear hp h1 h2 h3
        go_enter Try.func18, Try.ntmps18
        go_wp2_with (go_at_call 53; refine (c_stepsV _ _ _).mono ?_; rintro e w' ⟨rfl, rfl⟩; first | rw [H1.out] | rw [H2.out] | rw [H3.out])
        go_ret2
        exact ⟨0, by decide +kernel, rfl, Below.refl _ _⟩
  | true =>
    have hp' := hp
    simp only [okRate, Bool.and_eq_true] at hp'
    obtain ⟨e1, e2, e3⟩ := hp'
    have H1 := Lib.hid e1
    have H2 := Lib.hid e2
    have H3 := Lib.hid e3
    obtain ⟨m1, m2⟩ := inSteps_yes e1
    obtain ⟨g1, g2⟩ := inSteps_yes e2
    obtain ⟨s1, s2⟩ := inSteps_yes e3
    by_cases hlt : s < m
    · have HX := Lib.hid (vRateAt_warm (b := b) hp hlt)
      rw [HX.out]
      have hs1 : s + 1 ≤ 1001 := by omega
      clear hp e1 e2 e3
      go_enter Try.func18, Try.ntmps18
      go_wp2_with (go_at_call 53; refine (c_stepsV _ _ _).mono ?_; rintro e w' ⟨rfl, rfl⟩; first | rw [H1.out] | rw [H2.out] | rw [H3.out])
      go_ret2
      exact ⟨_, by rw [canon_fval, canon_fval, floatOfInt_canon, floatOfInt_canon], rfl, below_drewN (Below.refl _ _) _⟩
    · obtain ⟨M, rfl⟩ : ∃ n : Nat, m = n := ⟨m.toNat, by omega⟩
      obtain ⟨H, rfl⟩ : ∃ n : Nat, h = n := ⟨h.toNat, by omega⟩
      obtain ⟨S, rfl⟩ : ∃ n : Nat, s = n := ⟨s.toNat, by omega⟩
      have HX := Lib.hid (vRateAt_half (b := b) hp (show M ≤ S by omega))
      rw [HX.out]
      have HD := tdiv_nat (H := H) (show M ≤ S by omega)
      have hq : (S - M) / H ≤ 1000 := Nat.le_trans (Nat.div_le_self _ _) (by omega)
      obtain ⟨n, hn⟩ : ∃ n, (S - M) / H = n := ⟨_, rfl⟩
      rw [hn] at HD hq ⊢
      have hz : ¬ (H : Int) = 0 := by omega
      have hw1 : IntKind.i64.wrap ((S : Int) - (M : Int)) = (S : Int) - (M : Int) := IntWalk.i64_in _ (by omega)
      clear hp e1 e2 e3 hn
      go_enter Try.func18, Try.ntmps18
      go_wp2_with (go_at_call 53; refine (c_stepsV _ _ _).mono ?_; rintro e w' ⟨rfl, rfl⟩; first | rw [H1.out] | rw [H2.out] | rw [H3.out])
      go_loopw [0, 10] (fun s i wr => HalfDown b n w s i wr) (fun _ i _ => (intOf i).toNat)
      case atStart => exact ⟨0, b, 0, Nat.zero_le _, by simp, rfl, rfl, hb, rfl⟩
      case round =>
        obtain ⟨k, r, m, hk, rfl, rfl, hr, hr2, rfl⟩ := hrel
        have HR := Lib.hid hr
        have HR2 := Lib.hid hr2
        clear hr hr2
        by_cases hlt2 : k < n
        · have h0 : (1 : Int) ≤ (n : Int) - (k : Int) := by omega
          go_wp2
          go_roundw
          case rel => exact ⟨k + 1, _, _, by omega, by go_num, rfl, half_step HR.out _, fval_lt .quo .f32 _ _ _, rfl⟩
          case measure => simp [intOf]; omega
        · obtain rfl : k = n := by omega
          go_wp2
          go_ret2
          exact ⟨r, HR.out, rfl, below_drewN (Below.refl _ _) _⟩
set_option maxHeartbeats 1000000 in
theorem t_iRateAt (b : Nat) (m h s : Int) (w : World) (hb : b < 4294967296) : Calls Try.prog 19 #[.float .f32 b, .int .i64 m, .int .i64 h, .int .i64 s] w (RetFb (vRateAt b m h s).1 (vRateAt b m h s).2 w) := by
  cases hp : okRate m h s with
  | false =>
    have HX := Lib.hid (vRateAt_no (b := b) hp)
    rw [HX.out]
    cases h1 : inSteps 0 m with
    | false =>
      have H1 := Lib.hid h1
      clear hp h1
      go_enter Try.func19, Try.ntmps19
      go_wp2_with (go_at_call 55; refine (c_stepsC _ _).mono ?_; rintro e w' ⟨rfl, rfl⟩; rw [H1.out])
      go_ret2
      exact ⟨0, by decide +kernel, rfl, Below.refl _ _⟩
    | true =>
      have H1 := Lib.hid h1
      cases h2 : inSteps 1 h with
      | false =>
        cases h2' : inSteps 0 h with
        | false =>
          have H2 := Lib.hid h2'
          clear hp h1 h2 h2'
          go_enter Try.func19, Try.ntmps19
          go_wp2_with (go_at_call 55; refine (c_stepsC _ _).mono ?_; rintro e w' ⟨rfl, rfl⟩; first | rw [H1.out] | rw [H2.out])
          go_ret2
          exact ⟨0, by decide +kernel, rfl, Below.refl _ _⟩
        | true =>
          have H2 := Lib.hid h2'
          obtain rfl : h = 0 := by
            have e1 := inSteps_yes h2'
            have e2 := inSteps_no h2
            omega
          clear hp h1 h2 h2'
          go_enter Try.func19, Try.ntmps19
          go_wp2_with (go_at_call 55; refine (c_stepsC _ _).mono ?_; rintro e w' ⟨rfl, rfl⟩; first | rw [H1.out] | rw [H2.out])
          go_ret2
          exact ⟨0, by decide +kernel, rfl, Below.refl _ _⟩
      | true =>
        have hh := inSteps_yes h2
        obtain ⟨g1, g2⟩ := hh
        have hz : ¬ h = 0 := by omega
        have H2 := Lib.hid (show inSteps 0 h = true by simp [inSteps]; omega)
        have h3 : inSteps 0 s = false := by simpa [okRate, h1, h2] using hp
        have H3 := Lib.hid h3
        clear hp h1 h2 h3
        go_enter Try.func19, Try.ntmps19
        go_wp2_with (go_at_call 55; refine (c_stepsC _ _).mono ?_; rintro e w' ⟨rfl, rfl⟩; first | rw [H1.out] | rw [H2.out] | rw [H3.out])
        go_ret2
        exact ⟨0, by decide +kernel, rfl, Below.refl _ _⟩
  | true =>
    have hp' := hp
    simp only [okRate, Bool.and_eq_true] at hp'
    obtain ⟨e1, e2, e3⟩ := hp'
    have H1 := Lib.hid e1
    have H2 := Lib.hid (show inSteps 0 h = true by have := inSteps_yes e2; simp [inSteps]; omega)
    have H3 := Lib.hid e3
    obtain ⟨m1, m2⟩ := inSteps_yes e1
    obtain ⟨g1, g2⟩ := inSteps_yes e2
    obtain ⟨s1, s2⟩ := inSteps_yes e3
    by_cases hlt : s < m
    · have HX := Lib.hid (vRateAt_warm (b := b) hp hlt)
      rw [HX.out]
      have hs1 : s + 1 ≤ 1001 := by omega
      have hz : ¬ h = 0 := by omega
      clear hp e1 e2 e3
      go_enter Try.func19, Try.ntmps19
      go_wp2_with (first | (go_at_call 57; refine (c_productOfTwo _ _ _).mono ?_; rintro e w' ⟨rfl, rfl⟩) | go_at_call 55; refine (c_stepsC _ _).mono ?_; rintro e w' ⟨rfl, rfl⟩; first | rw [H1.out] | rw [H2.out] | rw [H3.out])
      go_ret2
      exact ⟨_, by rw [canon_fval, canon_fval, floatOfInt_canon, floatOfInt_canon], rfl, below_drewN (Below.refl _ _) _⟩
    · obtain ⟨M, rfl⟩ : ∃ n : Nat, m = n := ⟨m.toNat, by omega⟩
      obtain ⟨H, rfl⟩ : ∃ n : Nat, h = n := ⟨h.toNat, by omega⟩
      obtain ⟨S, rfl⟩ : ∃ n : Nat, s = n := ⟨s.toNat, by omega⟩
      have HX := Lib.hid (vRateAt_half (b := b) hp (show M ≤ S by omega))
      rw [HX.out]
      have HD := tdiv_nat (H := H) (show M ≤ S by omega)
      have hq : (S - M) / H ≤ 1000 := Nat.le_trans (Nat.div_le_self _ _) (by omega)
      obtain ⟨n, hn⟩ : ∃ n, (S - M) / H = n := ⟨_, rfl⟩
      rw [hn] at HD hq ⊢
      have hz : ¬ (H : Int) = 0 := by omega
      have hw1 : IntKind.i64.wrap ((S : Int) - (M : Int)) = (S : Int) - (M : Int) := IntWalk.i64_in _ (by omega)
      clear hp e1 e2 e3 hn
      go_enter Try.func19, Try.ntmps19
      go_wp2_with (go_at_call 55; refine (c_stepsC _ _).mono ?_; rintro e w' ⟨rfl, rfl⟩; first | rw [H1.out] | rw [H2.out] | rw [H3.out])
      go_loopw [10, 45] (fun s i wr => HalfUp b n w s i wr) (fun _ i _ => n - (intOf i).toNat)
      case atStart => exact ⟨0, b, 0, Nat.zero_le _, rfl, rfl, rfl, hb, rfl⟩
      case round =>
        obtain ⟨k, r, m, hk, rfl, rfl, hr, hr2, rfl⟩ := hrel
        have HR := Lib.hid hr
        have HR2 := Lib.hid hr2
        clear hr hr2
        by_cases hlt2 : k < n
        · have h0 : (k : Int) < (n : Int) := by omega
          go_wp2
          go_roundw
          case rel => exact ⟨k + 1, _, _, by omega, by go_num, rfl, half_step HR.out _, fval_lt .quo .f32 _ _ _, rfl⟩
          case measure => simp [intOf]; omega
        · obtain rfl : k = n := by omega
          go_wp2
          go_ret2
          exact ⟨r, HR.out, rfl, below_drewN (Below.refl _ _) _⟩
end Go.Proofs.Ytaklcmibpnpffaa
