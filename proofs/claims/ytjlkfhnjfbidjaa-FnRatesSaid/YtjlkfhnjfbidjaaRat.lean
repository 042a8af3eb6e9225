/-
  Rates of steps of the program, in a seat that has no other floats; the numbers that the law compares. Conditions: the number's bits are 32.
-/
import Derived.Test.YtjlkfhnjfbidjaaOpen
import Derived.KernelRfl
import Derived.Lib.Hide
import Derived.Outline
import Derived.LoopTactic
import Derived.WalkSpells
import Derived.WalkLawsBesides
import Derived.Below
import Derived.WalkSmall
namespace Go.Proofs.Ytjlkfhnjfbidjaa
open Go.RowKit
set_option linter.unusedVariables false

theorem ret_b {a b : Bool} (h : a = b) : Ending.returned (.bool a) = .returned (.bool b) := by rw [h]
def RetFb (x : Nat) (b : Bool) (w : World) (e : Ending) (w' : World) : Prop := ∃ r, canon .f32 r = x ∧ e = .returned (.tuple #[.float .f32 r, .bool b]) ∧ ∃ n, w' = w.drewN n
theorem floatOfInt_num (n : Int) : isNan .f32 (floatOfInt .f32 n) = false := nearest_num _ _ _ _
theorem canon_two32 : canon .f32 1073741824 = 1073741824 := by decide +kernel
theorem floatOfInt_canon (k : Int) : canon .f32 (floatOfInt .f32 k) = floatOfInt .f32 k := canon_num (floatOfInt_num k)
theorem c_productOfTwo (x y : Nat) (w : World) : Calls Try.prog 8 #[.float .f32 x, .float .f32 y] w fun e w' => e = .returned (.float .f32 (fval .mul .f32 x y w)) ∧ w' = w.drewN (fdr .mul .f32 x y) := by
  go_enter Try.func8, Try.ntmps8
  go_wp2
  go_ret
  exact ⟨rfl, rfl⟩
def inSteps (lo n : Int) : Bool := decide (lo ≤ n) && decide (n ≤ 1000)
theorem inSteps_yes {lo n : Int} (h : inSteps lo n = true) : lo ≤ n ∧ n ≤ 1000 := by simpa [inSteps] using h
theorem inSteps_no {lo n : Int} (h : inSteps lo n = false) : n < lo ∨ 1000 < n := by
  simp only [inSteps, Bool.and_eq_false_imp, decide_eq_true_eq, decide_eq_false_iff_not] at h
  by_cases h1 : lo ≤ n
  · have := h h1; omega
  · omega
theorem c_isStepCount (n : Int) (b : Bool) (h : inSteps 0 n = b) (w : World) : Calls Try.prog 7 #[.int .i64 n] w fun e w' => e = .returned (.bool b) ∧ w = w' := by
  cases b with
  | true =>
    obtain ⟨h1, h2⟩ := inSteps_yes h
    clear h
    go_enter Try.func7, Try.ntmps7
    go_wp2
    go_ret
    exact ⟨rfl, rfl⟩
  | false =>
    rcases inSteps_no h with h1 | h1
    · have h2 : n ≤ -1 := by omega
      clear h h1
      go_enter Try.func7, Try.ntmps7
      go_wp2
      go_ret
      exact ⟨rfl, rfl⟩
    · have h2 : 1001 ≤ n := by omega
      have h3 : 0 ≤ n := by omega
      clear h h1
      go_enter Try.func7, Try.ntmps7
      go_wp2
      go_ret
      exact ⟨ret_b (by simp; omega), rfl⟩
theorem c_stepsC (n : Int) (w : World) : Calls Try.prog 7 #[.int .i64 n] w fun e w' => e = .returned (.bool (inSteps 0 n)) ∧ w = w' := c_isStepCount n _ rfl w
/-- a number halved so many times -/
def chalf (b : Nat) : Nat → Nat
  | 0 => b
  | k + 1 => cop .quo .f32 (chalf b k) 1073741824
def HalfDown (b n : Nat) (w : World) (s i : Value) (wr : World) : Prop :=
  ∃ k r m : Nat, k ≤ n ∧ i = .int .i64 ((n : Int) - (k : Int)) ∧ s = .float .f32 r ∧ canon .f32 r = chalf (canon .f32 b) k ∧ r < 2 ^ 32 ∧ wr = w.drewN m
def HalfUp (b n : Nat) (w : World) (s i : Value) (wr : World) : Prop :=
  ∃ k r m : Nat, k ≤ n ∧ i = .int .i64 (k : Int) ∧ s = .float .f32 r ∧ canon .f32 r = chalf (canon .f32 b) k ∧ r < 2 ^ 32 ∧ wr = w.drewN m
theorem half_step {b r k : Nat} (h : canon .f32 r = chalf (canon .f32 b) k) (w : World) : canon .f32 (fval .quo .f32 r 1073741824 w) = chalf (canon .f32 b) (k + 1) := by rw [canon_fval, h, canon_two32]; rfl
def okRate (m h s : Int) : Bool := inSteps 0 m && (inSteps 1 h && inSteps 0 s)
def vRateAt (b : Nat) (m h s : Int) : Nat × Bool :=
  if okRate m h s = true then
    (if s < m then cop .quo .f32 (cop .mul .f32 (canon .f32 b) (floatOfInt .f32 (s + 1))) (floatOfInt .f32 m) else chalf (canon .f32 b) ((s - m).toNat / h.toNat), true)
  else (0, false)
theorem vRateAt_no {b : Nat} {m h s : Int} (hk : okRate m h s = false) : vRateAt b m h s = (0, false) := by unfold vRateAt; rw [if_neg (by rw [hk]; decide)]
theorem vRateAt_warm {b : Nat} {m h s : Int} (hk : okRate m h s = true) (hs : s < m) : vRateAt b m h s = (cop .quo .f32 (cop .mul .f32 (canon .f32 b) (floatOfInt .f32 (s + 1))) (floatOfInt .f32 m), true) := by unfold vRateAt; rw [if_pos hk, if_pos hs]
theorem vRateAt_half {b : Nat} {M H S : Nat} (hk : okRate M H S = true) (hs : M ≤ S) : vRateAt b M H S = (chalf (canon .f32 b) ((S - M) / H), true) := by
  unfold vRateAt
  rw [if_pos hk, if_neg (by omega)]
  have : ((S : Int) - (M : Int)).toNat = S - M := by omega
  rw [this, Int.toNat_natCast]
theorem tdiv_nat {S M H : Nat} (hs : M ≤ S) : Int.tdiv ((S : Int) - (M : Int)) (H : Int) = (((S - M) / H : Nat) : Int) := by
  have e : (S : Int) - (M : Int) = ((S - M : Nat) : Int) := by omega
  rw [e, Int.tdiv_eq_ediv_of_nonneg (by omega)]
  rfl
set_option maxHeartbeats 1000000 in
theorem t_iRateAt (b : Nat) (m h s : Int) (w : World) (hb : b < 4294967296) : Calls Try.prog 6 #[.float .f32 b, .int .i64 m, .int .i64 h, .int .i64 s] w (RetFb (vRateAt b m h s).1 (vRateAt b m h s).2 w) := by
  cases hp : okRate m h s with
  | false =>
    have HX := Lib.hid (vRateAt_no (b := b) hp)
    rw [HX.out]
    cases h1 : inSteps 0 m with
    | false =>
      have H1 := Lib.hid h1
      clear hp h1
      go_enter Try.func6, Try.ntmps6
      go_wp2_with (go_at_call 7; refine (c_stepsC _ _).mono ?_; rintro e w' ⟨rfl, rfl⟩; rw [H1.out])
      go_ret2
      exact ⟨0, by decide +kernel, rfl, 0, rfl⟩
    | true =>
      have H1 := Lib.hid h1
      cases h2 : inSteps 1 h with
      | false =>
        cases h2' : inSteps 0 h with
        | false =>
          have H2 := Lib.hid h2'
          clear hp h1 h2 h2'
          go_enter Try.func6, Try.ntmps6
          go_wp2_with (go_at_call 7; refine (c_stepsC _ _).mono ?_; rintro e w' ⟨rfl, rfl⟩; first | rw [H1.out] | rw [H2.out])
          go_ret2
          exact ⟨0, by decide +kernel, rfl, 0, rfl⟩
        | true =>
          have H2 := Lib.hid h2'
          obtain rfl : h = 0 := by
            have e1 := inSteps_yes h2'
            have e2 := inSteps_no h2
            omega
          clear hp h1 h2 h2'
          go_enter Try.func6, Try.ntmps6
          go_wp2_with (go_at_call 7; refine (c_stepsC _ _).mono ?_; rintro e w' ⟨rfl, rfl⟩; first | rw [H1.out] | rw [H2.out])
          go_ret2
          exact ⟨0, by decide +kernel, rfl, 0, rfl⟩
      | true =>
        have hh := inSteps_yes h2
        obtain ⟨g1, g2⟩ := hh
        have hz : ¬ h = 0 := by omega
        have H2 := Lib.hid (show inSteps 0 h = true by simp [inSteps]; omega)
        have h3 : inSteps 0 s = false := by simpa [okRate, h1, h2] using hp
        have H3 := Lib.hid h3
        clear hp h1 h2 h3
        go_enter Try.func6, Try.ntmps6
        go_wp2_with (go_at_call 7; refine (c_stepsC _ _).mono ?_; rintro e w' ⟨rfl, rfl⟩; first | rw [H1.out] | rw [H2.out] | rw [H3.out])
        go_ret2
        exact ⟨0, by decide +kernel, rfl, 0, rfl⟩
  | true =>
    have hp' := hp
    simp only [okRate, Bool.and_eq_true] at hp'
    obtain ⟨e1, e2, e3⟩ := hp'
    have H1 := Lib.hid e1
    have H2 := Lib.hid (show inSteps 0 h = true by have := inSteps_yes e2; simp [inSteps]; omega)
    have H3 := Lib.hid e3
    obtain ⟨m1, m2⟩ := inSteps_yes e1
    obtain ⟨g1, g2⟩ := inSteps_yes e2
    obtain ⟨s1, s2⟩ := inSteps_yes e3
    by_cases hlt : s < m
    · have HX := Lib.hid (vRateAt_warm (b := b) hp hlt)
      rw [HX.out]
      have hs1 : s + 1 ≤ 1001 := by omega
      have hz : ¬ h = 0 := by omega
      clear hp e1 e2 e3
      go_enter Try.func6, Try.ntmps6
      go_wp2_with (first | (go_at_call 8; refine (c_productOfTwo _ _ _).mono ?_; rintro e w' ⟨rfl, rfl⟩) | go_at_call 7; refine (c_stepsC _ _).mono ?_; rintro e w' ⟨rfl, rfl⟩; first | rw [H1.out] | rw [H2.out] | rw [H3.out])
      go_ret2
      exact ⟨_, by rw [canon_fval, canon_fval, floatOfInt_canon, floatOfInt_canon], rfl, _, rfl⟩
    · obtain ⟨M, rfl⟩ : ∃ n : Nat, m = n := ⟨m.toNat, by omega⟩
      obtain ⟨H, rfl⟩ : ∃ n : Nat, h = n := ⟨h.toNat, by omega⟩
      obtain ⟨S, rfl⟩ : ∃ n : Nat, s = n := ⟨s.toNat, by omega⟩
      have HX := Lib.hid (vRateAt_half (b := b) hp (show M ≤ S by omega))
      rw [HX.out]
      have HD := tdiv_nat (H := H) (show M ≤ S by omega)
      have hq : (S - M) / H ≤ 1000 := Nat.le_trans (Nat.div_le_self _ _) (by omega)
      obtain ⟨n, hn⟩ : ∃ n, (S - M) / H = n := ⟨_, rfl⟩
      rw [hn] at HD hq ⊢
      have hz : ¬ (H : Int) = 0 := by omega
      have hw1 : IntKind.i64.wrap ((S : Int) - (M : Int)) = (S : Int) - (M : Int) := IntWalk.i64_in _ (by omega)
      clear hp e1 e2 e3 hn
      go_enter Try.func6, Try.ntmps6
      go_wp2_with (go_at_call 7; refine (c_stepsC _ _).mono ?_; rintro e w' ⟨rfl, rfl⟩; first | rw [H1.out] | rw [H2.out] | rw [H3.out])
      go_loopw [10, 45] (fun s i wr => HalfUp b n w s i wr) (fun _ i _ => n - (intOf i).toNat)
      case atStart => exact ⟨0, b, 0, Nat.zero_le _, rfl, rfl, rfl, hb, rfl⟩
      case round =>
        obtain ⟨k, r, m, hk, rfl, rfl, hr, hr2, rfl⟩ := hrel
        have HR := Lib.hid hr
        have HR2 := Lib.hid hr2
        clear hr hr2
        by_cases hlt2 : k < n
        · have h0 : (k : Int) < (n : Int) := by omega
          go_wp2
          go_roundw
          case rel => exact ⟨k + 1, _, _, by omega, by go_num, rfl, half_step HR.out _, fval_lt .quo .f32 _ _ _, rfl⟩
          case measure => simp [intOf]; omega
        · obtain rfl : k = n := by omega
          go_wp2
          go_ret2
          exact ⟨r, HR.out, rfl, _, rfl⟩
theorem IsRow.kept {k : IntKind} {w w' : World} {a : Option Addr} {len cap : Nat} {zs : List Int} (h : IsRow k w a len cap zs) (hb : Below w.heap.size w w') : IsRow k w' a len cap zs := by
  obtain ⟨h1, h2, h3, h4, h5⟩ := h
  refine ⟨h1, h2, h3, h4, ?_⟩
  rcases h5 with h0 | ⟨b, off, ha, hlt, hc⟩
  · exact .inl h0
  · refine .inr ⟨b, off, ha, Nat.lt_of_lt_of_le hlt hb.size, fun i hi => ?_⟩
    rw [hb.cell (p := ⟨b, off + i, none⟩) hlt]
    exact hc i hi
theorem c_b10Long_yes (a b : Option Addr) (n m ca cb : Nat) (h : 1048576 < n ∨ 1048576 < m) (w : World) : Calls Try.prog 4 #[.slice a n ca, .slice b m cb] w fun e w' => e = .returned (.bool true) ∧ w = w' := by
  by_cases h1 : 1048576 < n
  · have h' : 1048576 < (n : Int) := by omega
    clear h
    go_enter Try.func4, Try.ntmps4
    go_wp2
    go_ret
    exact ⟨rfl, rfl⟩
  · have h' : (n : Int) ≤ 1048576 := by omega
    have h'' : 1048576 < (m : Int) := by omega
    clear h h1
    go_enter Try.func4, Try.ntmps4
    go_wp2
    go_ret
    exact ⟨rfl, rfl⟩
theorem c_b10Long_no (a b : Option Addr) (n m ca cb : Nat) (h1 : n ≤ 1048576) (h2 : m ≤ 1048576) (w : World) : Calls Try.prog 4 #[.slice a n ca, .slice b m cb] w fun e w' => e = .returned (.bool false) ∧ w = w' := by
  have h' : (n : Int) ≤ 1048576 := by omega
  have h'' : (m : Int) ≤ 1048576 := by omega
  clear h1 h2
  go_enter Try.func4, Try.ntmps4
  go_wp2
  go_ret
  exact ⟨ret_b (by simp; omega), rfl⟩
theorem c_b10At (a : Option Addr) (len cap : Nat) (zs : List Int) (i : Nat) (n : Int) (w : World) (h : IsRow .u8 w a len cap zs) (hi : i ≤ 1000) (h1 : 1 ≤ n) (h2 : n ≤ 1000000) :
    Calls Try.prog 5 #[.slice a len cap, .int .i64 i, .int .i64 n] w fun e w' => ∃ v : Int, 0 ≤ v ∧ v ≤ n - 1 ∧ e = .returned (.int .i64 v) ∧ w = w' := by
  obtain ⟨e1, e2, e3, e4, e5⟩ := h
  have hm : (len : Int) ≤ 9223372036854775807 := by unfold maxLen at e2; omega
  have E3 := Lib.hid e3
  have E4 := Lib.hid e4
  have E5 := Lib.hid e5
  have hi' : (i : Int) ≤ 1000 := by omega
  clear e1 e2 e3 e4 e5 hi
  by_cases hn : n ≤ 1
  · go_enter Try.func5, Try.ntmps5
    go_wp2
    go_ret
    exact ⟨0, by omega, by omega, rfl, rfl⟩
  · by_cases hlt : i < len
    · rcases E5.out with h0 | ⟨b, off, ha, _, hc⟩
      · omega
      · subst ha
        have hcell := hc i hlt
        obtain ⟨z, hz⟩ : ∃ z, zs.getD i 0 = z := ⟨_, rfl⟩
        have hb : 0 ≤ z ∧ z ≤ 255 := by
          rw [← hz, show zs.getD i 0 = zs[i]'(by rw [E3.out]; exact hlt) by simp [List.getD, show i < zs.length by rw [E3.out]; exact hlt]]
          have := E4.out _ (List.getElem_mem (show i < zs.length by rw [E3.out]; exact hlt))
          simpa [Lit.wf, IntKind.min, IntKind.max, IntKind.signed, IntKind.bits] using this
        rw [hz] at hcell
        obtain ⟨z0, z1⟩ := hb
        clear hc hz
        go_enter Try.func5, Try.ntmps5
        go_wp2
        go_ret
        exact ⟨_, Int.emod_nonneg _ (by omega), by have := Int.emod_lt_of_pos z (show 0 < n by omega); omega, rfl, rfl⟩
    · go_enter Try.func5, Try.ntmps5
      go_wp2
      go_ret
      exact ⟨_, Int.emod_nonneg _ (by omega), by have := Int.emod_lt_of_pos ((i : Int) * 37 + 11) (show 0 < n by omega); omega, rfl, rfl⟩
end Go.Proofs.Ytjlkfhnjfbidjaa
