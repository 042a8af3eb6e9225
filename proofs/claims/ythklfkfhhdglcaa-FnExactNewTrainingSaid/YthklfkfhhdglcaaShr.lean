/-
  ShuffleRows: the model and the program. Conditions: none.
-/
import Derived.Test.YthklfkfhhdglcaaShu
namespace Go.Proofs.Ythklfkfhhdglcaa
open Go.RowKit Go.Deep Go.WideShapes Go.ChangeShapes
set_option linter.unusedVariables false
attribute [local go_sem] World.drewN_zero

def isSideV (n : Int) : Bool := decide (1 ≤ n) && decide (n ≤ 16)
theorem isSideV_yes {n : Int} (h : isSideV n = true) : ∃ m : Nat, n = m ∧ 1 ≤ m ∧ m ≤ 16 := by
  simp [isSideV] at h
  obtain ⟨m, rfl⟩ := Int.eq_ofNat_of_zero_le (show 0 ≤ n by omega)
  exact ⟨m, rfl, by omega, by omega⟩
def okShuf (n s : Int) : Bool := isSideV n && isSeedV s
def vShuffleRows (n s : Int) : (List Int × Int) × Bool := if okShuf n s = true then (shufR n.toNat s, true) else (([], 0), false)
theorem vShuffleRows_yes {n : Nat} {s : Int} (h : isSideV n = true) (h' : isSeedV s = true) : vShuffleRows n s = (shufR n s, true) := by unfold vShuffleRows okShuf; rw [h, h']; simp
theorem vShuffleRows_no {n s : Int} (h : okShuf n s = false) : vShuffleRows n s = (([], 0), false) := by unfold vShuffleRows; rw [h]; simp
theorem vShuffleRows_len (n s : Int) : (vShuffleRows n s).1.1.length ≤ 16 := by
  cases h : okShuf n s with
  | true =>
    have h' := h
    simp only [okShuf, Bool.and_eq_true] at h'
    obtain ⟨m, rfl, h1, h2⟩ := isSideV_yes h'.1
    rw [vShuffleRows_yes h'.1 h'.2, shufR_length h1]
    exact h2
  | false => rw [vShuffleRows_no h]; simp
theorem c_isSideV (n : Int) (w : World) : Calls Try.prog 60 #[.int .i64 n] w fun e w' => e = .returned (.bool (isSideV n)) ∧ w = w' := by
  unfold isSideV
  by_cases h1 : 1 ≤ n
  · by_cases h2 : n ≤ 16
    · go_enter Try.func60, Try.ntmps60
      go_wp2_with fail
      go_ret
      exact ⟨by simp [h1, h2], rfl⟩
    · go_enter Try.func60, Try.ntmps60
      go_wp2_with fail
      go_ret
      exact ⟨by simp [h2], rfl⟩
  · go_enter Try.func60, Try.ntmps60
    go_wp2_with fail
    go_ret
    exact ⟨by simp; omega, rfl⟩
set_option maxHeartbeats 1000000 in
theorem t_sShuffleRows (n s : Int) (w : World) : Calls Try.prog 25 #[.int .i64 n, .int .i64 s] w (RetJ (vShuffleRows n s).1 (vShuffleRows n s).2 w) := by
  have HSD := Lib.hid (show (decide (1 ≤ n) && decide (n ≤ 16)) = isSideV n from rfl)
  cases hn : isSideV n with
  | true =>
    have HSV := Lib.hid hn
    cases hs : isSeedV s with
    | true =>
      have HDV := Lib.hid hs
      obtain ⟨m, rfl, m1, m2⟩ := isSideV_yes hn
      have HX := Lib.hid (vShuffleRows_yes hn hs)
      have HR := Lib.hid (isSeedV_yes hs)
      have HLN := Lib.hid (shufR_length m1 s)
      rw [HX.out]
      clear hn hs
      go_enter Try.func25, Try.ntmps25
      go_wp2_with (first | (go_at_call 77; refine (c_l00In _ _ _ _ HSD.out _).mono ?_; rintro e w' ⟨rfl, rfl⟩; rw [HSV.out]) | (go_at_call 75; refine (c_l07Seed _ _).mono ?_; rintro e w' ⟨rfl, rfl⟩; rw [HDV.out]) | (go_at_call 78; refine (c_sShuf m m1 m2 s HR.out _).mono ?_; rintro e w' ⟨a, cap, ys, rfl, ho, hy, hb⟩; have HO := Lib.hid ho; have HY := Lib.hid hy; have HB := Lib.hid hb; clear ho hy hb))
      go_ret3
      exact ⟨a, cap, ys, rfl, HO.out, HY.out, HB.out⟩
    | false =>
      have HDV := Lib.hid hs
      have HX := Lib.hid (vShuffleRows_no (n := n) (s := s) (by simp [okShuf, hs]))
      rw [HX.out]
      clear hn hs
      go_enter Try.func25, Try.ntmps25
      go_wp2_with (first | (go_at_call 77; refine (c_l00In _ _ _ _ HSD.out _).mono ?_; rintro e w' ⟨rfl, rfl⟩; rw [HSV.out]) | (go_at_call 75; refine (c_l07Seed _ _).mono ?_; rintro e w' ⟨rfl, rfl⟩; rw [HDV.out]))
      go_ret3
      exact ⟨none, 0, [], rfl, nil_ownI _ _, rfl, Below.refl _ _⟩
  | false =>
    have HSV := Lib.hid hn
    have HX := Lib.hid (vShuffleRows_no (n := n) (s := s) (by simp [okShuf, hn]))
    rw [HX.out]
    clear hn
    go_enter Try.func25, Try.ntmps25
    go_wp2_with (go_at_call 77; refine (c_l00In _ _ _ _ HSD.out _).mono ?_; rintro e w' ⟨rfl, rfl⟩; rw [HSV.out])
    go_ret3
    exact ⟨none, 0, [], rfl, nil_ownI _ _, rfl, Below.refl _ _⟩
set_option maxHeartbeats 1000000 in
theorem t_iShuffleRows (n s : Int) (w : World) : Calls Try.prog 17 #[.int .i64 n, .int .i64 s] w (RetJ (vShuffleRows n s).1 (vShuffleRows n s).2 w) := by
  have HSD := Lib.hid (show (decide (1 ≤ n) && decide (n ≤ 16)) = isSideV n from rfl)
  cases hn : isSideV n with
  | true =>
    have HSV := Lib.hid hn
    cases hs : isSeedV s with
    | true =>
      have HDV := Lib.hid hs
      obtain ⟨m, rfl, m1, m2⟩ := isSideV_yes hn
      have HX := Lib.hid (vShuffleRows_yes hn hs)
      have HR := Lib.hid (isSeedV_yes hs)
      have HLN := Lib.hid (shufR_length m1 s)
      rw [HX.out]
      clear hn hs
      go_enter Try.func17, Try.ntmps17
      go_wp2_with (first | (go_at_call 60; refine (c_isSideV _ _).mono ?_; rintro e w' ⟨rfl, rfl⟩; rw [HSV.out]) | (go_at_call 61; refine (c_isSeed _ _).mono ?_; rintro e w' ⟨rfl, rfl⟩; rw [HDV.out]) | (go_at_call 62; refine (c_iShuf m m1 m2 s HR.out _).mono ?_; rintro e w' ⟨a, cap, ys, rfl, ho, hy, hb⟩; have HO := Lib.hid ho; have HY := Lib.hid hy; have HB := Lib.hid hb; clear ho hy hb))
      go_ret3
      exact ⟨a, cap, ys, rfl, HO.out, HY.out, HB.out⟩
    | false =>
      have HDV := Lib.hid hs
      have HX := Lib.hid (vShuffleRows_no (n := n) (s := s) (by simp [okShuf, hs]))
      rw [HX.out]
      clear hn hs
      go_enter Try.func17, Try.ntmps17
      go_wp2_with (first | (go_at_call 60; refine (c_isSideV _ _).mono ?_; rintro e w' ⟨rfl, rfl⟩; rw [HSV.out]) | (go_at_call 61; refine (c_isSeed _ _).mono ?_; rintro e w' ⟨rfl, rfl⟩; rw [HDV.out]))
      go_ret3
      exact ⟨none, 0, [], rfl, nil_ownI _ _, rfl, Below.refl _ _⟩
  | false =>
    have HSV := Lib.hid hn
    have HX := Lib.hid (vShuffleRows_no (n := n) (s := s) (by simp [okShuf, hn]))
    rw [HX.out]
    clear hn
    go_enter Try.func17, Try.ntmps17
    go_wp2_with (go_at_call 60; refine (c_isSideV _ _).mono ?_; rintro e w' ⟨rfl, rfl⟩; rw [HSV.out])
    go_ret3
    exact ⟨none, 0, [], rfl, nil_ownI _ _, rfl, Below.refl _ _⟩
end Go.Proofs.Ythklfkfhhdglcaa
