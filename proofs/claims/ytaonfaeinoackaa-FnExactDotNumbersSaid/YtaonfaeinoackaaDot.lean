/-
  What DotNumbers returns: its steps on one pattern for all not-a-numbers, in order. Conditions: the lists' elements can be read.
-/
import Derived.Test.YtaonfaeinoackaaDotIn
namespace Go.Proofs.Ytaonfaeinoackaa
open Go.RowKit

theorem c_sDotNumbers_no (a b : Option Addr) (n m ca cb : Nat) (h : 256 < n ∨ n ≠ m) (w : World) : Calls Try.prog 20 #[.slice a n ca, .slice b m cb] w (RetNo .f32 w) := by
  by_cases h1 : n ≤ 256
  · have H := Lib.hid (decide_eq_true h1)
    have hne : ((n : Int) != (m : Int)) = true := by simp; omega
    clear h h1
    go_enter Try.func20, Try.ntmps20
    go_wp2_with (go_at_call 49; refine (c_l01Few _ _ _ _).mono ?_; rintro e w' ⟨rfl, rfl⟩; rw [H.out])
    go_ret2
    exact ⟨rfl, rfl⟩
  · have H := Lib.hid (decide_eq_false h1)
    clear h h1
    go_enter Try.func20, Try.ntmps20
    go_wp2_with (go_at_call 49; refine (c_l01Few _ _ _ _).mono ?_; rintro e w' ⟨rfl, rfl⟩; rw [H.out])
    go_ret2
    exact ⟨rfl, rfl⟩
theorem c_sDotNumbers (a b : Option Addr) (n m ca cb : Nat) (xs ys : List Nat) (w : World) (ha : IsFloats .f32 w a n ca xs) (hb : IsFloats .f32 w b m cb ys) (hl : n ≤ 256) (hnm : n = m) : Calls Try.prog 20 #[.slice a n ca, .slice b m cb] w (RetFT .f32 (cdot xs ys) w) := by
  subst hnm
  have H := Lib.hid (decide_eq_true hl)
  have C := Lib.hid (c_l01Dot a b n ca cb xs ys w ha hb)
  clear ha hb hl
  go_enter Try.func20, Try.ntmps20
  go_wp2_with (first | (go_at_call 49; refine (c_l01Few _ _ _ _).mono ?_; rintro e w' ⟨rfl, rfl⟩; rw [H.out]) | (go_at_call 52; refine C.out.mono ?_; rintro e w' ⟨r, n, hr, hr2, rfl, rfl⟩; have HR := Lib.hid hr; have HR2 := Lib.hid hr2; clear hr hr2))
  go_ret2
  exact ⟨_, _, HR.out, HR2.out, rfl, rfl⟩
theorem c_canDot (a b : Option Addr) (n m ca cb : Nat) (w : World) : Calls Try.prog 53 #[.slice a n ca, .slice b m cb] w fun e w' => e = .returned (.bool (decide (n = m ∧ n ≤ 256))) ∧ w = w' := by
  by_cases h1 : n = m
  · subst h1
    by_cases h2 : n ≤ 256
    · have h' : (n : Int) ≤ 256 := by omega
      have H := Lib.hid h2
      clear h2
      go_enter Try.func53, Try.ntmps53
      go_wp2
      go_ret
      exact ⟨ret_b (decide_eq_true (show True ∧ n ≤ 256 from ⟨trivial, H.out⟩)).symm, rfl⟩
    · have h' : 256 < (n : Int) := by omega
      clear h2
      go_enter Try.func53, Try.ntmps53
      go_wp2
      go_ret
      exact ⟨ret_b (decide_eq_decide.2 (by omega)), rfl⟩
  · have h' : ((n : Int) == (m : Int)) = false := by simp; omega
    have H := Lib.hid (decide_eq_false (show ¬ (n = m ∧ n ≤ 256) by omega))
    clear h1
    go_enter Try.func53, Try.ntmps53
    go_wp2
    go_ret
    exact ⟨ret_b H.out.symm, rfl⟩
theorem c_iDotNumbers_no (a b : Option Addr) (n m ca cb : Nat) (h : 256 < n ∨ n ≠ m) (w : World) : Calls Try.prog 21 #[.slice a n ca, .slice b m cb] w (RetNo .f32 w) := by
  have H := Lib.hid (decide_eq_false (show ¬ (n = m ∧ n ≤ 256) by omega))
  clear h
  go_enter Try.func21, Try.ntmps21
  go_wp2_with (go_at_call 53; refine (c_canDot _ _ _ _ _ _ _).mono ?_; rintro e w' ⟨rfl, rfl⟩; rw [H.out])
  go_ret2
  exact ⟨rfl, rfl⟩
theorem c_iDotNumbers (a b : Option Addr) (n m ca cb : Nat) (xs ys : List Nat) (w : World) (ha : IsFloats .f32 w a n ca xs) (hb : IsFloats .f32 w b m cb ys) (hl : n ≤ 256) (hnm : n = m) : Calls Try.prog 21 #[.slice a n ca, .slice b m cb] w (RetFT .f32 (cdot xs ys) w) := by
  subst hnm
  have H := Lib.hid (decide_eq_true (show n = n ∧ n ≤ 256 from ⟨rfl, hl⟩))
  have C := Lib.hid (c_dotIn32 a b n ca cb xs ys w ha hb)
  clear ha hb hl
  go_enter Try.func21, Try.ntmps21
  go_wp2_with (first | (go_at_call 53; refine (c_canDot _ _ _ _ _ _ _).mono ?_; rintro e w' ⟨rfl, rfl⟩; rw [H.out]) | (go_at_call 54; refine C.out.mono ?_; rintro e w' ⟨r, n, hr, hr2, rfl, rfl⟩; have HR := Lib.hid hr; have HR2 := Lib.hid hr2; clear hr hr2))
  go_ret2
  exact ⟨_, _, HR.out, HR2.out, rfl, rfl⟩
end Go.Proofs.Ytaonfaeinoackaa
