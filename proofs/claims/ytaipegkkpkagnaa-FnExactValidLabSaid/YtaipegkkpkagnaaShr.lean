/-
  ShuffleRows: the model and the program. Conditions: none.
-/
import Derived.Test.YtaipegkkpkagnaaShu
namespace Go.Proofs.Ytaipegkkpkagnaa
open Go.RowKit Go.Deep Go.WideShapes Go.ChangeShapes
set_option linter.unusedVariables false
attribute [local go_sem] World.drewN_zero

def isSideV (n : Int) : Bool := decide (1 ≤ n) && decide (n ≤ 16)
theorem isSideV_yes {n : Int} (h : isSideV n = true) : ∃ m : Nat, n = m ∧ 1 ≤ m ∧ m ≤ 16 := by
  simp [isSideV] at h
  obtain ⟨m, rfl⟩ := Int.eq_ofNat_of_zero_le (show 0 ≤ n by omega)
  exact ⟨m, rfl, by omega, by omega⟩
def okShuf (n s : Int) : Bool := isSideV n && isSeedV s
def vShuffleRows (n s : Int) : (List Int × Int) × Bool := if okShuf n s = true then (shufR n.toNat s, true) else (([], 0), false)
theorem vShuffleRows_yes {n : Nat} {s : Int} (h : isSideV n = true) (h' : isSeedV s = true) : vShuffleRows n s = (shufR n s, true) := by unfold vShuffleRows okShuf; rw [h, h']; simp
theorem vShuffleRows_no {n s : Int} (h : okShuf n s = false) : vShuffleRows n s = (([], 0), false) := by unfold vShuffleRows; rw [h]; simp
theorem vShuffleRows_len (n s : Int) : (vShuffleRows n s).1.1.length ≤ 16 := by
  cases h : okShuf n s with
  | true =>
    have h' := h
    simp only [okShuf, Bool.and_eq_true] at h'
    obtain ⟨m, rfl, h1, h2⟩ := isSideV_yes h'.1
    rw [vShuffleRows_yes h'.1 h'.2, shufR_length h1]
    exact h2
  | false => rw [vShuffleRows_no h]; simp
theorem c_isSideV (n : Int) (w : World) : Calls Try.prog 145 #[.int .i64 n] w fun e w' => e = .returned (.bool (isSideV n)) ∧ w = w' := by
  unfold isSideV
  by_cases h1 : 1 ≤ n
  · by_cases h2 : n ≤ 16
    · go_enter Try.func145, Try.ntmps145
      go_wp2_with fail
      go_ret
      exact ⟨by simp [h1, h2], rfl⟩
    · go_enter Try.func145, Try.ntmps145
      go_wp2_with fail
      go_ret
      exact ⟨by simp [h2], rfl⟩
  · go_enter Try.func145, Try.ntmps145
    go_wp2_with fail
    go_ret
    exact ⟨by simp; omega, rfl⟩
end Go.Proofs.Ytaipegkkpkagnaa
