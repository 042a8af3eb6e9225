/-
  The model's small tests of tapes: which operations have two operands, whether a tensor is none. Conditions: the cells can be read.
-/
import Derived.Test.YtdgoladbkaldkaaTpv
namespace Go.Proofs.Ytdgoladbkaldkaa
open Go.RowKit Go.Deep Go.WideShapes Go.ChangeShapes
set_option linter.unusedVariables false
set_option linter.unusedSimpArgs false

theorem c_l04Two (k : Int) (w : World) : Calls Try.prog 38 #[.int .i64 k] w fun e w' => e = .returned (.bool (tTwo k)) ∧ w = w' := by
  by_cases h1 : k = 1
  · subst h1
    rw [show tTwo 1 = true by decide]
    go_enter Try.func38, Try.ntmps38
    go_wp2
    go_ret
    exact ⟨rfl, rfl⟩
  by_cases h2 : k = 2
  · subst h2
    rw [show tTwo 2 = true by decide]
    go_enter Try.func38, Try.ntmps38
    go_wp2
    go_ret
    exact ⟨rfl, rfl⟩
  by_cases h3 : k = 3
  · subst h3
    rw [show tTwo 3 = true by decide]
    go_enter Try.func38, Try.ntmps38
    go_wp2
    go_ret
    exact ⟨rfl, rfl⟩
  by_cases h4 : k = 4
  · subst h4
    rw [show tTwo 4 = true by decide]
    go_enter Try.func38, Try.ntmps38
    go_wp2
    go_ret
    exact ⟨rfl, rfl⟩
  by_cases h6 : k = 6
  · subst h6
    rw [show tTwo 6 = true by decide]
    go_enter Try.func38, Try.ntmps38
    go_wp2
    go_ret
    exact ⟨rfl, rfl⟩
  rw [tTwo_no h1 h2 h3 h4 h6]
  go_enter Try.func38, Try.ntmps38
  go_wp2
  go_ret
  refine ⟨?_, rfl⟩
  show Ending.returned (.bool (k == 1 || k == 2 || k == 3 || k == 4 || k == 6)) = _
  simp [h1, h2, h3, h4, h6]
def noneB (r c : Int) (n : Nat) : Bool := decide (r = 0) && (decide (c = 0) && decide (n = 0))
theorem c_l04None (g o : Nat) (r c : Int) (a : Option Addr) (n cap : Nat) (w : World) (hn : n ≤ 9223372036854775807)
    (h0 : w.cell? ⟨g, o, none⟩ = some (.int .i64 r)) (h1 : w.cell? ⟨g, o + 1, none⟩ = some (.int .i64 c)) (h2 : w.cell? ⟨g, o + 2, none⟩ = some (.slice a n cap)) :
    Calls Try.prog 62 #[.pointer (some ⟨g, o, none⟩)] w fun e w' => e = .returned (.bool (noneB r c n)) ∧ w = w' := by
  by_cases e0 : r = 0
  case neg =>
    rw [show noneB r c n = false by simp [noneB, e0]]
    go_enter Try.func62, Try.ntmps62
    go_wp2
    go_ret
    exact ⟨rfl, rfl⟩
  case pos =>
  subst e0
  by_cases e1 : c = 0
  case neg =>
    rw [show noneB 0 c n = false by simp [noneB, e1]]
    go_enter Try.func62, Try.ntmps62
    go_wp2
    go_ret
    exact ⟨rfl, rfl⟩
  case pos =>
  subst e1
  by_cases e2 : n = 0
  case neg =>
    have e2' : ¬ (n : Int) = 0 := by omega
    rw [show noneB 0 0 n = false by simp [noneB, e2]]
    go_enter Try.func62, Try.ntmps62
    go_wp2
    go_ret
    refine ⟨?_, rfl⟩
    show Ending.returned (.bool ((n : Int) == 0)) = _
    simp [e2]
  case pos =>
  subst e2
  go_enter Try.func62, Try.ntmps62
  go_wp2
  go_ret
  exact ⟨rfl, rfl⟩
end Go.Proofs.Ytdgoladbkaldkaa
