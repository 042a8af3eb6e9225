/-
  Products of a kernel along a row and over an image, as the program makes them; ConvolveRow, as its model makes it. Conditions: the numbers can be read.
-/
import Derived.Test.YtaonfaeinoackaaParts
import Derived.Test.YtaonfaeinoackaaDotIn
namespace Go.Proofs.Ytaonfaeinoackaa
open Go.RowKit Go.Deep Go.WideShapes Go.ChangeShapes

def szB (n : Int) : Bool := decide (1 ≤ n) && decide (n ≤ 8)
theorem szB_iff (n : Int) : szB n = true ↔ 1 ≤ n ∧ n ≤ 8 := by simp [szB]
theorem szB_no (n : Int) : szB n = false ↔ n < 1 ∨ 8 < n := by
  have := szB_iff n
  cases h : szB n
  · simp [h] at this; constructor
    · intro _; omega
    · intro _; rfl
  · have := this.1 h
    simp; omega
theorem c_isKernelSize (n : Int) (b : Bool) (h : szB n = b) (w : World) : Calls Try.prog 91 #[.int .i64 n] w fun e w' => e = .returned (.bool b) ∧ w = w' := by
  cases b with
  | true =>
    obtain ⟨h1, h2⟩ := (szB_iff n).1 h
    clear h
    go_enter Try.func91, Try.ntmps91
    go_wp2
    go_ret
    exact ⟨rfl, rfl⟩
  | false =>
    rcases (szB_no n).1 h with h1 | h1
    · clear h
      go_enter Try.func91, Try.ntmps91
      go_wp2
      go_ret
      exact ⟨rfl, rfl⟩
    · clear h
      have h2 : 1 ≤ n := by omega
      go_enter Try.func91, Try.ntmps91
      go_wp2
      go_ret
      exact ⟨ret_b (decide_eq_false (by omega)), rfl⟩
end Go.Proofs.Ytaonfaeinoackaa
