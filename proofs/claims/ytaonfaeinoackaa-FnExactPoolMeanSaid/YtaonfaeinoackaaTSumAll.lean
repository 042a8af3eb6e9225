/-
  What SumAll returns, as the model and as the program make it. Conditions: the numbers can be read.
-/
import Derived.Test.YtaonfaeinoackaaRow
namespace Go.Proofs.Ytaonfaeinoackaa
open Go.RowKit
set_option linter.unusedVariables false

def vSumAll (r c : Int) (z : List Nat) : Nat × Bool := if vokB r c z.length = true then (csum z, true) else (0, false)
theorem vok256 {r c : Int} {n : Nat} (h : vokB r c n = true) : n ≤ 256 ∧ 1 ≤ n := by
  obtain ⟨⟨e1, e2⟩, ⟨e3, e4⟩, e5⟩ := (vokB_iff _ _ _).1 h
  have := mul_small e1 e2 e3 e4
  omega
theorem c_sumInOrder (a : Option Addr) (n cap : Nat) (zs : List Nat) (w : World) (h : IsFloats .f32 w a n cap zs) (hn : n ≤ 256) : Calls Try.prog 51 #[.slice a n cap] w (RetF .f32 (csum zs) w) := c_inOrder a n cap zs w h
end Go.Proofs.Ytaonfaeinoackaa
