/-
  What SumAll returns, as the model and as the program make it. Conditions: the numbers can be read.
-/
import Derived.Test.YtmnogpanoakbdacRow
namespace Go.Proofs.Ytmnogpanoakbdac
open Go.RowKit

def vSumAll (r c : Int) (z : List Nat) : Nat × Bool := if vokB r c z.length = true then (csum z, true) else (0, false)
theorem vok256 {r c : Int} {n : Nat} (h : vokB r c n = true) : n ≤ 256 ∧ 1 ≤ n := by
  obtain ⟨⟨e1, e2⟩, ⟨e3, e4⟩, e5⟩ := (vokB_iff _ _ _).1 h
  have := mul_small e1 e2 e3 e4
  omega
theorem c_sumInOrder (a : Option Addr) (n cap : Nat) (zs : List Nat) (w : World) (h : IsFloats .f32 w a n cap zs) (hn : n ≤ 256) : Calls Try.prog 175 #[.slice a n cap] w (RetF .f32 (csum zs) w) := by
  have H := Lib.hid h
  clear h
  go_enter Try.func175, Try.ntmps175
  go_wp2_with fail
  refine (c_iSumNumbers _ _ _ zs _ H.out hn).mono ?_
  rintro e w' ⟨r, n, hr, hr2, rfl, rfl⟩
  have HR := Lib.hid hr
  have HR2 := Lib.hid hr2
  clear hr hr2
  go_wp2_with fail
  go_ret
  exact ⟨r, _, HR.out, HR2.out, rfl, rfl⟩
end Go.Proofs.Ytmnogpanoakbdac
