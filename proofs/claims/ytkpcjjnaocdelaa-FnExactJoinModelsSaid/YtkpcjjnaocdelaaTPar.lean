/-
  CountParams and ParamsOf: what the model and the program answer. Conditions: the cells can be read.
-/
import Derived.Test.YtkpcjjnaocdelaaPar
import Derived.Test.YtkpcjjnaocdelaaMark
namespace Go.Proofs.Ytkpcjjnaocdelaa
open Go.RowKit
set_option linter.unusedVariables false

def vCountParams (ps : List LayP) : Int × Bool := if vMod ps = true then ((((parOf ps).length : Nat) : Int), true) else (0, false)
def vParamsOf (ps : List LayP) : Bool × List Nat := if vMod ps = true then (true, (parOf ps).map (canon .f32)) else (false, [])
theorem vParamsOf_len (ps : List LayP) : (vParamsOf ps).2.length ≤ 1048576 := by
  unfold vParamsOf
  split
  · rename_i h
    have := vMod_parts h
    simp [parOf_length]
    omega
  · simp
end Go.Proofs.Ytkpcjjnaocdelaa
