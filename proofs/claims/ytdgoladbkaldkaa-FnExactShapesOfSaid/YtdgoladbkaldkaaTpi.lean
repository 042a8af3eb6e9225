/-
  The program's ValidTape. Conditions: the cells can be read.
-/
import Derived.Test.YtdgoladbkaldkaaTpo
namespace Go.Proofs.Ytdgoladbkaldkaa
open Go.RowKit Go.Deep Go.WideShapes Go.ChangeShapes
set_option linter.unusedVariables false
set_option linter.unusedSimpArgs false

def vValidTape (ps : List TpP) : Bool := (vShapes ps).isSome
set_option maxHeartbeats 1000000 in
theorem t_iValidTape (ps : List TpP) (n : Nat) (g : Option Addr) (cap : Nat) (ls : List TpA) (w : World) (hp : ls.map TpA.p = ps) (h : TpsAt w g n cap ls) :
    Calls Try.prog 10 #[.slice g n cap] w fun e w' => e = .returned (.bool (vValidTape ps)) ∧ Below w.heap.size w w' := by
  obtain rfl : ls.length = n := h.1
  have C := Lib.hid (c_shapesOf g cap ls w h)
  rw [hp] at C
  clear h
  go_enter Try.func10, Try.ntmps10
  cases hv : vShapes ps with
  | none =>
    rw [hv] at C
    simp only [vValidTape, hv, Option.isSome]
    go_wp2_with (go_at_call 33; refine C.out.mono ?_; rintro e w' ⟨rfl, b⟩; have B := Lib.hid b; clear b)
    go_ret
    exact ⟨rfl, B.out⟩
  | some l =>
    rw [hv] at C
    simp only [vValidTape, hv, Option.isSome]
    go_wp2_with (go_at_call 33; refine C.out.mono ?_; rintro e w' ⟨a, rfl, _, b⟩; have B := Lib.hid b; clear b)
    go_ret
    exact ⟨rfl, B.out⟩
end Go.Proofs.Ytdgoladbkaldkaa
