/-
  PlanText: both sides in one value. Conditions: the plan can be read; the program's tables are as their initialisers lay them.
-/
import Derived.Test.YtdngbfpfhkkmpaaDoorPty
import Derived.Test.YtdngbfpfhkkmpaaDoorKno
import Derived.Test.YtdngbfpfhkkmpaaDoorLdt
namespace Go.Proofs.YtdngbfpfhkkmpaaDoor
open Go.RowKit Go.Deep Go.WideShapes Go.ChangeShapes
set_option linter.unusedVariables false

def RetY (x : ByteArray) (b : Bool) (w : World) (e : Ending) (w' : World) : Prop := e = .returned (.tuple #[.string x, .bool b]) ∧ Below w.heap.size w w'
theorem t_sPlanText (ps : List PstP) (n : Nat) (g : Option Addr) (c : Nat) (y : List PstA) (w : World) (hp : y.map PstA.p = ps) (h : PstsAt w g n c y) (hn : n ≤ 1048576) : Calls Tryd.prog 5 #[.agg #[.slice g n c]] w (RetY (vPlanText ps).1 (vPlanText ps).2 w) := by
  subst hp
  exact c_sPlanText g n c y w h
theorem t_iPlanText (ps : List PstP) (n : Nat) (g : Option Addr) (c : Nat) (y : List PstA) (w : World) (hp : y.map PstA.p = ps) (h : PstsAt w g n c y) (hn : n ≤ 1048576) (ht : TabOk w) (hk : KnOk w) : Calls Tryd.prog 7 #[.agg #[.slice g n c]] w (RetY (vPlanText ps).1 (vPlanText ps).2 w) := by
  subst hp
  exact c_iPlanText g n c y w h hn (fun hv => by
    obtain ⟨a, b⟩ := pln_short y n h.1 hv
    exact ⟨by omega, fun x hx => ⟨(b x hx).1, by have := (b x hx).2; omega⟩⟩) ht hk
end Go.Proofs.YtdngbfpfhkkmpaaDoor
