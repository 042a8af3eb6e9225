/-
  What a joined row asks of the program alone, part by part. Conditions: none.
-/
import Derived.Test.YtokminhnkmhneaaDoorRows
import Derived.Test.YtokminhnkmhneaaDoorChecked
import Derived.JoinedOf
namespace Go.Proofs.YtokminhnkmhneaaDoor
theorem and2 {a b : Bool} (h : a = true) (k : b = true) : (a && b) = true := by rw [h, k]; rfl
theorem cls_laid : (laidOutB Tryd.pinned.checked.prog) = true := by kernel_rfl
theorem cls_maps : (mapsRowed Tryd.pinned.checked.prog) = true := by kernel_rfl
theorem cls_stops : ((Tryd.pinned.checked.prog.stops == [])) = true := by kernel_rfl
theorem cls_knobs : ((Tryd.pinned.checked.prog.stopKnobs == [])) = true := by kernel_rfl
theorem cls_heard : (Tryd.pinned.checked.prog.stopsHeard) = true := by kernel_rfl
theorem cls_enter : (Tryd.pinned.checked.prog.mayEnter) = true := by kernel_rfl
theorem cls_lift : Tryd.pinned.checked.prog.liftsFinal = Rows.fnExactDecimalRow.lifted := by kernel_rfl
theorem cls_make : Tryd.pinned.checked.prog.make = some Rows.fnExactDecimalRow.make := by kernel_rfl
theorem cls_keys : Tryd.pinned.checked.prog.plainKeys = Rows.fnExactDecimalRow.plainKeys := by kernel_rfl
end Go.Proofs.YtokminhnkmhneaaDoor
