/-
  What a joined row asks of the program alone, part by part. Conditions: none.
-/
import Derived.Test.YtaipegkkpkagnaaRows
import Derived.Test.YtaipegkkpkagnaaChecked
import Derived.JoinedOf
namespace Go.Proofs.Ytaipegkkpkagnaa
theorem and2 {a b : Bool} (h : a = true) (k : b = true) : (a && b) = true := by rw [h, k]; rfl
theorem cls_laid : (laidOutB Try.pinned.checked.prog) = true := by kernel_rfl
theorem cls_maps : (mapsRowed Try.pinned.checked.prog) = true := by kernel_rfl
theorem cls_stops : ((Try.pinned.checked.prog.stops == [])) = true := by kernel_rfl
theorem cls_knobs : ((Try.pinned.checked.prog.stopKnobs == [])) = true := by kernel_rfl
theorem cls_heard : (Try.pinned.checked.prog.stopsHeard) = true := by kernel_rfl
theorem cls_enter : (Try.pinned.checked.prog.mayEnter) = true := by kernel_rfl
theorem cls_lift : Try.pinned.checked.prog.liftsFinal = Rows.fnExactValidLabRow.lifted := by kernel_rfl
theorem cls_make : Try.pinned.checked.prog.make = some Rows.fnExactValidLabRow.make := by kernel_rfl
theorem cls_keys : Try.pinned.checked.prog.plainKeys = Rows.fnExactValidLabRow.plainKeys := by kernel_rfl
end Go.Proofs.Ytaipegkkpkagnaa
