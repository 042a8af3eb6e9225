/-
  What a row's listed variables give: the table of powers of ten. Conditions: the list names it.
-/
import Derived.Test.YtdngbfpfhkkmpaaDoorDci
import Derived.Lib.LaidU8
import Derived.MakeChecks
namespace Go.Proofs.YtdngbfpfhkkmpaaDoor
open Go.RowKit Go.Deep Go.WideShapes Go.ChangeShapes

theorem tab_ok {l : List (String × DataW Unit)} {W : World} (h : laidMetH Tryd.prog l W) (hp : (l.all fun x => x.2.handleName?.isNone) = true) (hm : (powName, Lib.tabData .u64 Lib.pow10Tab) ∈ l) : TabOk W := by
  rw [Go.MakeChecks.laidMetH_plain _ _ _ hp] at h
  obtain ⟨g, t, cs, fuel, p, h1, h2, h3, h4⟩ := Lib.laidMet.reads h hm
  have hg : Tryd.prog.globalNamed powName = some 2 := by kernel_rfl
  obtain rfl := Option.some.inj (hg.symm.trans h1)
  have ht : (Tryd.prog.globals[2]?).map (·.type) = some 110 := by kernel_rfl
  obtain rfl := Option.some.inj (ht.symm.trans h2)
  have hc := Lib.cells_of_tab Tryd.underlying110 Tryd.underlying103 (by kernel_rfl) (by kernel_rfl) h4
  unfold TabOk Lib.TabIs
  rw [h3, ← hc]
end Go.Proofs.YtdngbfpfhkkmpaaDoor
