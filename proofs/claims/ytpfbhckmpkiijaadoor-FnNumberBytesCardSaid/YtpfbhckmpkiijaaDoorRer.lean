/-
  The reader's errors lie where the row says. Conditions: the row's variables are laid.
-/
import Derived.Test.YtpfbhckmpkiijaaDoorRdr
import Derived.Test.YtpfbhckmpkiijaaDoorRows
import Derived.LaidMore
import Derived.LaidLaws
import Derived.Lib.LaidU8
import Derived.MakeChecks
import Derived.Lib.AtoiErrMem
namespace Go.Proofs.YtpfbhckmpkiijaaDoor
open Go.RowKit Go.Deep Go.WideShapes Go.ChangeShapes
set_option linter.unusedVariables false

theorem err_atR {l : List (String × DataW Unit)} {W : World} {n : String} {g : Nat} {d d' : DataW Unit} {nm : String} (h : laidMetH Tryd.prog l W) (hp : (l.all fun x => x.2.handleName?.isNone) = true) (hm : (n, d) ∈ l) (hd : d = .iface nm d')
    (hg : Tryd.prog.globalNamed n = some g) (ht : (Tryd.prog.globals[g]?).map (·.type) = some 68) : ∃ t v, W.cell? ⟨g, 0, none⟩ = some (.iface t v) := by
  rw [Go.MakeChecks.laidMetH_plain _ _ _ hp] at h
  obtain ⟨g', t, cs, fuel, p, h1, h2, h3, h4⟩ := Lib.laidMet.reads h hm
  obtain rfl := Option.some.inj (hg.symm.trans h1)
  obtain rfl := Option.some.inj (ht.symm.trans h2)
  subst hd
  obtain ⟨_, u, v, hc, _, _⟩ := iface_of_trod Tryd.underlying68 h4
  refine ⟨u, v, ?_⟩
  have hcell := World.var?_cell hg h3 0
  rw [hcell]
  have : cs = #[.iface u v] := Array.toList_inj.1 hc
  rw [this]
  rfl
theorem errsR_bn {W : World} (h : laidMetH Tryd.prog Rows.fnExactBytesNumbersRow.laid W) : ErrsR W :=
  ⟨err_atR h rfl (List.mem_of_getElem? (i := 1) rfl) rfl (by kernel_rfl) (by kernel_rfl), err_atR h rfl (List.mem_of_getElem? (i := 2) rfl) rfl (by kernel_rfl) (by kernel_rfl)⟩
theorem errsR_nb {W : World} (h : laidMetH Tryd.prog Rows.fnNumberBytesRow.laid W) : ErrsR W :=
  ⟨err_atR h rfl (List.mem_of_getElem? (i := 1) rfl) rfl (by kernel_rfl) (by kernel_rfl), err_atR h rfl (List.mem_of_getElem? (i := 2) rfl) rfl (by kernel_rfl) (by kernel_rfl)⟩
end Go.Proofs.YtpfbhckmpkiijaaDoor
