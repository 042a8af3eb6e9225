/-
  EntriesOf: the three errors lie apart where the row lays them. Conditions: the row's variables are laid.
-/
import Derived.Test.YtpfbhckmpkiijaaDoorErz
import Derived.Test.YtpfbhckmpkiijaaDoorRows
import Derived.LaidMore
import Derived.LaidLaws
import Derived.MakeChecks
import Derived.Stop.LaidTwo
import Derived.Stop.LaidErr
namespace Go.Proofs.YtpfbhckmpkiijaaDoor
open Go.RowKit Go.Deep Go.WideShapes Go.ChangeShapes
set_option linter.unusedVariables false

theorem es_star : "*" ++ "errors.errorString" = "*errors.errorString" := by decide
theorem es_row (u : TypeId) (h : Tryd.prog.typeName? 3 u = some "*errors.errorString") : u = 122 :=
  typeName_ptr_named (nm := "errors.errorString") (by rw [es_star]; kernel_rfl) (by kernel_rfl) (by decide) u (by rw [es_star]; exact h)
theorem es_cells : Tryd.prog.cellsOf 145 = 1 := by kernel_rfl
theorem es_cellsS : Tryd.prog.cellsOf 9 = 1 := by kernel_rfl
set_option maxRecDepth 20000 in
theorem errsP_ent {W : World} (h : laidMetH Tryd.prog Rows.fnExactEntriesOfRow.laid W) : ErrsP W := by
  rw [Go.MakeChecks.laidMetH_plain _ _ _ (by rfl)] at h
  obtain ⟨ps, ⟨g0, t0, cs0, f0, p0, q0, hg0, ht0, hv0, hd0, ⟨g1, t1, cs1, f1, p1, q1, hg1, ht1, hv1, hd1, ⟨g2, t2, cs2, f2, p2, q2, hg2, ht2, hv2, hd2, _, e2⟩, e1⟩, e0⟩, hnd, hrows⟩ := h
  have G0 : Tryd.prog.globalNamed "loop.example/g01157/impl.errMany" = some 0 := by kernel_rfl
  have G1 : Tryd.prog.globalNamed "loop.example/g01157/impl.errCut" = some 3 := by kernel_rfl
  have G2 : Tryd.prog.globalNamed "loop.example/g01157/impl.errLong" = some 1 := by kernel_rfl
  have T0 : (Tryd.prog.globals[(0 : Nat)]?).map (·.type) = some 68 := by kernel_rfl
  have T1 : (Tryd.prog.globals[(3 : Nat)]?).map (·.type) = some 68 := by kernel_rfl
  have T2 : (Tryd.prog.globals[(1 : Nat)]?).map (·.type) = some 68 := by kernel_rfl
  obtain rfl := Option.some.inj (G0.symm.trans hg0)
  obtain rfl := Option.some.inj (G1.symm.trans hg1)
  obtain rfl := Option.some.inj (G2.symm.trans hg2)
  obtain rfl := Option.some.inj (T0.symm.trans ht0)
  obtain rfl := Option.some.inj (T1.symm.trans ht1)
  obtain rfl := Option.some.inj (T2.symm.trans ht2)
  subst e2
  subst e1
  subst e0
  obtain ⟨l0⟩ := cs0
  obtain ⟨l1⟩ := cs1
  obtain ⟨l2⟩ := cs2
  have ok0 : ∀ u v, l0 = [.iface u v] → Value.okWide Tryd.prog W .any 0 u v := fun u v e => by
    subst e
    exact (hrows 0 0 (by simp [MemPlace.row])).2 u v (by simpa using World.var?_cell hg0 hv0 0)
  have ok1 : ∀ u v, l1 = [.iface u v] → Value.okWide Tryd.prog W .any 0 u v := fun u v e => by
    subst e
    exact (hrows 3 0 (by simp [MemPlace.row])).2 u v (by simpa using World.var?_cell hg1 hv1 0)
  have ok2 : ∀ u v, l2 = [.iface u v] → Value.okWide Tryd.prog W .any 0 u v := fun u v e => by
    subst e
    exact (hrows 1 0 (by simp [MemPlace.row])).2 u v (by simpa using World.var?_cell hg2 hv2 0)
  obtain ⟨a0, s0, rfl, hc0, hs0, hz0, rfl⟩ := errorString_of_trod Tryd.underlying68 es_row Tryd.underlying122 Tryd.underlying145 rfl rfl Tryd.underlying9 es_cells es_cellsS hd0 ok0
  obtain ⟨a1, s1, rfl, hc1, hs1, hz1, rfl⟩ := errorString_of_trod Tryd.underlying68 es_row Tryd.underlying122 Tryd.underlying145 rfl rfl Tryd.underlying9 es_cells es_cellsS hd1 ok1
  obtain ⟨a2, s2, rfl, hc2, hs2, hz2, rfl⟩ := errorString_of_trod Tryd.underlying68 es_row Tryd.underlying122 Tryd.underlying145 rfl rfl Tryd.underlying9 es_cells es_cellsS hd2 ok2
  obtain ⟨c0, t0, hb0⟩ := (hrows a0.block a0.off (by simp [MemPlace.row])).1
  obtain ⟨c1, t1, hb1⟩ := (hrows a1.block a1.off (by simp [MemPlace.row])).1
  obtain ⟨c2, t2, hb2⟩ := (hrows a2.block a2.off (by simp [MemPlace.row])).1
  refine ⟨a0, a1, a2, c0, c1, c2, t0, t1, t2, ⟨?_, ?_, ?_⟩, ?_, ?_, hb0, hb1, hb2⟩
  · simpa using World.var?_cell hg0 hv0 0
  · simpa using World.var?_cell hg1 hv1 0
  · simpa using World.var?_cell hg2 hv2 0
  · rintro rfl
    have e := Option.some.inj (hc0.symm.trans hc1)
    injection e with e
    subst e
    rw [hs0] at hs1
    exact absurd hs1 (by decide)
  · rintro rfl
    have e := Option.some.inj (hc0.symm.trans hc2)
    injection e with e
    subst e
    rw [hs0] at hs2
    exact absurd hs2 (by decide)
end Go.Proofs.YtpfbhckmpkiijaaDoor
