/-
  Whether all numbers of a list have a property: for any function that says so and changes nothing. Conditions: the numbers can be read.
-/
import Derived.Test.YtpfbhckmpkiijaaDoorFun
import Derived.Test.YtpfbhckmpkiijaaDoorInts
namespace Go.Proofs.YtpfbhckmpkiijaaDoor
open Go.RowKit Go.Deep Go.WideShapes Go.ChangeShapes
set_option linter.unusedVariables false

theorem isRow_kept {k : IntKind} {w w' : World} {a : Option Addr} {len cap : Nat} {zs : List Int} (h : IsRow k w a len cap zs) (hb : Below w.heap.size w w') : IsRow k w' a len cap zs := by
  obtain ⟨h1, h2, h3, h4, h5⟩ := h
  refine ⟨h1, h2, h3, h4, ?_⟩
  rcases h5 with h0 | ⟨b, off, ha, hlt, hc⟩
  · exact .inl h0
  · refine .inr ⟨b, off, ha, Nat.lt_of_lt_of_le hlt hb.size, fun i hi => ?_⟩
    rw [hb.cell (p := ⟨b, off + i, none⟩) hlt]
    exact hc i hi
def AllRel {α : Type} (g : α → Bool) (d : α) (zs : List α) (w : World) (i : Value) (wr : World) : Prop := ∃ k : Nat, k ≤ zs.length ∧ i = .int .i64 k ∧ (∀ j, j < k → g (zs.getD j d) = false) ∧ wr = w
theorem any_no {α : Type} {g : α → Bool} {d : α} {zs : List α} (h : ∀ j, j < zs.length → g (zs.getD j d) = false) : zs.any g = false := by
  rw [List.any_eq_false]
  intro x hx
  obtain ⟨i, hi, rfl⟩ := List.mem_iff_getElem.1 hx
  have := h i hi
  simp [List.getD, hi] at this
  simp [this]
theorem any_yes {α : Type} {g : α → Bool} {d : α} {zs : List α} {k : Nat} (hk : k < zs.length) (h : g (zs.getD k d) = true) : zs.any g = true := by
  rw [List.any_eq_true]
  refine ⟨zs.getD k d, ?_, h⟩
  simp [List.getD, hk]
theorem all_any {α : Type} (p : α → Bool) (zs : List α) : (!zs.any fun x => !p x) = zs.all p := by
  induction zs with
  | nil => rfl
  | cons x t ih => simp [← ih]
end Go.Proofs.YtpfbhckmpkiijaaDoor
