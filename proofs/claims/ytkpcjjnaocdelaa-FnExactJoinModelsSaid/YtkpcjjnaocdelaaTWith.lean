/-
  WithParams: what the model and the program answer. Conditions: the cells can be read.
-/
import Derived.Test.YtkpcjjnaocdelaaWith
import Derived.Test.YtkpcjjnaocdelaaTPar
namespace Go.Proofs.Ytkpcjjnaocdelaa
open Go.RowKit
set_option linter.unusedVariables false

theorem laySum_withP_le (ps : List LayP) (zs : List Nat) : laySum (withP ps zs) ≤ laySum ps := by
  induction ps generalizing zs with
  | nil => exact Nat.le_refl _
  | cons p ps ih =>
    have h := ih (zs.drop (p.ws.length + p.bs.length))
    simp only [withP, laySum, List.map_cons, List.sum_cons, LayP.n, List.length_take, List.length_drop] at h ⊢
    omega
theorem laySum_canP (ps : List LayP) : laySum (ps.map LayP.can) = laySum ps := by
  unfold laySum
  rw [List.map_map]
  congr 1
  refine List.map_congr_left fun x _ => ?_
  simp [LayP.n, LayP.can]
def okWith (ps : List LayP) (zs : List Nat) : Bool := vMod ps && decide (zs.length = (parOf ps).length)
def vWithParams (ps : List LayP) (zs : List Nat) : Bool × List LayP := if okWith ps zs = true then (true, (withP ps zs).map LayP.can) else (false, [])
theorem vWithParams_len (ps : List LayP) (zs : List Nat) : 3 * (vWithParams ps zs).2.length + laySum (vWithParams ps zs).2 ≤ 1048576 := by
  unfold vWithParams
  split
  · rename_i h
    simp only [okWith, Bool.and_eq_true] at h
    have h1 := vMod_parts h.1
    have h2 := laySum_withP_le ps zs
    have h3 := laySum_canP (withP ps zs)
    have h4 := withP_length ps zs
    simp only [List.length_map]
    omega
  · simp [laySum]
theorem retM_no {w w' : World} (h : Below w.heap.size w w') : RetM false [] w (.returned (.tuple #[.agg #[.slice none 0 0], .bool false])) w' :=
  ⟨none, 0, [], rfl, by simp [OwnL, Cl.Own, laysC, vs, World.ownsRow_nil], by simp [blL, Cl.bl, laysC, blk], rfl, h⟩
end Go.Proofs.Ytkpcjjnaocdelaa
