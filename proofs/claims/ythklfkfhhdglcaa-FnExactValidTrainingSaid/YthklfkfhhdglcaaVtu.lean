/-
  States of trainings that say the same are valid alike. Conditions: none.
-/
import Derived.Test.YthklfkfhhdglcaaVtr
import Derived.Test.YthklfkfhhdglcaaSmu
namespace Go.Proofs.Ythklfkfhhdglcaa
open Go.RowKit Go.Deep Go.WideShapes Go.ChangeShapes
set_option linter.unusedVariables false

theorem fitS_of {k : Int} {ls ls' : List FlA} {N : Int} (h : ls.map FlA.z = ls'.map FlA.z) : fitS k ls N = fitS k ls' N := by
  have hl : ls.length = ls'.length := by simpa using congrArg List.length h
  have ha : ∀ xs : List FlA, xs.all (lenB N) = (xs.map FlA.z).all (fun z => (z.length : Int) == N) := fun xs => by
    rw [List.all_map]; rfl
  unfold fitS
  rw [hl, ha, ha, h]
theorem vTrs_of (k : Int) {r q : TrsA} (h : TrsEq r q) : vTrs k r = vTrs k q := by
  unfold vTrs
  rw [h.1, h.2.2.1, h.2.2.2.1, fitS_of (show r.ss.map FlA.z = q.ss.map FlA.z from h.2.1)]
end Go.Proofs.Ythklfkfhhdglcaa
