/-
  StoreTraining and StoredSize: what they say of equal states. Conditions: the states are equal.
-/
import Derived.Test.YtpobdigmjfapbaaDoorStv
import Derived.Test.YtpobdigmjfapbaaDoorStu
import Derived.Test.YtpobdigmjfapbaaDoorMku
namespace Go.Proofs.YtpobdigmjfapbaaDoor
open Go.RowKit Go.Deep Go.WideShapes Go.ChangeShapes
set_option linter.unusedVariables false

theorem layB_can (p : LayP) : layB p.can = layB p := by
  simp [layB, LayP.can, nb_canon]
theorem storeB_of {r q : TrsA} (h : TrsEq r q) : storeB r = storeB q := by
  have h1 := h.ls
  have h2 := h.ss
  have e1 : r.ps.length = q.ps.length := by
    have := congrArg List.length h1
    simpa [TrsA.ps] using this
  have e2 : r.zs.length = q.zs.length := by
    have := congrArg List.length h2
    simpa [TrsA.zs] using this
  have a1 : ∀ x : TrsA, laysB x.ps x.ps.length = (x.ls.map (fun y => y.p.can)).flatMap layB := fun x => by
    unfold laysB
    rw [List.take_length, TrsA.ps, List.flatMap_map, List.flatMap_map]
    congr 1
    funext y
    rw [layB_can]
  have a2 : ∀ x : TrsA, slotsB x.zs x.zs.length = (x.ss.map (fun y => y.z.map (canon .f32))).flatMap nb := fun x => by
    unfold slotsB
    rw [List.take_length, TrsA.zs, List.flatMap_map, List.flatMap_map]
    congr 1
    funext y
    rw [nb_canon]
  have e3 : endB r = endB q := by
    obtain ⟨_, _, c, d, e⟩ := h
    unfold endB
    rw [c, d, ← nb_canon [r.sc], ← nb_canon [q.sc]]
    simp only [List.map_cons, List.map_nil, e]
  have e4 : coreB r = coreB q := by
    unfold coreB headB
    rw [a1, a1, a2, a2, h1, h2, e1, e2, e3]
  unfold storeB
  rw [e4]
theorem vStoreTraining_of {r q : TrsA} (h : TrsEq r q) : vStoreTraining r = vStoreTraining q := by
  unfold vStoreTraining
  rw [stbB_of h, storeB_of h]
theorem vStoredSize_of {r q : TrsA} (h : TrsEq r q) : vStoredSize r = vStoredSize q := by
  unfold vStoredSize
  rw [stbB_of h, storeB_of h]
end Go.Proofs.YtpobdigmjfapbaaDoor
