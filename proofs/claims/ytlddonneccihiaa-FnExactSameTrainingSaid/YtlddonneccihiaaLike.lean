/-
  Whether two tensors are valid and have one shape. Conditions: the tensors' cells can be read.
-/
import Derived.Test.YtlddonneccihiaaVal
import Derived.BigRegion
namespace Go.Proofs.Ytlddonneccihiaa
open Go.RowKit

def likeB (r c r' c' : Int) (n n' : Nat) : Bool := (((vokB r c n && vokB r' c' n') && (r == r')) && (c == c'))
theorem likeB_iff (r c r' c' : Int) (n n' : Nat) : likeB r c r' c' n n' = true ↔ vokB r c n = true ∧ vokB r' c' n' = true ∧ r = r' ∧ c = c' := by
  simp [likeB, and_assoc]
/-- two boxes, one after the other -/
theorem two_boxes (w : World) (t : TypeId) (x y : Array Value) : Blk ((w.alloc (.cells x t)).alloc (.cells y t)) w.heap.size t x ∧ Blk ((w.alloc (.cells x t)).alloc (.cells y t)) (w.heap.size + 1) t y ∧ Below w.heap.size w ((w.alloc (.cells x t)).alloc (.cells y t)) := by
  refine ⟨(Blk.new w t x).below ((Below.refl _ _).alloc (Nat.le_refl _) _), ?_, ((Below.refl _ _).alloc (Nat.le_refl _) _).alloc (by simp) _⟩
  have h := Blk.new (w.alloc (.cells x t)) t y
  simp only [World.size_alloc] at h
  exact h
end Go.Proofs.Ytlddonneccihiaa
