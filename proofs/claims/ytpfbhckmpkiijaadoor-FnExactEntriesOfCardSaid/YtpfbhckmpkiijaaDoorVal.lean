/-
  Which tensors are valid: what the tests of the shape return. Conditions: the tensor's cells can be read.
-/
import Derived.Test.YtpfbhckmpkiijaaDoorTens
namespace Go.Proofs.YtpfbhckmpkiijaaDoor
open Go.RowKit

def sideB (n : Int) : Bool := decide (1 ≤ n) && decide (n ≤ 16)
theorem sideB_iff (n : Int) : sideB n = true ↔ 1 ≤ n ∧ n ≤ 16 := by simp [sideB]
theorem sideB_no (n : Int) : sideB n = false ↔ n < 1 ∨ 16 < n := by
  by_cases h : sideB n = true
  · rw [h]; rw [sideB_iff] at h; simp; omega
  · have h' : sideB n = false := by simpa using h
    rw [sideB_iff] at h; rw [h']; simp; omega
def vokB (r c : Int) (n : Nat) : Bool := (sideB r && sideB c) && decide ((n : Int) = r * c)
theorem mul_small {r c : Int} (h1 : 1 ≤ r) (h2 : r ≤ 16) (h3 : 1 ≤ c) (h4 : c ≤ 16) : 1 ≤ r * c ∧ r * c ≤ 256 := by
  have a : r * c ≤ 16 * c := Int.mul_le_mul_of_nonneg_right h2 (by omega)
  have b : 1 * c ≤ r * c := Int.mul_le_mul_of_nonneg_right h1 (by omega)
  omega
theorem vokB_iff (r c : Int) (n : Nat) : vokB r c n = true ↔ (1 ≤ r ∧ r ≤ 16) ∧ (1 ≤ c ∧ c ≤ 16) ∧ (n : Int) = r * c := by
  simp [vokB, sideB_iff, and_assoc]

end Go.Proofs.YtpfbhckmpkiijaaDoor
