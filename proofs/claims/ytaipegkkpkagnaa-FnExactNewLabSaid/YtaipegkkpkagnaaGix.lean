/-
  The index of the greatest number of a list. Conditions: the numbers can be read.
-/
import Derived.Test.YtaipegkkpkagnaaFun
namespace Go.Proofs.Ytaipegkkpkagnaa
open Go.RowKit Go.Deep Go.WideShapes Go.ChangeShapes

/-- the index of the greatest of the first k numbers -/
def gixF (f : Nat → Nat) : Nat → Nat
  | 0 => 0
  | k + 1 => if (FloatKind.f32.format.order (f k) (f (gixF f k)) == some .gt) = true then k else gixF f k
theorem gixF_le (f : Nat → Nat) (k : Nat) : gixF f k ≤ k := by
  induction k with
  | zero => exact Nat.le_refl _
  | succ k ih => unfold gixF; split <;> omega
theorem gixF_lt (f : Nat → Nat) {k : Nat} (h : 1 ≤ k) : gixF f k < k := by
  cases k with
  | zero => omega
  | succ k => unfold gixF; have := gixF_le f k; split <;> omega
theorem gixF_yes {f : Nat → Nat} {k : Nat} (h : (FloatKind.f32.format.order (f k) (f (gixF f k)) == some .gt) = true) : gixF f (k + 1) = k := by show (if _ then _ else _) = _; rw [if_pos h]
theorem gixF_no {f : Nat → Nat} {k : Nat} (h : (FloatKind.f32.format.order (f k) (f (gixF f k)) == some .gt) = false) : gixF f (k + 1) = gixF f k := by show (if _ then _ else _) = _; rw [if_neg (by rw [h]; decide)]
theorem gixF_congr {f g : Nat → Nat} {n : Nat} (h : ∀ k, k < n → f k = g k) : gixF f n = gixF g n := by
  induction n with
  | zero => rfl
  | succ k ih =>
    have hk := ih (fun j hj => h j (by omega))
    have e1 : f k = g k := h k (by omega)
    have e2 : f (gixF f k) = g (gixF f k) := h _ (by have := gixF_le f k; omega)
    show (if _ then _ else _) = (if _ then _ else _)
    rw [e1, e2, hk]
theorem order_self_gt (x : Nat) : (FloatKind.f32.format.order x x == some .gt) = false := by
  have h := order_self_ne .f32 x
  cases ho : FloatKind.f32.format.order x x with
  | none => rfl
  | some c =>
    cases hn : isNan .f32 x with
    | true => rw [order_isNan_l _ hn] at ho; cases ho
    | false =>
      rw [hn, ho] at h
      cases c <;> first | rfl | (simp at h)
theorem gixF_one (f : Nat → Nat) : gixF f 1 = 0 := gixF_no (order_self_gt _)
end Go.Proofs.Ytaipegkkpkagnaa
