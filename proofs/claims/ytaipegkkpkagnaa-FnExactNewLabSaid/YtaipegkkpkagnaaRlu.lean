/-
  What the program's relu makes of a number. Conditions: none.
-/
import Derived.Test.YtaipegkkpkagnaaGix
import Derived.Test.YtaipegkkpkagnaaKey
namespace Go.Proofs.Ytaipegkkpkagnaa
open Go.RowKit Go.Deep Go.WideShapes Go.ChangeShapes

/-- what is greater than 0, on one pattern for not-a-numbers -/
def creluL (x : Nat) : Nat := if (FloatKind.f32.format.order x 0 == some .lt || FloatKind.f32.format.order x 0 == some .eq) = true then 0 else canon .f32 x
theorem creluL_zero {x : Nat} (h : (FloatKind.f32.format.order x 0 == some .lt || FloatKind.f32.format.order x 0 == some .eq) = true) : canon .f32 0 = creluL x := by unfold creluL; rw [if_pos h]; exact canon_zero
theorem creluL_keep {x : Nat} (h : (FloatKind.f32.format.order x 0 == some .lt || FloatKind.f32.format.order x 0 == some .eq) = false) : canon .f32 x = creluL x := by unfold creluL; rw [if_neg (by rw [h]; decide)]
theorem wide_nanL (b : Nat) (w : World) : isNan .f64 (wide b w) = isNan .f32 b := by
  rw [← isNan_canon, canon_wide]
  unfold cwide
  rw [isNan_canon]
  cases h : isNan .f32 b with
  | true => rw [if_pos rfl]; exact isNan_qnan .f64
  | false =>
    rw [if_neg (by decide), canon_num h]
    exact write_num _ _ (by simpa [isNan, FloatKind.format] using h)
theorem wide_neL (b : Nat) (w : World) : (FloatKind.f64.format.order (wide b w) (wide b w) != some .eq) = isNan .f32 b := (order_self_ne .f64 _).trans (wide_nanL b w)
end Go.Proofs.Ytaipegkkpkagnaa
