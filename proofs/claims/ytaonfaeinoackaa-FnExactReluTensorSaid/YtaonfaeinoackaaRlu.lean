/-
  What the program's relu makes of a number. Conditions: none.
-/
import Derived.Test.YtaonfaeinoackaaGix
import Derived.Test.YtaonfaeinoackaaKey
namespace Go.Proofs.Ytaonfaeinoackaa
open Go.RowKit Go.Deep Go.WideShapes Go.ChangeShapes

/-- what is greater than 0, on one pattern for not-a-numbers -/
def creluL (x : Nat) : Nat := if (FloatKind.f32.format.order x 0 == some .lt || FloatKind.f32.format.order x 0 == some .eq) = true then 0 else canon .f32 x
theorem creluL_zero {x : Nat} (h : (FloatKind.f32.format.order x 0 == some .lt || FloatKind.f32.format.order x 0 == some .eq) = true) : canon .f32 0 = creluL x := by unfold creluL; rw [if_pos h]; exact canon_zero
theorem creluL_keep {x : Nat} (h : (FloatKind.f32.format.order x 0 == some .lt || FloatKind.f32.format.order x 0 == some .eq) = false) : canon .f32 x = creluL x := by unfold creluL; rw [if_neg (by rw [h]; decide)]
theorem wide_nanL (b : Nat) (w : World) : isNan .f64 (wide b w) = isNan .f32 b := by
  rw [← isNan_canon, canon_wide]
  unfold cwide
  rw [isNan_canon]
  cases h : isNan .f32 b with
  | true => rw [if_pos rfl]; exact isNan_qnan .f64
  | false =>
    rw [if_neg (by decide), canon_num h]
    exact write_num _ _ (by simpa [isNan, FloatKind.format] using h)
theorem wide_neL (b : Nat) (w : World) : (FloatKind.f64.format.order (wide b w) (wide b w) != some .eq) = isNan .f32 b := (order_self_ne .f64 _).trans (wide_nanL b w)
theorem c_reluL (x : Nat) (hx : x < 4294967296) (w : World) : Calls Try.prog 76 #[.float .f32 x] w fun e w' => (∃ v, e = .returned (.float .f32 v) ∧ canon .f32 v = creluL x ∧ v < 2 ^ 32) ∧ Below w.heap.size w w' := by
  have hb := b_clear x hx
  by_cases hn : 2139095040 < x % 2147483648
  · have hnn : isNan .f32 x = true := by rw [isNan32]; simpa using hn
    have ho : (FloatKind.f32.format.order x 0 == some .gt) = false := by rw [order_isNan_l _ hnn]; rfl
    have hc := Lib.hid (creluL_keep (x := x) (by rw [order_isNan_l _ hnn]; rfl))
    have hw := wide_neL x w
    rw [hnn] at hw
    clear hnn
    go_enter Try.func76, Try.ntmps76
    go_wp2
    go_ret
    exact ⟨⟨x, rfl, hc.out, hx⟩, by first | exact Below.refl _ _ | exact below_drewN (Below.refl _ _) _⟩
  · have hnn : isNan .f32 x = false := by rw [isNan32]; simpa using hn
    have hor := order_zero hx hnn
    by_cases hgt : (FloatKind.f32.format.order x 0 == some .gt) = true
    · have hc := Lib.hid (creluL_keep (x := x) (by have e : FloatKind.f32.format.order x 0 = some .gt := (by simpa using hgt); rw [e]; rfl))
      have hw := wide_neL x w
      rw [hnn] at hw
      clear hnn hor
      go_enter Try.func76, Try.ntmps76
      go_wp2
      go_ret
      exact ⟨⟨x, rfl, hc.out, hx⟩, by first | exact Below.refl _ _ | exact below_drewN (Below.refl _ _) _⟩
    · have hgt : (FloatKind.f32.format.order x 0 == some .gt) = false := by simpa using hgt
      have hc := Lib.hid (creluL_zero (x := x) (by
        rw [hor] at hgt ⊢
        split at hgt
        · rename_i h; rw [if_pos h]; rfl
        · rename_i h
          rw [if_neg h]
          split at hgt
          · cases hgt
          · rename_i h2; rw [if_neg h2]; rfl))
      have hw := wide_neL x w
      rw [hnn] at hw
      clear hnn hor
      go_enter Try.func76, Try.ntmps76
      go_wp2
      go_ret
      exact ⟨⟨0, rfl, hc.out, by decide⟩, by first | exact Below.refl _ _ | exact below_drewN (Below.refl _ _) _⟩
end Go.Proofs.Ytaonfaeinoackaa
