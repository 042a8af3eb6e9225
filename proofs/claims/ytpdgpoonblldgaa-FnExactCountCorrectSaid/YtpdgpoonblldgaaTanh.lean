/-
  What the hyperbolic tangent returns: the same for the program and for its model. Conditions: none.
-/
import Derived.Test.YtpdgpoonblldgaaExp
namespace Go.Proofs.Ytpdgpoonblldgaa
open Go.RowKit

/-- the hyperbolic tangent, on one pattern for not-a-numbers -/
def ctanh (x : Nat) : Nat :=
  if (FloatKind.f32.format.order x 1101004800 == some .gt) = true then 1065353216
  else if (FloatKind.f32.format.order x 3248488448 == some .lt) = true then 3212836864
  else cnarrow (cop .quo .f64 (cop .sub .f64 (cexp (cop .mul .f64 4611686018427387904 (cwide (canon .f32 x)))) 4607182418800017408) (cop .add .f64 (cexp (cop .mul .f64 4611686018427387904 (cwide (canon .f32 x)))) 4607182418800017408))

theorem c_iTanhNumber (x : Nat) (w : World) : Calls Try.prog 234 #[.float .f32 x] w (RetF .f32 (ctanh x) w) := by
  by_cases h1 : (FloatKind.f32.format.order x 1101004800 == some .gt) = true
  · have H := Lib.hid (show ctanh x = 1065353216 by unfold ctanh; rw [if_pos h1])
    go_enter Try.func234, Try.ntmps234
    go_wp2
    go_ret
    exact ⟨1065353216, 0, by rw [H.out]; decide +kernel, by decide, rfl, rfl⟩
  · have h1 : (FloatKind.f32.format.order x 1101004800 == some .gt) = false := by simpa using h1
    by_cases h2 : (FloatKind.f32.format.order x 3248488448 == some .lt) = true
    · have H := Lib.hid (show ctanh x = 3212836864 by unfold ctanh; rw [if_neg (by rw [h1]; decide), if_pos h2])
      go_enter Try.func234, Try.ntmps234
      go_wp2
      go_ret
      exact ⟨3212836864, 0, by rw [H.out]; decide +kernel, by decide, rfl, rfl⟩
    · have h2 : (FloatKind.f32.format.order x 3248488448 == some .lt) = false := by simpa using h2
      have H := Lib.hid (show ctanh x = cnarrow (cop .quo .f64 (cop .sub .f64 (cexp (cop .mul .f64 4611686018427387904 (cwide (canon .f32 x)))) 4607182418800017408) (cop .add .f64 (cexp (cop .mul .f64 4611686018427387904 (cwide (canon .f32 x)))) 4607182418800017408)) by
        unfold ctanh; rw [if_neg (by rw [h1]; decide), if_neg (by rw [h2]; decide)])
      have HI := Lib.hid (tanh_in h1 h2)
      go_enter Try.func234, Try.ntmps234
      go_wp2_with (first | (go_at_call 235; refine (c_expWide _ _ (HI.out _ _)).mono ?_; rintro e w' ⟨r, n, hr, hb, hp, rfl, rfl⟩; have HR := Lib.hid hr; have HB := Lib.hid hb; have HP := Lib.hid hp; clear hr hb hp) | go_in)
      go_ret
      refine ⟨_, _, ?_, narrow_lt _ _, rfl, rfl⟩
      rw [canon_narrow _ (tanh_small HB.out HP.out _ _ _), H.out]
      simp only [canon_fval, HR.out, canon64_one, canon64_two, canon_wide]
theorem c_l01Tanh (x : Nat) (w : World) : Calls Try.prog 149 #[.float .f32 x] w (RetF .f32 (ctanh x) w) := by
  by_cases h1 : (FloatKind.f32.format.order x 1101004800 == some .gt) = true
  · have H := Lib.hid (show ctanh x = 1065353216 by unfold ctanh; rw [if_pos h1])
    go_enter Try.func149, Try.ntmps149
    go_wp2
    go_ret
    exact ⟨1065353216, 0, by rw [H.out]; decide +kernel, by decide, rfl, rfl⟩
  · have h1 : (FloatKind.f32.format.order x 1101004800 == some .gt) = false := by simpa using h1
    by_cases h2 : (FloatKind.f32.format.order x 3248488448 == some .lt) = true
    · have H := Lib.hid (show ctanh x = 3212836864 by unfold ctanh; rw [if_neg (by rw [h1]; decide), if_pos h2])
      go_enter Try.func149, Try.ntmps149
      go_wp2
      go_ret
      exact ⟨3212836864, 0, by rw [H.out]; decide +kernel, by decide, rfl, rfl⟩
    · have h2 : (FloatKind.f32.format.order x 3248488448 == some .lt) = false := by simpa using h2
      have H := Lib.hid (show ctanh x = cnarrow (cop .quo .f64 (cop .sub .f64 (cexp (cop .mul .f64 4611686018427387904 (cwide (canon .f32 x)))) 4607182418800017408) (cop .add .f64 (cexp (cop .mul .f64 4611686018427387904 (cwide (canon .f32 x)))) 4607182418800017408)) by
        unfold ctanh; rw [if_neg (by rw [h1]; decide), if_neg (by rw [h2]; decide)])
      have HI := Lib.hid (tanh_in h1 h2)
      go_enter Try.func149, Try.ntmps149
      go_wp2_with (first | (go_at_call 174; refine (c_l01ExpWide _ _ (HI.out _ _)).mono ?_; rintro e w' ⟨r, n, hr, hb, hp, rfl, rfl⟩; have HR := Lib.hid hr; have HB := Lib.hid hb; have HP := Lib.hid hp; clear hr hb hp) | go_in)
      go_ret
      refine ⟨_, _, ?_, narrow_lt _ _, rfl, rfl⟩
      rw [canon_narrow _ (tanh_small HB.out HP.out _ _ _), H.out]
      simp only [canon_fval, HR.out, canon64_one, canon64_two, canon_wide]
end Go.Proofs.Ytpdgpoonblldgaa
