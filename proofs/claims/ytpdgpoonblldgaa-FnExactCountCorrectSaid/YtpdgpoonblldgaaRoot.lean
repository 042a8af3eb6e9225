/-
  What a square root is, narrowed: the same for the program and for its model. Conditions: none.
-/
import Derived.Test.YtpdgpoonblldgaaSums
import Derived.Test.YtpdgpoonblldgaaBound
namespace Go.Proofs.Ytpdgpoonblldgaa
open Go.RowKit

theorem run_msqrt (x : Nat) (w : World) : (callFunc 191 #[.float .f64 x]).run Try.prog w = .ok (.value (.float .f64 (sqv x w))) (w.drewN (sqd x)) := by
  rw [run_callFunc_extern Try.func191 (by kernel_rfl) (by kernel_rfl) (by kernel_rfl) (e := Extern.MathSqrt.sqrt) (by kernel_rfl), run_sqrt]
  rfl
attribute [local go_sem] run_msqrt

theorem canon_root (x : Nat) (w1 w2 w3 : World) : canon .f32 (narrow (sqv (wide x w1) w2) w3) = cnarrow (csq (cwide (canon .f32 x))) := by
  rw [canon_narrow w3 (tooBig_root x w1 w2), canon_sqv, canon_wide]

theorem c_iNarrow (x : Nat) (w : World) : Calls Try.prog 236 #[.float .f64 x] w fun e w' => e = .returned (.float .f32 (narrow x w)) ∧ Drawn w w' := by
  go_enter Try.func236, Try.ntmps236
  go_wp2
  go_ret
  exact ⟨rfl, Drawn.mk _ _⟩
theorem c_l01Narrow (x : Nat) (w : World) : Calls Try.prog 175 #[.float .f64 x] w fun e w' => e = .returned (.float .f32 (narrow x w)) ∧ Drawn w w' := by
  go_enter Try.func175, Try.ntmps175
  go_wp2
  go_ret
  exact ⟨rfl, Drawn.mk _ _⟩
theorem c_iRootNumber (x : Nat) (w : World) : Calls Try.prog 247 #[.float .f32 x] w (RetF .f32 (cnarrow (csq (cwide (canon .f32 x)))) w) := by
  go_enter Try.func247, Try.ntmps247
  go_wp2
  go_ret
  exact ⟨_, _, canon_root x _ _ _, narrow_lt _ _, rfl, rfl⟩
theorem c_l01Sqrt (x : Nat) (w : World) : Calls Try.prog 173 #[.float .f32 x] w (RetF .f32 (cnarrow (csq (cwide (canon .f32 x)))) w) := by
  go_enter Try.func173, Try.ntmps173
  go_wp2
  go_ret
  exact ⟨_, _, canon_root x _ _ _, narrow_lt _ _, rfl, rfl⟩
end Go.Proofs.Ytpdgpoonblldgaa
