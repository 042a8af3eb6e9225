/-
  What the float functions of the library that have no Go text give: their bits and back. Conditions: none.
-/
import Derived.Test.YtlddonneccihiaaOpen
import Derived.KernelRfl
import Derived.Lib.Hide
import Derived.Outline
import Derived.LoopTactic
import Derived.WalkSpells
import Derived.WalkLawsBesides
namespace Go.Proofs.Ytlddonneccihiaa
open Go.RowKit

theorem lt32 {x : Nat} (h : (Lit.float .f32 x).wf = true) : x < 4294967296 := by simpa [Lit.wf] using h
theorem lt64 {x : Nat} (h : (Lit.float .f64 x).wf = true) : x < 18446744073709551616 := by simpa [Lit.wf] using h
theorem ret_i {k : IntKind} {a b : Int} (h : a = b) : Ending.returned (.int k a) = .returned (.int k b) := by rw [h]
theorem ret_b {a b : Bool} (h : a = b) : Ending.returned (.bool a) = .returned (.bool b) := by rw [h]
theorem ret_f {k : FloatKind} {a b : Nat} (h : a = b) : Ending.returned (.float k a) = .returned (.float k b) := by rw [h]

@[go_sem] theorem x_f32bits (x : Nat) (w : World) : (callFunc 72 #[.float .f32 x]).run Try.prog w = .ok (.value (.int .u32 x)) w := by kernel_rfl
/-- a conversion from 32 to 64 bits -/
@[go_sem] theorem x_widen (b : Nat) (w : World) : (convert 26 68 (.float .f32 b)).run Try.prog w = .ok (.float .f64 (wide b w)) (w.drewN (wideDr b)) := run_widen w _ _ b Try.underlying26 Try.underlying68
/-- a conversion from 64 to 32 bits -/
@[go_sem] theorem x_narrow (b : Nat) (w : World) : (convert 68 26 (.float .f64 b)).run Try.prog w = .ok (.float .f32 (narrow b w)) (w.drewN (narrowDr b)) := run_narrow w _ _ b Try.underlying68 Try.underlying26
end Go.Proofs.Ytlddonneccihiaa
