/-
  What the float functions of the library that have no Go text give: their bits and back. Conditions: none.
-/
import Derived.Test.YtpfbhckmpkiijaaDoorOpen
import Derived.KernelRfl
import Derived.Lib.Hide
import Derived.Outline
import Derived.LoopTactic
import Derived.WalkSpells
import Derived.WalkLawsBesides
namespace Go.Proofs.YtpfbhckmpkiijaaDoor
open Go.RowKit

theorem lt32 {x : Nat} (h : (Lit.float .f32 x).wf = true) : x < 4294967296 := by simpa [Lit.wf] using h
theorem lt64 {x : Nat} (h : (Lit.float .f64 x).wf = true) : x < 18446744073709551616 := by simpa [Lit.wf] using h
theorem ret_i {k : IntKind} {a b : Int} (h : a = b) : Ending.returned (.int k a) = .returned (.int k b) := by rw [h]
theorem ret_b {a b : Bool} (h : a = b) : Ending.returned (.bool a) = .returned (.bool b) := by rw [h]
theorem ret_f {k : FloatKind} {a b : Nat} (h : a = b) : Ending.returned (.float k a) = .returned (.float k b) := by rw [h]

@[go_sem] theorem x_f32bits (x : Nat) (w : World) : (callFunc 50 #[.float .f32 x]).run Tryd.prog w = .ok (.value (.int .u32 x)) w := by kernel_rfl
@[go_sem] theorem x_f32from (n : Int) (w : World) : (callFunc 57 #[.int .u32 n]).run Tryd.prog w = .ok (.value (.float .f32 n.toNat)) w := by kernel_rfl
/-- a conversion from 32 to 64 bits -/
@[go_sem] theorem x_widen (b : Nat) (w : World) : (convert 34 47 (.float .f32 b)).run Tryd.prog w = .ok (.float .f64 (wide b w)) (w.drewN (wideDr b)) := run_widen w _ _ b Tryd.underlying34 Tryd.underlying47
/-- a conversion from 64 to 32 bits -/
@[go_sem] theorem x_narrow (b : Nat) (w : World) : (convert 47 34 (.float .f64 b)).run Tryd.prog w = .ok (.float .f32 (narrow b w)) (w.drewN (narrowDr b)) := run_narrow w _ _ b Tryd.underlying47 Tryd.underlying34
end Go.Proofs.YtpfbhckmpkiijaaDoor
