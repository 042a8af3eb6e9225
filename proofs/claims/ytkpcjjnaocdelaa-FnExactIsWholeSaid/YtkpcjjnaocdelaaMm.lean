/-
  What min and max of two floats give, and how a 32-bit number stands to another one. Conditions: as each says.
-/
import Derived.Test.YtkpcjjnaocdelaaExt
import Derived.Test.YtkpcjjnaocdelaaKey
import Derived.BigFrame
namespace Go.Proofs.Ytkpcjjnaocdelaa
open Go.RowKit

def mmv (b : Bool) (k : FloatKind) (x y : Nat) (w : World) : Nat :=
  match k.format.order x y with
  | none => (Question.nanMinMax k b x y).cut (w.tape w.drawn (.nanMinMax k b x y))
  | some .lt => if b then y else x
  | some .gt => if b then x else y
  | some .eq => if (k.decode x).neg then (if b then y else x) else (if b then x else y)
def mmDr (k : FloatKind) (x y : Nat) : Nat := if (k.format.order x y).isSome then 0 else 1
theorem run_max2 {P : Program} (w : World) (k : FloatKind) (x y : Nat) : (Builtin.max2 (.float k x) (.float k y)).run P w = .ok (.float k (mmv true k x y w)) (w.drewN (mmDr k x y)) := by
  unfold Builtin.max2 mmv mmDr
  cases h : k.format.order x y with
  | none => simp [choose, Sem.run, Question.forced, World.drewN, h]
  | some c => cases c <;> simp [h, World.drewN_zero]
theorem run_min2 {P : Program} (w : World) (k : FloatKind) (x y : Nat) : (Builtin.min2 (.float k x) (.float k y)).run P w = .ok (.float k (mmv false k x y w)) (w.drewN (mmDr k x y)) := by
  unfold Builtin.min2 mmv mmDr
  cases h : k.format.order x y with
  | none => simp [choose, Sem.run, Question.forced, World.drewN, h]
  | some c => cases c <;> simp [h, World.drewN_zero]
@[go_sem ↓ high] theorem run_fmax {P : Program} (w : World) (ats : Array TypeId) (ty : TypeId) (k : FloatKind) (x y : Nat) : (Builtin.max_ ats ty #[.float k x, .float k y]).run P w = .ok (.float k (mmv true k x y w)) (w.drewN (mmDr k x y)) := by
  rw [← run_max2 (P := P)]
  simp [Builtin.max_]
@[go_sem ↓ high] theorem run_fmin {P : Program} (w : World) (ats : Array TypeId) (ty : TypeId) (k : FloatKind) (x y : Nat) : (Builtin.min_ ats ty #[.float k x, .float k y]).run P w = .ok (.float k (mmv false k x y w)) (w.drewN (mmDr k x y)) := by
  rw [← run_min2 (P := P)]
  simp [Builtin.min_]

theorem cut_nanMM (b : Bool) (k : FloatKind) (x y t : Nat) : isNan k ((Question.nanMinMax k b x y).cut t) = true ∧ (Question.nanMinMax k b x y).cut t < 2 ^ k.format.width := by
  cases k
  · exact pat32 t
  · exact pat64 t
theorem mmv_nan_l {b : Bool} {k : FloatKind} {x : Nat} (y : Nat) (w : World) (h : isNan k x = true) : isNan k (mmv b k x y w) = true := by
  unfold mmv
  rw [order_isNan_l _ h]
  exact (cut_nanMM b k x y _).1
theorem mmv_nan_r {b : Bool} {k : FloatKind} (x : Nat) {y : Nat} (w : World) (h : isNan k y = true) : isNan k (mmv b k x y w) = true := by
  unfold mmv
  rw [order_isNan_r _ h]
  exact (cut_nanMM b k x y _).1
theorem mmv_lt32 {b : Bool} {x y : Nat} (w : World) (hx : x < 4294967296) (hy : y < 4294967296) : mmv b .f32 x y w < 4294967296 := by
  unfold mmv
  split
  · exact (cut_nanMM b .f32 x y _).2
  · split <;> assumption
  · split <;> assumption
  · (repeat' split) <;> assumption
theorem mmDr_some {k : FloatKind} {x y : Nat} {c : Ordering} (h : k.format.order x y = some c) : mmDr k x y = 0 := by simp [mmDr, h]
theorem mm_lt {b : Bool} {k : FloatKind} {x y : Nat} (w : World) (h : k.format.order x y = some .lt) : mmv b k x y w = if b then y else x := by simp [mmv, h]
theorem mm_gt {b : Bool} {k : FloatKind} {x y : Nat} (w : World) (h : k.format.order x y = some .gt) : mmv b k x y w = if b then x else y := by simp [mmv, h]
theorem mm_same {b : Bool} {k : FloatKind} {x : Nat} (w : World) (h : isNan k x = false) : mmv b k x x w = x := by
  unfold mmv
  rw [order_refl h]
  simp

/-! 32-bit numbers as integers that rise with them -/
def k32 (x : Nat) : Int := if x < 2147483648 then (x : Int) else -((x - 2147483648 : Nat) : Int)
theorem key_k32 {x : Nat} (h : x < 4294967296) : key Ieee.single x = k32 x := by
  unfold key k32
  rw [single_sw]
  by_cases h1 : x < 2147483648
  · have e1 : x / 2147483648 % 2 = 0 := by omega
    rw [if_pos h1, e1, Nat.mod_eq_of_lt h1, if_neg (by decide)]
  · have e1 : x / 2147483648 % 2 = 1 := by omega
    have e2 : x % 2147483648 = x - 2147483648 := by omega
    rw [if_neg h1, e1, e2, if_pos (by decide)]
theorem ord32 {x y : Nat} (hx : x < 4294967296) (hy : y < 4294967296) (nx : isNan .f32 x = false) (ny : isNan .f32 y = false) : FloatKind.f32.format.order x y = some (compare (k32 x) (k32 y)) := by
  rw [← key_k32 hx, ← key_k32 hy]
  exact order_key Ieee.single x y (by rw [single_bin, single_inf]; decide) nx ny
theorem ord_lt {x y : Nat} (hx : x < 4294967296) (hy : y < 4294967296) (nx : isNan .f32 x = false) (ny : isNan .f32 y = false) (h : k32 x < k32 y) : FloatKind.f32.format.order x y = some .lt := by
  rw [ord32 hx hy nx ny, Int.compare_eq_ite_lt, if_pos h]
theorem ord_gt {x y : Nat} (hx : x < 4294967296) (hy : y < 4294967296) (nx : isNan .f32 x = false) (ny : isNan .f32 y = false) (h : k32 y < k32 x) : FloatKind.f32.format.order x y = some .gt := by
  rw [ord32 hx hy nx ny, Int.compare_eq_ite_lt, if_neg (by omega), if_pos h]
theorem ord_eq {x y : Nat} (hx : x < 4294967296) (hy : y < 4294967296) (nx : isNan .f32 x = false) (ny : isNan .f32 y = false) (h : k32 x = k32 y) : FloatKind.f32.format.order x y = some .eq := by
  rw [ord32 hx hy nx ny, Int.compare_eq_ite_lt, if_neg (by omega), if_neg (by omega)]
theorem k32_nn {x : Nat} (h : x < 2147483648) : k32 x = x := if_pos h
theorem k32_neg {x : Nat} (h : 2147483648 ≤ x) : k32 x = -((x - 2147483648 : Nat) : Int) := if_neg (by omega)
theorem num32_of {x : Nat} (h : x ≤ 2139095040) : isNan .f32 x = false := by rw [isNan32]; simp; omega
end Go.Proofs.Ytkpcjjnaocdelaa
