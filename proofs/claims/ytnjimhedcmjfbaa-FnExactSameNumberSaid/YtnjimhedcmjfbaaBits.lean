/-
  What the functions on the bits of one number return. Conditions: the numbers fit their kinds.
-/
import Derived.Test.YtnjimhedcmjfbaaExt
namespace Go.Proofs.Ytnjimhedcmjfbaa
open Go.RowKit

theorem c_l01Bits (x : Nat) (hx : x < 4294967296) (w : World) : Calls Try.prog 65 #[.float .f32 x] w fun e w' => e = .returned (.int .i64 (canon .f32 x)) ∧ w = w' := by
  by_cases hn : isNan .f32 x = true
  · have ho : (FloatKind.f32.format.order x x != some .eq) = true := by rw [order_self_ne]; exact hn
    have hc := Lib.hid (canon_nan hn)
    clear hn
    go_enter Try.func65, Try.ntmps65
    go_wp2
    go_ret
    exact ⟨ret_i (by rw [hc.out]; rfl), rfl⟩
  · have hn : isNan .f32 x = false := by simpa using hn
    have ho : (FloatKind.f32.format.order x x != some .eq) = false := by rw [order_self_ne]; exact hn
    have hc := Lib.hid (canon_num hn)
    clear hn
    go_enter Try.func65, Try.ntmps65
    go_wp2
    go_ret
    exact ⟨ret_i (by rw [hc.out]), rfl⟩

theorem b_clear (x : Nat) (h : x < 4294967296) : bits .andNot .u32 (x : Int) 2147483648 = ((x % 2147483648 : Nat) : Int) := by
  have := u32_andNot_nat x 2147483648 h (by decide)
  rw [show (4294967295 - 2147483648 : Nat) = 2147483647 from rfl, and_31] at this
  exact this

theorem c_iBitsOf (x : Nat) (hx : x < 4294967296) (w : World) : Calls Try.prog 17 #[.float .f32 x] w fun e w' => e = .returned (.int .i64 (canon .f32 x)) ∧ w = w' := by
  have hb := b_clear x hx
  by_cases hn : 2139095040 < x % 2147483648
  · have hc := Lib.hid (canon_nan (k := .f32) (b := x) (by rw [isNan32]; simpa using hn))
    go_enter Try.func17, Try.ntmps17
    go_wp2
    go_ret
    exact ⟨ret_i (by rw [hc.out]; rfl), rfl⟩
  · have hc := Lib.hid (canon_num (k := .f32) (b := x) (by rw [isNan32]; simpa using hn))
    go_enter Try.func17, Try.ntmps17
    go_wp2
    go_ret
    exact ⟨ret_i (by rw [hc.out]), rfl⟩

theorem c_l01Same (x y : Nat) (hx : x < 4294967296) (hy : y < 4294967296) (w : World) : Calls Try.prog 62 #[.float .f32 x, .float .f32 y] w fun e w' => e = .returned (.bool ((canon .f32 x : Int) == (canon .f32 y : Int))) ∧ w = w' := by
  go_enter Try.func62, Try.ntmps62
  go_wp2_with (go_at_call 65; refine (c_l01Bits _ (by assumption) _).mono ?_; rintro e w' ⟨rfl, rfl⟩)
  go_ret
  exact ⟨rfl, rfl⟩
theorem c_sSameNumber (x y : Nat) (hx : x < 4294967296) (hy : y < 4294967296) (w : World) : Calls Try.prog 23 #[.float .f32 x, .float .f32 y] w fun e w' => e = .returned (.bool ((canon .f32 x : Int) == (canon .f32 y : Int))) ∧ w = w' := by
  go_enter Try.func23, Try.ntmps23
  go_wp2_with (go_at_call 62; refine (c_l01Same _ _ (by assumption) (by assumption) _).mono ?_; rintro e w' ⟨rfl, rfl⟩)
  go_ret
  exact ⟨rfl, rfl⟩
theorem c_iSameNumber (x y : Nat) (hx : x < 4294967296) (hy : y < 4294967296) (w : World) : Calls Try.prog 19 #[.float .f32 x, .float .f32 y] w fun e w' => e = .returned (.bool ((canon .f32 x : Int) == (canon .f32 y : Int))) ∧ w = w' := by
  go_enter Try.func19, Try.ntmps19
  go_wp2_with (go_at_call 17; refine (c_iBitsOf _ (by assumption) _).mono ?_; rintro e w' ⟨rfl, rfl⟩)
  go_ret
  exact ⟨rfl, rfl⟩
end Go.Proofs.Ytnjimhedcmjfbaa
