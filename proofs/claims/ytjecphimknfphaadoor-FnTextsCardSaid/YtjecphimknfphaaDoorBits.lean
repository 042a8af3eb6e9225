/-
  What the functions on the bits of one number return. Conditions: the numbers fit their kinds.
-/
import Derived.Test.YtjecphimknfphaaDoorExt
namespace Go.Proofs.YtjecphimknfphaaDoor
open Go.RowKit

theorem c_l01Bits (x : Nat) (hx : x < 4294967296) (w : World) : Calls Tryd.prog 49 #[.float .f32 x] w fun e w' => e = .returned (.int .i64 (canon .f32 x)) ∧ w = w' := by
  by_cases hn : isNan .f32 x = true
  · have ho : (FloatKind.f32.format.order x x != some .eq) = true := by rw [order_self_ne]; exact hn
    have hc := Lib.hid (canon_nan hn)
    clear hn
    go_enter Tryd.func49, Tryd.ntmps49
    go_wp2
    go_ret
    exact ⟨ret_i (by rw [hc.out]; rfl), rfl⟩
  · have hn : isNan .f32 x = false := by simpa using hn
    have ho : (FloatKind.f32.format.order x x != some .eq) = false := by rw [order_self_ne]; exact hn
    have hc := Lib.hid (canon_num hn)
    clear hn
    go_enter Tryd.func49, Tryd.ntmps49
    go_wp2
    go_ret
    exact ⟨ret_i (by rw [hc.out]), rfl⟩

theorem b_clear (x : Nat) (h : x < 4294967296) : bits .andNot .u32 (x : Int) 2147483648 = ((x % 2147483648 : Nat) : Int) := by
  have := u32_andNot_nat x 2147483648 h (by decide)
  rw [show (4294967295 - 2147483648 : Nat) = 2147483647 from rfl, and_31] at this
  exact this

theorem c_iBitsOf (x : Nat) (hx : x < 4294967296) (w : World) : Calls Tryd.prog 32 #[.float .f32 x] w fun e w' => e = .returned (.int .i64 (canon .f32 x)) ∧ w = w' := by
  have hb := b_clear x hx
  by_cases hn : 2139095040 < x % 2147483648
  · have hc := Lib.hid (canon_nan (k := .f32) (b := x) (by rw [isNan32]; simpa using hn))
    go_enter Tryd.func32, Tryd.ntmps32
    go_wp2
    go_ret
    exact ⟨ret_i (by rw [hc.out]; rfl), rfl⟩
  · have hc := Lib.hid (canon_num (k := .f32) (b := x) (by rw [isNan32]; simpa using hn))
    go_enter Tryd.func32, Tryd.ntmps32
    go_wp2
    go_ret
    exact ⟨ret_i (by rw [hc.out]), rfl⟩

theorem c_l01Same (x y : Nat) (hx : x < 4294967296) (hy : y < 4294967296) (w : World) : Calls Tryd.prog 36 #[.float .f32 x, .float .f32 y] w fun e w' => e = .returned (.bool ((canon .f32 x : Int) == (canon .f32 y : Int))) ∧ w = w' := by
  go_enter Tryd.func36, Tryd.ntmps36
  go_wp2_with (go_at_call 49; refine (c_l01Bits _ (by assumption) _).mono ?_; rintro e w' ⟨rfl, rfl⟩)
  go_ret
  exact ⟨rfl, rfl⟩
theorem c_sSameNumber (x y : Nat) (hx : x < 4294967296) (hy : y < 4294967296) (w : World) : Calls Tryd.prog 19 #[.float .f32 x, .float .f32 y] w fun e w' => e = .returned (.bool ((canon .f32 x : Int) == (canon .f32 y : Int))) ∧ w = w' := by
  go_enter Tryd.func19, Tryd.ntmps19
  go_wp2_with (go_at_call 36; refine (c_l01Same _ _ (by assumption) (by assumption) _).mono ?_; rintro e w' ⟨rfl, rfl⟩)
  go_ret
  exact ⟨rfl, rfl⟩

/-- the world after some draws -/
def Drawn (w w' : World) : Prop := ∃ n, w' = w.drewN n
theorem Drawn.refl (w : World) : Drawn w w := ⟨0, rfl⟩
theorem Drawn.below {w w' : World} (h : Drawn w w') : Below w.heap.size w w' := by
  obtain ⟨n, rfl⟩ := h
  exact below_drewN (Below.refl _ _) n
theorem Drawn.mk (w : World) (n : Nat) : Drawn w (w.drewN n) := ⟨n, rfl⟩


/-- the law's test of one result that is a 32-bit number: taken as 64-bit ones, both are the same -/
theorem cwide_same {a b : Nat} (w w' : World) (h : canon .f32 a = canon .f32 b) : canon .f64 (wide a w) = canon .f64 (wide b w') := by rw [canon_wide, canon_wide, h]

theorem wrap_qnan : wrap64 ((qnan .f64 : Nat) : Int) = 9221120237041090560 := by decide +kernel

theorem c_l01From (n : Nat) (h : n < 4294967296) (w : World) : Calls Tryd.prog 39 #[.int .i64 n] w fun e w' => e = .returned (.float .f32 n) ∧ w = w' := by
  go_enter Tryd.func39, Tryd.ntmps39
  go_wp2
  go_ret
  exact ⟨rfl, rfl⟩
end Go.Proofs.YtjecphimknfphaaDoor
