/-
  What the functions on the bits of one number return. Conditions: the numbers fit their kinds.
-/
import Derived.Test.YtpfbhckmpkiijaaDoorExt
namespace Go.Proofs.YtpfbhckmpkiijaaDoor
open Go.RowKit

theorem c_l01Bits (x : Nat) (hx : x < 4294967296) (w : World) : Calls Tryd.prog 42 #[.float .f32 x] w fun e w' => e = .returned (.int .i64 (canon .f32 x)) ∧ w = w' := by
  by_cases hn : isNan .f32 x = true
  · have ho : (FloatKind.f32.format.order x x != some .eq) = true := by rw [order_self_ne]; exact hn
    have hc := Lib.hid (canon_nan hn)
    clear hn
    go_enter Tryd.func42, Tryd.ntmps42
    go_wp2
    go_ret
    exact ⟨ret_i (by rw [hc.out]; rfl), rfl⟩
  · have hn : isNan .f32 x = false := by simpa using hn
    have ho : (FloatKind.f32.format.order x x != some .eq) = false := by rw [order_self_ne]; exact hn
    have hc := Lib.hid (canon_num hn)
    clear hn
    go_enter Tryd.func42, Tryd.ntmps42
    go_wp2
    go_ret
    exact ⟨ret_i (by rw [hc.out]), rfl⟩

theorem b_clear (x : Nat) (h : x < 4294967296) : bits .andNot .u32 (x : Int) 2147483648 = ((x % 2147483648 : Nat) : Int) := by
  have := u32_andNot_nat x 2147483648 h (by decide)
  rw [show (4294967295 - 2147483648 : Nat) = 2147483647 from rfl, and_31] at this
  exact this

theorem c_iBitsOf (x : Nat) (hx : x < 4294967296) (w : World) : Calls Tryd.prog 14 #[.float .f32 x] w fun e w' => e = .returned (.int .i64 (canon .f32 x)) ∧ w = w' := by
  have hb := b_clear x hx
  by_cases hn : 2139095040 < x % 2147483648
  · have hc := Lib.hid (canon_nan (k := .f32) (b := x) (by rw [isNan32]; simpa using hn))
    go_enter Tryd.func14, Tryd.ntmps14
    go_wp2
    go_ret
    exact ⟨ret_i (by rw [hc.out]; rfl), rfl⟩
  · have hc := Lib.hid (canon_num (k := .f32) (b := x) (by rw [isNan32]; simpa using hn))
    go_enter Tryd.func14, Tryd.ntmps14
    go_wp2
    go_ret
    exact ⟨ret_i (by rw [hc.out]), rfl⟩

theorem c_iSameNumber (x y : Nat) (hx : x < 4294967296) (hy : y < 4294967296) (w : World) : Calls Tryd.prog 15 #[.float .f32 x, .float .f32 y] w fun e w' => e = .returned (.bool ((canon .f32 x : Int) == (canon .f32 y : Int))) ∧ w = w' := by
  go_enter Tryd.func15, Tryd.ntmps15
  go_wp2_with (go_at_call 14; refine (c_iBitsOf _ (by assumption) _).mono ?_; rintro e w' ⟨rfl, rfl⟩)
  go_ret
  exact ⟨rfl, rfl⟩

/-- the world after some draws -/
def Drawn (w w' : World) : Prop := ∃ n, w' = w.drewN n
theorem Drawn.refl (w : World) : Drawn w w := ⟨0, rfl⟩
theorem Drawn.below {w w' : World} (h : Drawn w w') : Below w.heap.size w w' := by
  obtain ⟨n, rfl⟩ := h
  exact below_drewN (Below.refl _ _) n
theorem Drawn.mk (w : World) (n : Nat) : Drawn w (w.drewN n) := ⟨n, rfl⟩

theorem c_sameFloat (a b : Nat) (h : canon .f64 a = canon .f64 b) (w : World) : Calls Tryd.prog 25 #[.float .f64 a, .float .f64 b] w fun e w' => e = .returned (.bool true) ∧ Drawn w w' := by
  by_cases hn : isNan .f64 a = true
  · have hm : isNan .f64 b = true := by rw [← isNan_canon, ← h, isNan_canon]; exact hn
    have h1 : (FloatKind.f64.format.order a a != some .eq) = true := by rw [order_self_ne]; exact hn
    have h2 : (FloatKind.f64.format.order b b != some .eq) = true := by rw [order_self_ne]; exact hm
    clear h hn hm
    go_enter Tryd.func25, Tryd.ntmps25
    go_wp2
    go_ret
    exact ⟨rfl, Drawn.refl _⟩
  · have hn : isNan .f64 a = false := by simpa using hn
    have hm : isNan .f64 b = false := by rw [← isNan_canon, ← h, isNan_canon]; exact hn
    obtain rfl : a = b := by rw [canon_num hn, canon_num hm] at h; exact h
    have h1 : (FloatKind.f64.format.order a a != some .eq) = false := by rw [order_self_ne]; exact hn
    have h2 : (FloatKind.f64.format.order a a == some .eq) = true := by rw [order_self, hn]; rfl
    clear h hn hm
    by_cases hz : (FloatKind.f64.format.order a 0 == some .eq) = true
    · go_enter Tryd.func25, Tryd.ntmps25
      go_wp2
      go_ret
      refine ⟨ret_b ?_, Drawn.mk _ _⟩
      simp only [order_fval_l]
      simp
    · have hz : (FloatKind.f64.format.order a 0 == some .eq) = false := by simpa using hz
      go_enter Tryd.func25, Tryd.ntmps25
      go_wp2
      go_ret
      exact ⟨rfl, Drawn.refl _⟩

/-- the law's test of one result that is a 32-bit number: taken as 64-bit ones, both are the same -/
theorem cwide_same {a b : Nat} (w w' : World) (h : canon .f32 a = canon .f32 b) : canon .f64 (wide a w) = canon .f64 (wide b w') := by rw [canon_wide, canon_wide, h]

theorem wrap_qnan : wrap64 ((qnan .f64 : Nat) : Int) = 9221120237041090560 := by decide +kernel

theorem c_l01From (n : Nat) (h : n < 4294967296) (w : World) : Calls Tryd.prog 39 #[.int .i64 n] w fun e w' => e = .returned (.float .f32 n) ∧ w = w' := by
  go_enter Tryd.func39, Tryd.ntmps39
  go_wp2
  go_ret
  exact ⟨rfl, rfl⟩
end Go.Proofs.YtpfbhckmpkiijaaDoor
