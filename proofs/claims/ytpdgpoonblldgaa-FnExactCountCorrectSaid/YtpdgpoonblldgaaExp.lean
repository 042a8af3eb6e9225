/-
  What the exponential function in 64 bits and the hyperbolic tangent return: the same for the program and for its model. Conditions: for the exponential function, a number of at most 64, or none.
-/
import Derived.Test.YtpdgpoonblldgaaSums
import Derived.Test.YtpdgpoonblldgaaExpMath
namespace Go.Proofs.Ytpdgpoonblldgaa
open Go.RowKit

def ExpRel1 (t : Nat) (w : World) (p i : Value) (wr : World) : Prop :=
  ∃ j r n : Nat, j ≤ 12 ∧ i = .int .i64 (12 - (j : Int)) ∧ p = .float .f64 r ∧ canon .f64 r = ce1 (canon .f64 t) j ∧ B64 r 1 ∧ wr = w.drewN n
def ExpRel2 (p0 : Nat) (w : World) (p i : Value) (wr : World) : Prop :=
  ∃ j r n : Nat, j ≤ 8 ∧ i = .int .i64 j ∧ p = .float .f64 r ∧ canon .f64 r = csqr (canon .f64 p0) j ∧ B64 r ((2 ^ j : Nat) : Int) ∧ (1 ≤ j → Pos r) ∧ wr = w.drewN n
/-- a 64-bit number is returned whose canonical bits are v, which is at most 2 ^ 256 and has no sign, or is none -/
def RetExp (v : Nat) (w : World) (e : Ending) (w' : World) : Prop := ∃ r n : Nat, canon .f64 r = v ∧ B64 r 256 ∧ Pos r ∧ e = .returned (.float .f64 r) ∧ w' = w.drewN n
set_option maxHeartbeats 1000000 in
theorem c_expWide (x : Nat) (w : World) (hx : B64 x 6) : Calls Try.prog 235 #[.float .f64 x] w (RetExp (cexp (canon .f64 x)) w) := by
  obtain ⟨t1, t2⟩ := in_200 hx
  have HT := Lib.hid (t_bound hx w)
  have HC := Lib.hid (fun w => canon_fval .quo .f64 x 4643211215818981376 w)
  clear hx
  go_enter Try.func235, Try.ntmps235
  go_wp2
  go_loopw [4, 5] (fun p i wr => ExpRel1 (fval .quo .f64 x 4643211215818981376 w) w p i wr) (fun _ i _ => (intOf i).toNat)
  case atStart => exact ⟨0, 4607182418800017408, _, by decide, rfl, rfl, canon64_one, b_one64.mono (by decide), rfl⟩
  case round =>
    obtain ⟨j, r, n, hj, rfl, rfl, hr, hb, rfl⟩ := hrel
    have HR := Lib.hid hr
    have HB := Lib.hid hb
    clear hr hb
    by_cases hlt : j < 12
    · have hk : (1 : Int) ≤ 12 - (j : Int) := by omega
      go_wp2
      go_roundw
      case rel => exact ⟨j + 1, _, _, by omega, by go_num, rfl, ce1_step rfl HR.out _ _ _, ce1_bound HT.out HB.out hlt _ _ _, rfl⟩
      case measure => simp [intOf]; omega
    · obtain rfl : j = 12 := by omega
      go_wp2
      go_loopw [4, 24] (fun p i wr => ExpRel2 r w p i wr) (fun _ i _ => 8 - (intOf i).toNat)
      case atStart => exact ⟨0, r, _, by decide, rfl, rfl, rfl, HB.out, fun h => absurd h (by decide), rfl⟩
      case round =>
        obtain ⟨j, q, n', hj', rfl, rfl, hq, hb, hp, rfl⟩ := hrel
        have HQ := Lib.hid hq
        have HB2 := Lib.hid hb
        have HP := Lib.hid hp
        clear hq hb hp
        by_cases hlt2 : j < 8
        · go_wp2
          go_roundw
          case rel => exact ⟨j + 1, _, _, by omega, by go_num, rfl, csqr_step HQ.out _, csqr_bound HB2.out hlt2 _, fun _ => sqr_pos _ _, rfl⟩
          case measure => simp [intOf]; omega
        · obtain rfl : j = 8 := by omega
          go_wp2
          go_ret
          exact ⟨q, _, by rw [HQ.out, HR.out, HC.out, canon64_256]; rfl, HB2.out, HP.out (by decide), rfl, rfl⟩
set_option maxHeartbeats 1000000 in
theorem c_l01ExpWide_num (x : Nat) (w : World) (hx : B64 x 6) (hn : isNan .f64 x = false) : Calls Try.prog 174 #[.float .f64 x] w (RetExp (cexp (canon .f64 x)) w) := by
  obtain ⟨t1, t2⟩ := in_200 hx
  have HT := Lib.hid (t_bound hx w)
  have HC := Lib.hid (fun w => canon_fval .quo .f64 x 4643211215818981376 w)
  have ho : (FloatKind.f64.format.order x x != some .eq) = false := by rw [order_self_ne]; exact hn
  clear hn
  clear hx
  go_enter Try.func174, Try.ntmps174
  go_wp2
  go_loopw [4, 5] (fun p i wr => ExpRel1 (fval .quo .f64 x 4643211215818981376 w) w p i wr) (fun _ i _ => (intOf i).toNat)
  case atStart => exact ⟨0, 4607182418800017408, _, by decide, rfl, rfl, canon64_one, b_one64.mono (by decide), rfl⟩
  case round =>
    obtain ⟨j, r, n, hj, rfl, rfl, hr, hb, rfl⟩ := hrel
    have HR := Lib.hid hr
    have HB := Lib.hid hb
    clear hr hb
    by_cases hlt : j < 12
    · have hk : (1 : Int) ≤ 12 - (j : Int) := by omega
      go_wp2
      go_roundw
      case rel => exact ⟨j + 1, _, _, by omega, by go_num, rfl, ce1_step rfl HR.out _ _ _, ce1_bound HT.out HB.out hlt _ _ _, rfl⟩
      case measure => simp [intOf]; omega
    · obtain rfl : j = 12 := by omega
      go_wp2
      go_loopw [4, 6] (fun p i wr => ExpRel2 r w p i wr) (fun _ i _ => 8 - (intOf i).toNat)
      case atStart => exact ⟨0, r, _, by decide, rfl, rfl, rfl, HB.out, fun h => absurd h (by decide), rfl⟩
      case round =>
        obtain ⟨j, q, n', hj', rfl, rfl, hq, hb, hp, rfl⟩ := hrel
        have HQ := Lib.hid hq
        have HB2 := Lib.hid hb
        have HP := Lib.hid hp
        clear hq hb hp
        by_cases hlt2 : j < 8
        · go_wp2
          go_roundw
          case rel => exact ⟨j + 1, _, _, by omega, by go_num, rfl, csqr_step HQ.out _, csqr_bound HB2.out hlt2 _, fun _ => sqr_pos _ _, rfl⟩
          case measure => simp [intOf]; omega
        · obtain rfl : j = 8 := by omega
          go_wp2
          go_ret
          exact ⟨q, _, by rw [HQ.out, HR.out, HC.out, canon64_256]; rfl, HB2.out, HP.out (by decide), rfl, rfl⟩
theorem c_l01ExpWide (x : Nat) (w : World) (hx : B64 x 6) : Calls Try.prog 174 #[.float .f64 x] w (RetExp (cexp (canon .f64 x)) w) := by
  by_cases hn : isNan .f64 x = true
  · have ho : (FloatKind.f64.format.order x x != some .eq) = true := by rw [order_self_ne]; exact hn
    have H := Lib.hid hn
    clear hn hx
    go_enter Try.func174, Try.ntmps174
    go_wp2
    go_ret
    exact ⟨x, 0, by rw [canon_nan H.out, cexp_nan], .inl H.out, .inl H.out, rfl, rfl⟩
  · exact c_l01ExpWide_num x w hx (by simpa using hn)
end Go.Proofs.Ytpdgpoonblldgaa
