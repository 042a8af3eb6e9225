/-
  What the sum of products returns: its steps on one pattern for all not-a-numbers, in order. Conditions: the lists' elements can be read.
-/
import Derived.Test.YtkfpaehalfjhhaaSums
import Derived.BigRegion
import Derived.Deep.RegionWith
namespace Go.Proofs.Ytkfpaehalfjhhaa
open Go.RowKit

def cdot (xs ys : List Nat) : Nat := (xs.zip ys).foldl (fun s p => cop .add .f32 s (cop .mul .f32 (canon .f32 p.1) (canon .f32 p.2))) 0
theorem cdot_snoc (xs ys : List Nat) (k : Nat) (hx : k < xs.length) (hy : k < ys.length) : cdot (xs.take (k + 1)) (ys.take (k + 1)) = cop .add .f32 (cdot (xs.take k) (ys.take k)) (cop .mul .f32 (canon .f32 (xs.getD k 0)) (canon .f32 (ys.getD k 0))) := by
  rw [take_snoc xs k hx, take_snoc ys k hy]
  unfold cdot
  rw [List.zip_append (by simp; omega), List.foldl_append]
  rfl
theorem cdot_one {xs ys : List Nat} {k r : Nat} (hx : k < xs.length) (hy : k < ys.length) (hr : canon .f32 r = cdot (xs.take k) (ys.take k)) :
    ∀ w1 w2, canon .f32 (fval .add .f32 r (fval .mul .f32 (xs.getD k 0) (ys.getD k 0) w1) w2) = cdot (xs.take (k + 1)) (ys.take (k + 1)) := by
  intro w1 w2
  rw [cdot_snoc xs ys k hx hy, canon_fval, canon_fval, hr]
def DotRel (xs ys : List Nat) (w : World) (s i : Value) (wr : World) : Prop :=
  ∃ k r n : Nat, k ≤ xs.length ∧ i = .int .i64 k ∧ s = .float .f32 r ∧ canon .f32 r = cdot (xs.take k) (ys.take k) ∧ r < 2 ^ 32 ∧ wr = w.drewN n

set_option maxHeartbeats 1000000 in
theorem c_l01Dot (a b : Option Addr) (n ca cb : Nat) (xs ys : List Nat) (w : World) (ha : IsFloats .f32 w a n ca xs) (hb : IsFloats .f32 w b n cb ys) : Calls Try.prog 61 #[.slice a n ca, .slice b n cb] w (RetF .f32 (cdot xs ys) w) := by
  obtain ⟨a1, a2, a3, a4, a5⟩ := ha
  obtain ⟨b1, b2, b3, b4, b5⟩ := hb
  have hmax : n ≤ 9223372036854775807 := by unfold maxLen at a2; omega
  have A3 := Lib.hid a3
  have B3 := Lib.hid b3
  have A5 := Lib.hid a5
  have B5 := Lib.hid b5
  clear a1 a2 a3 a4 a5 b1 b2 b3 b4 b5
  go_enter Try.func61, Try.ntmps61
  go_wp2
  go_loopw [5, 6] (fun s i wr => DotRel xs ys w s i wr) (fun _ i _ => n - (intOf i).toNat)
  case atStart => exact ⟨0, 0, 0, Nat.zero_le _, rfl, rfl, by rw [canon_zero]; rfl, by decide, rfl⟩
  case round =>
    obtain ⟨k, r, m, hk, rfl, rfl, hr, hr2, rfl⟩ := hrel
    have HR := Lib.hid hr
    have HR2 := Lib.hid hr2
    rw [A3.out] at hk
    clear hr hr2
    by_cases hlt : k < n
    · rcases A5.out with h0 | ⟨p, off, ha, _, hca⟩
      · omega
      · rcases B5.out with h0 | ⟨q, off', hb, _, hcb⟩
        · omega
        · subst ha
          subst hb
          have c1 := hca k hlt
          have c2 := hcb k hlt
          have HO := Lib.hid (cdot_one (xs := xs) (ys := ys) (show k < xs.length by rw [A3.out]; exact hlt) (show k < ys.length by rw [B3.out]; exact hlt) HR.out)
          clear hca hcb
          go_wp2
          go_region
          all_goals
            go_wp2
            go_roundw
            case rel => exact ⟨k + 1, _, _, by rw [A3.out]; omega, by go_num, rfl, HO.out _ _, fval_lt .add .f32 _ _ _, rfl⟩
            case measure => simp [intOf]; omega
    · go_wp2
      go_ret
      exact ⟨r, _, by rw [HR.out, List.take_of_length_le (by rw [A3.out]; omega), List.take_of_length_le (by rw [B3.out]; omega)], HR2.out, rfl, rfl⟩
set_option maxHeartbeats 1000000 in
theorem c_dotIn32 (a b : Option Addr) (n ca cb : Nat) (xs ys : List Nat) (w : World) (ha : IsFloats .f32 w a n ca xs) (hb : IsFloats .f32 w b n cb ys) : Calls Try.prog 70 #[.slice a n ca, .slice b n cb] w (RetF .f32 (cdot xs ys) w) := by
  obtain ⟨a1, a2, a3, a4, a5⟩ := ha
  obtain ⟨b1, b2, b3, b4, b5⟩ := hb
  have hmax : n ≤ 9223372036854775807 := by unfold maxLen at a2; omega
  have A3 := Lib.hid a3
  have B3 := Lib.hid b3
  have A5 := Lib.hid a5
  have B5 := Lib.hid b5
  clear a1 a2 a3 a4 a5 b1 b2 b3 b4 b5
  go_enter Try.func70, Try.ntmps70
  go_wp2
  go_loopw [5, 10] (fun s i wr => DotRel xs ys w s i wr) (fun _ i _ => n - (intOf i).toNat)
  case atStart => exact ⟨0, 0, 0, Nat.zero_le _, rfl, rfl, by rw [canon_zero]; rfl, by decide, rfl⟩
  case round =>
    obtain ⟨k, r, m, hk, rfl, rfl, hr, hr2, rfl⟩ := hrel
    have HR := Lib.hid hr
    have HR2 := Lib.hid hr2
    rw [A3.out] at hk
    clear hr hr2
    by_cases hlt : k < n
    · rcases A5.out with h0 | ⟨p, off, ha, _, hca⟩
      · omega
      · rcases B5.out with h0 | ⟨q, off', hb, _, hcb⟩
        · omega
        · subst ha
          subst hb
          have c1 := hca k hlt
          have c2 := hcb k hlt
          have HO := Lib.hid (cdot_one (xs := xs) (ys := ys) (show k < xs.length by rw [A3.out]; exact hlt) (show k < ys.length by rw [B3.out]; exact hlt) HR.out)
          clear hca hcb
          go_wp2
          go_roundw
          case rel => exact ⟨k + 1, _, _, by rw [A3.out]; omega, by go_num, rfl, HO.out _ _, fval_lt .add .f32 _ _ _, rfl⟩
          case measure => simp [intOf]; omega
    · go_wp2
      go_ret
      exact ⟨r, _, by rw [HR.out, List.take_of_length_le (by rw [A3.out]; omega), List.take_of_length_le (by rw [B3.out]; omega)], HR2.out, rfl, rfl⟩
end Go.Proofs.Ytkfpaehalfjhhaa
