/-
  What the check number of a text is. Conditions: none.
-/
import Derived.Test.YtokminhnkmhneaaDoorBits
namespace Go.Proofs.YtokminhnkmhneaaDoor
open Go.RowKit

def chk (n : Int) (l : List UInt8) : Int := l.foldl (fun n c => (523 * n + (c.toNat : Int) + 17) % 65003) n
theorem chk_bd {n : Int} (h0 : 0 ≤ n) (h1 : n ≤ 65002) (l : List UInt8) : 0 ≤ chk n l ∧ chk n l ≤ 65002 := by
  unfold chk
  induction l generalizing n with
  | nil => exact ⟨h0, h1⟩
  | cons c l ih =>
    have hc : c.toNat < 256 := UInt8.toNat_lt _
    exact ih (n := (523 * n + (c.toNat : Int) + 17) % 65003) (by omega) (by omega)
theorem chk_snoc (n : Int) (l : List UInt8) (c : UInt8) : chk n (l ++ [c]) = (523 * chk n l + (c.toNat : Int) + 17) % 65003 := by
  unfold chk; rw [List.foldl_append]; rfl
theorem take_byte (s : ByteArray) (k : Nat) (h : k < s.size) : s.data.toList.take (k + 1) = s.data.toList.take k ++ [s[k]] := by
  rw [List.take_succ_eq_append_getElem (by simpa using h)]; rfl

theorem c_l01Check (n : Int) (s : ByteArray) (h0 : 0 ≤ n) (h1 : n ≤ 65002) (hs : s.size ≤ maxLen) (w : World) : Calls Tryd.prog 77 #[.int .i64 n, .string s] w fun e w' => e = .returned (.int .i64 (chk n s.data.toList)) ∧ w = w' := by
  unfold maxLen at hs
  go_enter Tryd.func77, Tryd.ntmps77
  go_wp2
  go_loop [0, 5] (fun x i => ∃ k : Nat, k ≤ s.size ∧ i = .int .i64 k ∧ x = .int .i64 (chk n (s.data.toList.take k))) (fun _ i => s.size - (intOf i).toNat)
  case atStart => exact ⟨0, Nat.zero_le _, rfl, rfl⟩
  case round =>
    obtain ⟨k, hk, rfl, rfl⟩ := hrel
    obtain ⟨b0, b1⟩ := chk_bd h0 h1 (s.data.toList.take k)
    by_cases hlt : k < s.size
    · have HS := Lib.hid (show chk n (s.data.toList.take (k + 1)) = (523 * chk n (s.data.toList.take k) + (s[k].toNat : Int) + 17) % 65003 by rw [take_byte s k hlt, chk_snoc])
      have hb : s[k].toNat < 256 := UInt8.toNat_lt _
      go_wp2
      go_round
      case rel => exact ⟨k + 1, by omega, by go_num, by rw [HS.out]⟩
      case measure => simp [intOf]; omega
    · go_wp2
      go_ret
      exact ⟨ret_i (by rw [List.take_of_length_le (by simp; omega)]), rfl⟩
theorem c_iCheckOf_no (n : Int) (s : ByteArray) (h : n < 0 ∨ 65002 < n) (w : World) : Calls Tryd.prog 113 #[.int .i64 n, .string s] w fun e w' => e = .returned (.tuple #[.int .i64 0, .bool false]) ∧ w = w' := by
  by_cases h0 : n < 0
  · go_enter Tryd.func113, Tryd.ntmps113
    go_wp2
    go_ret2
    exact ⟨rfl, rfl⟩
  · have h0' : 0 ≤ n := by omega
    have h1 : 65003 ≤ n := by omega
    clear h h0
    go_enter Tryd.func113, Tryd.ntmps113
    go_wp2
    go_ret2
    exact ⟨rfl, rfl⟩
theorem c_iCheckOf (n : Int) (s : ByteArray) (h0 : 0 ≤ n) (h1 : n ≤ 65002) (hs : s.size ≤ maxLen) (w : World) : Calls Tryd.prog 113 #[.int .i64 n, .string s] w fun e w' => e = .returned (.tuple #[.int .i64 (chk n s.data.toList), .bool true]) ∧ w = w' := by
  unfold maxLen at hs
  go_enter Tryd.func113, Tryd.ntmps113
  go_wp2
  go_loop [6, 17] (fun x i => ∃ k : Nat, k ≤ s.size ∧ i = .int .i64 k ∧ x = .int .i64 (chk n (s.data.toList.take k))) (fun _ i => s.size - (intOf i).toNat)
  case atStart => exact ⟨0, Nat.zero_le _, rfl, rfl⟩
  case round =>
    obtain ⟨k, hk, rfl, rfl⟩ := hrel
    obtain ⟨b0, b1⟩ := chk_bd h0 h1 (s.data.toList.take k)
    by_cases hlt : k < s.size
    · have HS := Lib.hid (show chk n (s.data.toList.take (k + 1)) = (523 * chk n (s.data.toList.take k) + (s[k].toNat : Int) + 17) % 65003 by rw [take_byte s k hlt, chk_snoc])
      have hb : s[k].toNat < 256 := UInt8.toNat_lt _
      go_wp2
      go_round
      case rel => exact ⟨k + 1, by omega, by go_num, by rw [HS.out]⟩
      case measure => simp [intOf]; omega
    · go_wp2
      go_ret2
      exact ⟨by rw [List.take_of_length_le (by simp; omega)]; rfl, rfl⟩
end Go.Proofs.YtokminhnkmhneaaDoor
