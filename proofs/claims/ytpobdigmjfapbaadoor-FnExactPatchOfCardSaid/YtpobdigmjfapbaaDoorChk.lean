/-
  What the check of bytes is: the model and the program. Conditions: the text's length is one of a string.
-/
import Derived.Test.YtpobdigmjfapbaaDoorBits
import Derived.Test.YtpobdigmjfapbaaDoorCrc
namespace Go.Proofs.YtpobdigmjfapbaaDoor
open Go.RowKit Go.Deep Go.WideShapes Go.ChangeShapes
set_option linter.unusedVariables false

theorem take_byteC (s : ByteArray) (k : Nat) (h : k < s.size) : s.data.toList.take (k + 1) = s.data.toList.take k ++ [s[k]] := by
  rw [List.take_succ_eq_append_getElem (by simpa using h)]; rfl
def vCheck (l : List UInt8) : Int := ((crcOf l ^^^ 4294967295 : Nat) : Int)
set_option maxHeartbeats 1000000 in
theorem c_l08Check (s : ByteArray) (hs : s.size ≤ maxLen) (w : World) : Calls Tryd.prog 98 #[.string s] w fun e w' => e = .returned (.int .i64 (vCheck s.data.toList)) ∧ w = w' := by
  unfold maxLen at hs
  go_enter Tryd.func98, Tryd.ntmps98
  go_wp2
  go_loop [3, 4] (fun x i => ∃ k : Nat, k ≤ s.size ∧ i = .int .i64 k ∧ x = .int .i64 ((crcOf (s.data.toList.take k) : Nat) : Int)) (fun _ i => s.size - (intOf i).toNat)
  case atStart => exact ⟨0, Nat.zero_le _, rfl, rfl⟩
  case round =>
    obtain ⟨k, hk, rfl, rfl⟩ := hrel
    have hl := crcOf_lt (s.data.toList.take k)
    by_cases hlt : k < s.size
    · have HS := Lib.hid (show crcOf (s.data.toList.take (k + 1)) = crcK 8 (crcOf (s.data.toList.take k) ^^^ s[k].toNat) by rw [take_byteC s k hlt, crcOf_snoc])
      have hb : s[k].toNat < 256 := UInt8.toNat_lt _
      obtain ⟨n, hn⟩ : ∃ n, crcOf (s.data.toList.take k) = n := ⟨_, rfl⟩
      rw [hn] at hl HS ⊢
      have hx := i64_xor_nat n s[k].toNat hl (by omega)
      have hX := xor_lt32 hl (show s[k].toNat < 4294967296 by omega)
      have HX := Lib.hid hX
      clear hn hX
      have hn63 : (n : Int) ≤ 4294967295 := by omega
      go_wp2
      obtain ⟨X, hXX⟩ : ∃ X, n ^^^ s[k].toNat = X := ⟨_, rfl⟩
      rw [hXX] at HX HS ⊢
      clear hx hXX
      go_loop [3, 5] (fun x i => ∃ j : Nat, j ≤ 8 ∧ i = .int .i64 j ∧ x = .int .i64 ((crcK j X : Nat) : Int)) (fun _ i => 8 - (intOf i).toNat)
      case atStart => exact ⟨0, Nat.zero_le _, rfl, rfl⟩
      case round =>
        obtain ⟨j, hj, rfl, rfl⟩ := hrel
        have hy := crcK_lt HX.out j
        obtain ⟨y, hy'⟩ : ∃ y, crcK j X = y := ⟨_, rfl⟩
        have HJ := Lib.hid (show crcK (j + 1) X = crcOne y by rw [← hy']; rfl)
        rw [hy'] at hy ⊢
        have HY := Lib.hid hy'
        have hy63 : (y : Int) ≤ 4294967295 := by omega
        clear hy'
        by_cases hj8 : j < 8
        · by_cases hodd : y % 2 = 1
          · have ha : bits .and .i64 (y : Int) 1 = 1 := by
              have := i64_and_nat y 1 (by omega) (by omega)
              rw [Nat.and_one_is_mod, hodd] at this
              exact this
            have hxx := i64_xor_nat (y / 2) 3988292384 (by omega) (by omega)
            rw [show ((y / 2 : Nat) : Int) = (y : Int) / 2 by omega] at hxx
            have HXX := Lib.hid (show bits .xor .i64 ((y : Int) / 2) 3988292384 = ((y / 2 ^^^ 3988292384 : Nat) : Int) from hxx)
            clear hxx
            have HO := Lib.hid (show crcOne y = y / 2 ^^^ 3988292384 by unfold crcOne; rw [if_pos hodd])
            clear hodd
            go_wp2
            go_round
            case rel => exact ⟨j + 1, by omega, by go_num, by rw [HJ.out, HO.out, ← HXX.out]⟩
            case measure => simp [intOf]; omega
          · have ha : bits .and .i64 (y : Int) 1 = 0 := by
              have := i64_and_nat y 1 (by omega) (by omega)
              rw [Nat.and_one_is_mod, show y % 2 = 0 by omega] at this
              exact this
            have HO := Lib.hid (show crcOne y = y / 2 by unfold crcOne; rw [if_neg hodd])
            clear hodd
            go_wp2
            go_round
            case rel => exact ⟨j + 1, by omega, by go_num, by rw [HJ.out, HO.out]; go_num⟩
            case measure => simp [intOf]; omega
        · obtain rfl : j = 8 := by omega
          go_wp2
          go_round
          case rel => exact ⟨k + 1, by omega, by go_num, by rw [HS.out, HY.out]⟩
          case measure => simp [intOf]; omega
    · have hn63 : ((crcOf (s.data.toList.take k) : Nat) : Int) ≤ 4294967295 := by omega
      have hx := i64_xor_nat (crcOf (s.data.toList.take k)) 4294967295 hl (by omega)
      obtain ⟨n, hn⟩ : ∃ n, crcOf (s.data.toList.take k) = n := ⟨_, rfl⟩
      have HN := Lib.hid (show vCheck s.data.toList = ((n ^^^ 4294967295 : Nat) : Int) by rw [← hn, List.take_of_length_le (by simp; omega)]; rfl)
      rw [hn] at hx hn63 ⊢
      have HX := Lib.hid (show bits .xor .i64 (n : Int) 4294967295 = ((n ^^^ 4294967295 : Nat) : Int) from hx)
      clear hn hl hx
      go_wp2
      go_ret
      exact ⟨ret_i (HX.out.trans HN.out.symm), rfl⟩
end Go.Proofs.YtpobdigmjfapbaaDoor
