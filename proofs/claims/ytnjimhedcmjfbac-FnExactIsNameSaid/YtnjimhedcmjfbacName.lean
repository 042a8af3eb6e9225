/-
  What a name is: 1 to 8 bytes, each a letter. Conditions: none.
-/
import Derived.Test.YtnjimhedcmjfbacBits
import Derived.Laws.RangeAny
namespace Go.Proofs.Ytnjimhedcmjfbac
open Go.RowKit

def letter (c : UInt8) : Bool := decide (97 ≤ c.toNat ∧ c.toNat ≤ 122)
def nm (s : ByteArray) : Bool := s.data.toList.all letter && decide (1 ≤ s.size ∧ s.size ≤ 8)
theorem nm_bad {s : ByteArray} {k : Nat} (h : k < s.size) (hb : ¬ (97 ≤ s[k].toNat ∧ s[k].toNat ≤ 122)) : nm s = false := by
  unfold nm
  rw [Bool.and_eq_false_iff]
  left
  rw [List.all_eq_false]
  refine ⟨s[k], ?_, by simpa [letter] using hb⟩
  show s.data[k] ∈ s.data.toList
  exact Array.getElem_mem_toList _
theorem all_snoc {s : ByteArray} {k : Nat} (h : k < s.size) (ha : (s.data.toList.take k).all letter = true) (hb : 97 ≤ s[k].toNat ∧ s[k].toNat ≤ 122) : (s.data.toList.take (k + 1)).all letter = true := by
  rw [List.take_succ_eq_append_getElem (by simpa using h), List.all_append, ha]
  simp only [List.all_cons, List.all_nil, Bool.and_true, Bool.true_and]
  show letter s[k] = true
  simpa [letter] using hb
theorem nm_end {s : ByteArray} {k : Nat} (h : ¬ k < s.size) (ha : (s.data.toList.take k).all letter = true) : nm s = decide (1 ≤ s.size ∧ s.size ≤ 8) := by
  rw [List.take_of_length_le (by simp; omega)] at ha
  unfold nm; rw [ha, Bool.true_and]
theorem nm_size {s : ByteArray} (h : s.size < 1 ∨ 8 < s.size) : nm s = false := by
  unfold nm; rw [Bool.and_eq_false_iff]; right; simp; omega

theorem c_sIsName (s : ByteArray) (hs : s.size ≤ maxLen) (w : World) : Calls Try.prog 15 #[.string s] w fun e w' => e = .returned (.bool (nm s)) ∧ w = w' := by
  unfold maxLen at hs
  go_enter Try.func15, Try.ntmps15
  go_wp2
  go_loop [3] (fun i => ∃ k : Nat, k ≤ s.size ∧ i = .int .i64 k ∧ (s.data.toList.take k).all letter = true) (fun i => s.size - (intOf i).toNat)
  case atStart => exact ⟨0, Nat.zero_le _, rfl, rfl⟩
  case round =>
    obtain ⟨k, hk, rfl, ha⟩ := hrel
    have HA := Lib.hid ha
    clear ha
    by_cases hlt : k < s.size
    · have hb : s[k].toNat < 256 := UInt8.toNat_lt _
      by_cases h1 : s[k].toNat < 97
      · have H := Lib.hid (nm_bad hlt (by omega))
        go_wp2
        go_ret
        exact ⟨ret_b H.out.symm, rfl⟩
      · by_cases h2 : 122 < s[k].toNat
        · have H := Lib.hid (nm_bad hlt (by omega))
          go_wp2
          go_ret
          exact ⟨ret_b H.out.symm, rfl⟩
        · have H := Lib.hid (all_snoc hlt HA.out (by omega))
          go_wp2
          go_round
          case rel => exact ⟨k + 1, by omega, by go_num, H.out⟩
          case measure => simp [intOf]; omega
    · have H := Lib.hid (nm_end hlt HA.out)
      by_cases h1 : s.size < 1
      · go_wp2
        go_ret
        exact ⟨ret_b (by rw [H.out]; exact (decide_eq_false (by omega)).symm), rfl⟩
      · by_cases h2 : s.size ≤ 8
        · go_wp2
          go_ret
          exact ⟨ret_b (by rw [H.out]; exact decide_eq_decide.2 (by omega)), rfl⟩
        · go_wp2
          go_ret
          exact ⟨ret_b (by rw [H.out]; exact decide_eq_decide.2 (by omega)), rfl⟩
theorem c_letter (n : Int) (w : World) : Calls Try.prog 26 #[.int .i32 n] w fun e w' => e = .returned (.bool (decide (97 ≤ n ∧ n ≤ 122))) ∧ w = w' := by
  by_cases h1 : 97 ≤ n
  · by_cases h2 : n ≤ 122
    · go_enter Try.func26, Try.ntmps26
      go_wp2
      go_ret
      exact ⟨ret_b (by simp; omega), rfl⟩
    · go_enter Try.func26, Try.ntmps26
      go_wp2
      go_ret
      exact ⟨ret_b (by simp; omega), rfl⟩
  · go_enter Try.func26, Try.ntmps26
    go_wp2
    go_ret
    exact ⟨ret_b (by simp; omega), rfl⟩
theorem c_iIsName (s : ByteArray) (w : World) (hs : s.size ≤ maxLen) : Calls Try.prog 16 #[.string s] w fun e w' => e = .returned (.bool (nm s)) ∧ Below w.heap.size w w' := by
  unfold maxLen at hs
  by_cases h1 : s.size < 1
  · have H := Lib.hid (nm_size (s := s) (.inl h1))
    go_enter Try.func16, Try.ntmps16
    go_wp2
    go_ret
    exact ⟨ret_b H.out.symm, Below.refl _ _⟩
  · by_cases h2 : 8 < s.size
    · have H := Lib.hid (nm_size (s := s) (.inr h2))
      go_enter Try.func16, Try.ntmps16
      go_wp2
      go_ret
      exact ⟨ret_b H.out.symm, Below.refl _ _⟩
    · go_enter Try.func16, Try.ntmps16
      go_wp2
      go_loopw [] (fun wr => ∃ k : Nat, k ≤ s.size ∧ wr = w.iter s k ∧ (s.data.toList.take k).all letter = true) (fun wr => s.size - wr.iterPos w.heap.size)
      case atStart => exact ⟨0, Nat.zero_le _, rfl, rfl⟩
      case round =>
        obtain ⟨k, hk, rfl, ha⟩ := hrel
        have HA := Lib.hid ha
        clear ha
        by_cases hlt : k < s.size
        · have hnx : ∀ ty, (Instr.next (.pointer (some ⟨w.heap.size, 0, none⟩)) true ty).run Try.prog (w.iter s k) = _ := fun ty => run_next_any w s k ty hlt
          have hb : s[k].toNat < 256 := UInt8.toNat_lt _
          by_cases hg : 97 ≤ s[k].toNat ∧ s[k].toNat ≤ 122
          · have H := Lib.hid (all_snoc hlt HA.out hg)
            rw [decode_ascii s k hlt (by omega)] at hnx
            have hd := Lib.hid (show decide ((97 : Int) ≤ (s[k].toNat : Int) ∧ (s[k].toNat : Int) ≤ 122) = true by simp; omega)
            go_wp2_with (go_at_call 26; refine (c_letter _ _).mono ?_; rintro e w' ⟨rfl, rfl⟩; rw [hd.out])
            go_roundw
            case rel => exact ⟨k + 1, by omega, rfl, H.out⟩
            case measure => simp; omega
          · have H := Lib.hid (nm_bad hlt hg)
            have hd : decide ((97 : Int) ≤ ((Utf8.decode s k).1 : Int) ∧ ((Utf8.decode s k).1 : Int) ≤ 122) = false := by
              by_cases hl : s[k].toNat < 128
              · rw [decode_ascii s k hlt hl]; simp; omega
              · have := (decode_high s k hlt (by omega)).1; simp; omega
            have HD := Lib.hid hd
            clear hd
            go_wp2_with (go_at_call 26; refine (c_letter _ _).mono ?_; rintro e w' ⟨rfl, rfl⟩; rw [HD.out])
            go_ret
            exact ⟨ret_b H.out.symm, (Below.refl _ _).alloc (Nat.le_refl _) _⟩
        · have hnx : ∀ ty, (Instr.next (.pointer (some ⟨w.heap.size, 0, none⟩)) true ty).run Try.prog (w.iter s k) = _ := fun ty => run_next_end w s k ty hlt
          have H := Lib.hid (nm_end hlt HA.out)
          go_wp2
          go_ret
          exact ⟨ret_b (by rw [H.out]; simp; omega), (Below.refl _ _).alloc (Nat.le_refl _) _⟩
end Go.Proofs.Ytnjimhedcmjfbac
