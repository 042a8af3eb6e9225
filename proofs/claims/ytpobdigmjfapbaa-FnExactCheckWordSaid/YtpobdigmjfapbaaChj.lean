/-
  CheckWord: the model's and the program's contracts. Conditions: the text's length is one of a string.
-/
import Derived.Test.YtpobdigmjfapbaaChi
namespace Go.Proofs.Ytpobdigmjfapbaa
open Go.RowKit
set_option linter.unusedVariables false

theorem c_sCheckWord (s : ByteArray) (hs : s.size ≤ maxLen) (h : s.size ≤ 20000) (w : World) : Calls Try.prog 12 #[.string s] w fun e w' => e = .returned (.tuple #[.int .i64 (vCheck s.data.toList), .bool true]) ∧ w = w' := by
  have C := Lib.hid (fun w => c_l08Check s hs w)
  have h' : (s.size : Int) ≤ 20000 := by omega
  clear hs h
  go_enter Try.func12, Try.ntmps12
  go_wp2_with fail
  refine (C.out _).mono ?_
  rintro e w2 ⟨rfl, rfl⟩
  go_wp2_with fail
  go_ret2
  exact ⟨rfl, rfl⟩
theorem c_sCheckWord_no (s : ByteArray) (hs : s.size ≤ maxLen) (h : 20001 ≤ s.size) (w : World) : Calls Try.prog 12 #[.string s] w fun e w' => e = .returned (.tuple #[.int .i64 0, .bool false]) ∧ w = w' := by
  unfold maxLen at hs
  have h' : decide ((s.size : Int) ≤ 20000) = false := decide_eq_false (by omega)
  have h2 : decide ((20000 : Int) < (s.size : Int)) = true := decide_eq_true (by omega)
  clear h
  go_enter Try.func12, Try.ntmps12
  go_wp2_with fail
  go_ret2
  exact ⟨rfl, rfl⟩
theorem c_iCheckWord (s : ByteArray) (hs : s.size ≤ maxLen) (h : s.size ≤ 20000) (w : World) : Calls Try.prog 13 #[.string s] w fun e w' => e = .returned (.tuple #[.int .i64 (vCheck s.data.toList), .bool true]) ∧ Below w.heap.size w w' := by
  have C := Lib.hid (fun w => c_checkOfBytes s hs w)
  have h' : (s.size : Int) ≤ 20000 := by omega
  clear hs h
  go_enter Try.func13, Try.ntmps13
  go_wp2_with fail
  refine (C.out _).mono ?_
  rintro e w2 ⟨rfl, hb⟩
  have HB := Lib.hid hb
  clear hb
  go_wp2_with fail
  go_ret2
  exact ⟨rfl, HB.out⟩
theorem c_iCheckWord_no (s : ByteArray) (hs : s.size ≤ maxLen) (h : 20001 ≤ s.size) (w : World) : Calls Try.prog 13 #[.string s] w fun e w' => e = .returned (.tuple #[.int .i64 0, .bool false]) ∧ w = w' := by
  unfold maxLen at hs
  have h' : decide ((s.size : Int) ≤ 20000) = false := decide_eq_false (by omega)
  have h2 : decide ((20000 : Int) < (s.size : Int)) = true := decide_eq_true (by omega)
  clear h
  go_enter Try.func13, Try.ntmps13
  go_wp2_with fail
  go_ret2
  exact ⟨rfl, rfl⟩
end Go.Proofs.Ytpobdigmjfapbaa
