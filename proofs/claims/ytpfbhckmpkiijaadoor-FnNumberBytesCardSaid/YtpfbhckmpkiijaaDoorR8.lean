/-
  The choices that the named laws read off their inputs. Conditions: the bytes can be read.
-/
import Derived.Test.YtpfbhckmpkiijaaDoorAll
namespace Go.Proofs.YtpfbhckmpkiijaaDoor
open Go.RowKit
theorem c_r8Long_yes (a b : Option Addr) (n m ca cb : Nat) (h : 48 < n ∨ 48 < m) (w : World) : Calls Tryd.prog 11 #[.slice a n ca, .slice b m cb] w fun e w' => e = .returned (.bool true) ∧ w = w' := by
  by_cases h1 : 48 < n
  · have h' : 48 < (n : Int) := by omega
    clear h
    go_enter Tryd.func11, Tryd.ntmps11
    go_wp2
    go_ret
    exact ⟨rfl, rfl⟩
  · have h' : (n : Int) ≤ 48 := by omega
    have h'' : 48 < (m : Int) := by omega
    clear h h1
    go_enter Tryd.func11, Tryd.ntmps11
    go_wp2
    go_ret
    exact ⟨rfl, rfl⟩
theorem c_r8Long_no (a b : Option Addr) (n m ca cb : Nat) (h1 : n ≤ 48) (h2 : m ≤ 48) (w : World) : Calls Tryd.prog 11 #[.slice a n ca, .slice b m cb] w fun e w' => e = .returned (.bool false) ∧ w = w' := by
  have h' : (n : Int) ≤ 48 := by omega
  have h'' : (m : Int) ≤ 48 := by omega
  clear h1 h2
  go_enter Tryd.func11, Tryd.ntmps11
  go_wp2
  go_ret
  exact ⟨ret_b (by simp; omega), rfl⟩
end Go.Proofs.YtpfbhckmpkiijaaDoor
