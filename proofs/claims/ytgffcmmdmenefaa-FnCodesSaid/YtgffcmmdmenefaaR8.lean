/-
  The choices that the named laws read off their inputs. Conditions: the bytes can be read.
-/
import Derived.Test.YtgffcmmdmenefaaAll
namespace Go.Proofs.Ytgffcmmdmenefaa
open Go.RowKit
theorem c_r8Long_yes (a b : Option Addr) (n m ca cb : Nat) (h : 48 < n ∨ 48 < m) (w : World) : Calls Try.prog 42 #[.slice a n ca, .slice b m cb] w fun e w' => e = .returned (.bool true) ∧ w = w' := by
  by_cases h1 : 48 < n
  · have h' : 48 < (n : Int) := by omega
    clear h
    go_enter Try.func42, Try.ntmps42
    go_wp2
    go_ret
    exact ⟨rfl, rfl⟩
  · have h' : (n : Int) ≤ 48 := by omega
    have h'' : 48 < (m : Int) := by omega
    clear h h1
    go_enter Try.func42, Try.ntmps42
    go_wp2
    go_ret
    exact ⟨rfl, rfl⟩
theorem c_r8Long_no (a b : Option Addr) (n m ca cb : Nat) (h1 : n ≤ 48) (h2 : m ≤ 48) (w : World) : Calls Try.prog 42 #[.slice a n ca, .slice b m cb] w fun e w' => e = .returned (.bool false) ∧ w = w' := by
  have h' : (n : Int) ≤ 48 := by omega
  have h'' : (m : Int) ≤ 48 := by omega
  clear h1 h2
  go_enter Try.func42, Try.ntmps42
  go_wp2
  go_ret
  exact ⟨ret_b (by simp; omega), rfl⟩
theorem c_r8At (a : Option Addr) (len cap : Nat) (zs : List Int) (i : Nat) (n : Int) (w : World) (h : IsRow .u8 w a len cap zs) (hi : i ≤ 1000) (h1 : 1 ≤ n) (h2 : n ≤ 1000000) :
    Calls Try.prog 43 #[.slice a len cap, .int .i64 i, .int .i64 n] w fun e w' => ∃ v : Int, 0 ≤ v ∧ v ≤ n - 1 ∧ e = .returned (.int .i64 v) ∧ w = w' := by
  obtain ⟨e1, e2, e3, e4, e5⟩ := h
  have hm : (len : Int) ≤ 9223372036854775807 := by unfold maxLen at e2; omega
  have E3 := Lib.hid e3
  have E4 := Lib.hid e4
  have E5 := Lib.hid e5
  have hi' : (i : Int) ≤ 1000 := by omega
  clear e1 e2 e3 e4 e5 hi
  by_cases hn : n ≤ 1
  · go_enter Try.func43, Try.ntmps43
    go_wp2
    go_ret
    exact ⟨0, by omega, by omega, rfl, rfl⟩
  · by_cases hlt : i < len
    · rcases E5.out with h0 | ⟨b, off, ha, _, hc⟩
      · omega
      · subst ha
        have hcell := hc i hlt
        obtain ⟨z, hz⟩ : ∃ z, zs.getD i 0 = z := ⟨_, rfl⟩
        have hb : 0 ≤ z ∧ z ≤ 255 := by
          rw [← hz, show zs.getD i 0 = zs[i]'(by rw [E3.out]; exact hlt) by simp [List.getD, show i < zs.length by rw [E3.out]; exact hlt]]
          have := E4.out _ (List.getElem_mem (show i < zs.length by rw [E3.out]; exact hlt))
          simpa [Lit.wf, IntKind.min, IntKind.max, IntKind.signed, IntKind.bits] using this
        rw [hz] at hcell
        obtain ⟨z0, z1⟩ := hb
        clear hc hz
        go_enter Try.func43, Try.ntmps43
        go_wp2
        go_ret
        exact ⟨_, Int.emod_nonneg _ (by omega), by have := Int.emod_lt_of_pos z (show 0 < n by omega); omega, rfl, rfl⟩
    · have hge : (len : Int) ≤ (i : Int) := by omega
      go_enter Try.func43, Try.ntmps43
      go_wp2
      go_ret
      exact ⟨0, by omega, by omega, rfl, rfl⟩
end Go.Proofs.Ytgffcmmdmenefaa
