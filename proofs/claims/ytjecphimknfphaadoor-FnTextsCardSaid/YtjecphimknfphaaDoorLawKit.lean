/-
  What the helpers of the named laws return. Conditions: the bytes can be read.
-/
import Derived.Test.YtjecphimknfphaaDoorDraw2
namespace Go.Proofs.YtjecphimknfphaaDoor
open Go.RowKit

theorem IsRow.kept {k : IntKind} {w w' : World} {a : Option Addr} {len cap : Nat} {zs : List Int} (h : IsRow k w a len cap zs) (hb : Below w.heap.size w w') : IsRow k w' a len cap zs := by
  obtain ⟨h1, h2, h3, h4, h5⟩ := h
  refine ⟨h1, h2, h3, h4, ?_⟩
  rcases h5 with h0 | ⟨b, off, ha, hlt, hc⟩
  · exact .inl h0
  · refine .inr ⟨b, off, ha, Nat.lt_of_lt_of_le hlt hb.size, fun i hi => ?_⟩
    rw [hb.cell (p := ⟨b, off + i, none⟩) hlt]
    exact hc i hi
/-- two stretches of a walk, each of which turns nothing that was there -/
theorem Below.next' {w w1 w2 : World} (h1 : Below w.heap.size w w1) (h2 : Below w1.heap.size w1 w2) : Below w.heap.size w w2 := h1.trans (h2.mono h1.size)

theorem c_b10Long_yes (a b : Option Addr) (n m ca cb : Nat) (h : 1048576 < n ∨ 1048576 < m) (w : World) : Calls Tryd.prog 4 #[.slice a n ca, .slice b m cb] w fun e w' => e = .returned (.bool true) ∧ w = w' := by
  by_cases h1 : 1048576 < n
  · have h' : 1048576 < (n : Int) := by omega
    clear h
    go_enter Tryd.func4, Tryd.ntmps4
    go_wp2
    go_ret
    exact ⟨rfl, rfl⟩
  · have h' : (n : Int) ≤ 1048576 := by omega
    have h'' : 1048576 < (m : Int) := by omega
    clear h h1
    go_enter Tryd.func4, Tryd.ntmps4
    go_wp2
    go_ret
    exact ⟨rfl, rfl⟩
theorem c_b10Long_no (a b : Option Addr) (n m ca cb : Nat) (h1 : n ≤ 1048576) (h2 : m ≤ 1048576) (w : World) : Calls Tryd.prog 4 #[.slice a n ca, .slice b m cb] w fun e w' => e = .returned (.bool false) ∧ w = w' := by
  have h' : (n : Int) ≤ 1048576 := by omega
  have h'' : (m : Int) ≤ 1048576 := by omega
  clear h1 h2
  go_enter Tryd.func4, Tryd.ntmps4
  go_wp2
  go_ret
  exact ⟨ret_b (by simp; omega), rfl⟩
theorem c_b10At (a : Option Addr) (len cap : Nat) (zs : List Int) (i : Nat) (n : Int) (w : World) (h : IsRow .u8 w a len cap zs) (hi : i ≤ 1000) (h1 : 1 ≤ n) (h2 : n ≤ 1000000) :
    Calls Tryd.prog 6 #[.slice a len cap, .int .i64 i, .int .i64 n] w fun e w' => ∃ v : Int, 0 ≤ v ∧ v ≤ n - 1 ∧ e = .returned (.int .i64 v) ∧ w = w' := by
  obtain ⟨e1, e2, e3, e4, e5⟩ := h
  have hm : (len : Int) ≤ 9223372036854775807 := by unfold maxLen at e2; omega
  have E3 := Lib.hid e3
  have E4 := Lib.hid e4
  have E5 := Lib.hid e5
  have hi' : (i : Int) ≤ 1000 := by omega
  clear e1 e2 e3 e4 e5 hi
  by_cases hn : n ≤ 1
  · go_enter Tryd.func6, Tryd.ntmps6
    go_wp2
    go_ret
    exact ⟨0, by omega, by omega, rfl, rfl⟩
  · by_cases hlt : i < len
    · rcases E5.out with h0 | ⟨b, off, ha, _, hc⟩
      · omega
      · subst ha
        have hcell := hc i hlt
        obtain ⟨z, hz⟩ : ∃ z, zs.getD i 0 = z := ⟨_, rfl⟩
        have hb : 0 ≤ z ∧ z ≤ 255 := by
          rw [← hz, show zs.getD i 0 = zs[i]'(by rw [E3.out]; exact hlt) by simp [List.getD, show i < zs.length by rw [E3.out]; exact hlt]]
          have := E4.out _ (List.getElem_mem (show i < zs.length by rw [E3.out]; exact hlt))
          simpa [Lit.wf, IntKind.min, IntKind.max, IntKind.signed, IntKind.bits] using this
        rw [hz] at hcell
        obtain ⟨z0, z1⟩ := hb
        clear hc hz
        go_enter Tryd.func6, Tryd.ntmps6
        go_wp2
        go_ret
        exact ⟨_, Int.emod_nonneg _ (by omega), by have := Int.emod_lt_of_pos z (show 0 < n by omega); omega, rfl, rfl⟩
    · go_enter Tryd.func6, Tryd.ntmps6
      go_wp2
      go_ret
      exact ⟨_, Int.emod_nonneg _ (by omega), by have := Int.emod_lt_of_pos ((i : Int) * 37 + 11) (show 0 < n by omega); omega, rfl, rfl⟩
end Go.Proofs.YtjecphimknfphaaDoor
