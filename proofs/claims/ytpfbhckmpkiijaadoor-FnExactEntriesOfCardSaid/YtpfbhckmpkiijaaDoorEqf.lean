/-
  Two lists of floats with the same numbers are found to be the same. Conditions: the lists' elements can be read.
-/
import Derived.Test.YtpfbhckmpkiijaaDoorSums
import Derived.BigRegion
import Derived.Deep.RegionWith
namespace Go.Proofs.YtpfbhckmpkiijaaDoor
open Go.RowKit

def RetTrue (w : World) (e : Ending) (w' : World) : Prop := e = .returned (.bool true) ∧ Drawn w w'
def EqRel (n : Nat) (w : World) (i : Value) (wr : World) : Prop := ∃ k m : Nat, k ≤ n ∧ i = .int .i64 k ∧ wr = w.drewN m

set_option maxHeartbeats 400000 in
/-- two lists with the same numbers are the same -/
theorem c_eqFloat32S (a b : Option Addr) (ca cb : Nat) (xs : List Nat) (n : Nat) (w : World) (ha : IsFloats .f32 w a n ca xs) (hb : IsFloats .f32 w b n cb xs) : Calls Tryd.prog 8 #[.slice a n ca, .slice b n cb] w (RetTrue w) := by
  obtain ⟨a1, a2, a3, a4, a5⟩ := ha
  obtain ⟨b1, b2, b3, b4, b5⟩ := hb
  have hmax : n ≤ 9223372036854775807 := by unfold maxLen at a2; omega
  have A5 := Lib.hid a5
  have B5 := Lib.hid b5
  clear a1 a2 a3 a4 a5 b1 b2 b3 b4 b5
  go_enter Tryd.func8, Tryd.ntmps8
  go_wp2
  go_loopw [5] (fun i wr => EqRel n w i wr) (fun i _ => n - (intOf i).toNat)
  case atStart => exact ⟨0, 0, Nat.zero_le _, rfl, rfl⟩
  case round =>
    obtain ⟨k, m, hk, rfl, rfl⟩ := hrel
    by_cases hlt : k < n
    · rcases A5.out with h0 | ⟨p, off, ha, _, hca⟩
      · omega
      · rcases B5.out with h0 | ⟨q, off', hb, _, hcb⟩
        · omega
        · subst ha
          subst hb
          have c1 := hca k hlt
          have c2 := hcb k hlt
          obtain ⟨z, hz⟩ : ∃ z, xs.getD k 0 = z := ⟨_, rfl⟩
          rw [hz] at c1 c2
          clear hca hcb hz
          go_wp2
          go_region_with (go_at_call 25; refine (c_sameFloat _ _ (cwide_same _ _ rfl) _).mono ?_; rintro e wz ⟨rfl, nz, rfl⟩)
          all_goals
            go_wp2
            go_roundw
            case rel => exact ⟨k + 1, _, by omega, by go_num, rfl⟩
            case measure => simp [intOf]; omega
    · go_wp2
      go_ret
      exact ⟨rfl, Drawn.mk _ _⟩

theorem IsFloats.drewN {k : FloatKind} {w : World} {a : Option Addr} {len cap : Nat} {zs : List Nat} (h : IsFloats k w a len cap zs) (n : Nat) : IsFloats k (w.drewN n) a len cap zs := h.kept (below_drewN (Below.refl _ _) n)
/-- two stretches of a walk, each of which turns nothing that was there -/
theorem Below.next {w w1 w2 : World} (h1 : Below w.heap.size w w1) (h2 : Below w1.heap.size w1 w2) : Below w.heap.size w w2 := h1.trans (h2.mono h1.size)
end Go.Proofs.YtpfbhckmpkiijaaDoor
