/-
  Two lists of floats with the same numbers are found to be the same. Conditions: the lists' elements can be read.
-/
import Derived.Test.YtjecphimknfphaaDoorSums
import Derived.BigRegion
import Derived.Deep.RegionWith
namespace Go.Proofs.YtjecphimknfphaaDoor
open Go.RowKit

def RetTrue (w : World) (e : Ending) (w' : World) : Prop := e = .returned (.bool true) ∧ Drawn w w'
def EqRel (n : Nat) (w : World) (i : Value) (wr : World) : Prop := ∃ k m : Nat, k ≤ n ∧ i = .int .i64 k ∧ wr = w.drewN m


theorem IsFloats.drewN {k : FloatKind} {w : World} {a : Option Addr} {len cap : Nat} {zs : List Nat} (h : IsFloats k w a len cap zs) (n : Nat) : IsFloats k (w.drewN n) a len cap zs := h.kept (below_drewN (Below.refl _ _) n)
/-- two stretches of a walk, each of which turns nothing that was there -/
theorem Below.next {w w1 w2 : World} (h1 : Below w.heap.size w w1) (h2 : Below w1.heap.size w1 w2) : Below w.heap.size w w2 := h1.trans (h2.mono h1.size)
end Go.Proofs.YtjecphimknfphaaDoor
