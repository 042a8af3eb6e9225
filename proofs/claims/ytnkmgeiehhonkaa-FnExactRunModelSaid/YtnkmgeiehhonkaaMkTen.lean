/-
  Marking a tensor by value, in the words of cells. Conditions: the call made it.
-/
import Derived.Test.YtnkmgeiehhonkaaCl
namespace Go.Proofs.Ytnkmgeiehhonkaa
open Go.RowKit
theorem c_markTen (r c : Int) (a : Option Addr) (cap B k m : Nat) (ys : List Nat) (w : World) (h : OwnL w B [flC a cap ys]) (hm : k + ys.length = m) (hk : k ≤ 4194304) (hl : ys.length ≤ 1048576) :
    Calls Try.prog 73 #[.agg #[.int .i64 r, .int .i64 c, .slice a ys.length cap], .int .i64 k] w fun e w' => e = .returned (.int .i64 (m : Int)) ∧ OwnL w' B [flC a cap (marks k ys.length)] ∧ GrownIn w w' (blL [flC a cap ys]) :=
  (c_markTensor' r c a cap B k m ys w (flL_own.1 h) hm hk hl).mono fun e w' ⟨he, ho, hg⟩ => ⟨he, flL_own.2 ho, by rw [show blL [flC a cap ys] = (blk a).toList by simp [blL, flC_bl]]; exact GrownIn.of_grown hg⟩
theorem held_ten {w : World} {B : Nat} {a : Option Addr} {cap k n : Nat} (h : OwnL w B [flC a cap (marks k n)]) : IsFloats .f32 w a n cap (marks k n) := (flL_own.1 h).held
end Go.Proofs.Ytnkmgeiehhonkaa
