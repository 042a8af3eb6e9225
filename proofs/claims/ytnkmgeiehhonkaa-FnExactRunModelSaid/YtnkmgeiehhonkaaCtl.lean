/-
  A tensor in a box, and ok, behind a cut; what stays of a list of cells when another block is written. Conditions: those each lemma names.
-/
import Derived.Test.YtnkmgeiehhonkaaMkTen
namespace Go.Proofs.Ytnkmgeiehhonkaa
open Go.RowKit Go.Deep Go.WideShapes Go.ChangeShapes

theorem OwnL.upk {w w' : World} {B g : Nat} {l : List Cl} (h : OwnL w B l) (hg : w.grownBy w' (some g)) (hne : ∀ q ∈ blL l, q ≠ g) : OwnL w' B l := by
  refine OwnL.apart (GrownIn.of_grown (a := some ⟨g, 0, none⟩) hg) _ h (fun q hq hs => ?_)
  simp [blk] at hs
  exact hne q hq hs
/-- a tensor in a box, and ok, behind a cut -/
def CutTl (W : World) (R C : Int) (b : Bool) (zs : List Nat) (K : World → Prop) (s t : Value) (wx : World) : Prop :=
  ∃ (ad : Nat) (a : Option Addr) (cap : Nat) (ys : List Nat), s = .pointer (some ⟨ad, 0, none⟩) ∧ t = .bool b ∧ Blk wx ad 69 #[.int .i64 R, .int .i64 C, .slice a ys.length cap] ∧ OwnL wx W.heap.size [flC a cap ys] ∧
    ys.map (canon .f32) = zs ∧ (∀ x ∈ blL [flC a cap ys], x ≠ ad) ∧ Below W.heap.size W wx ∧ K wx
end Go.Proofs.Ytnkmgeiehhonkaa
