/-
  No cell of these rows narrows 'for every input' (looked for: loops, veiled, ifaces, maps, wideKeys, modest, calm, conditions, laid).
  DERIVED. THE GIVEN ROWS OF THIS SEAT. 4 by the template 'for every input the law returns true; each argument reads behind the call as it read before'; 0 by the template 'total and deterministic' (their statements: YtlddonneccihiaaTotals.lean).
  GIVEN WITH THE SEED: the statements are not yours to turn. If you find one false, say at which input.
  Laid BY PROGRAM, IN A SANDBOX (cutbox-rows.mjs): the forced cells as the released guide's own fill.sh prints them over the translation 8896f21b4dd8ed7e… (all of the seat's roots in one cut). By AI agents, Wed Nov 11 2026. No macro, syntax, notation, axiom, sorry.
-/
import Derived.Test.YtlddonneccihiaaChecked
import GoSem.Claim
import GoSem.ClaimJoined
import GoSem.ClaimMapViews
import Derived.JoinedTies
import Derived.KernelRfl
namespace Go.Proofs.Ytlddonneccihiaa
/- THE CELL 'sum', in the pinned program and in every row, IS THE sha256 OF THE DUMP (.gsa) THAT YtlddonneccihiaaProg.lean LOADS. Nothing in Lean hashes anything: it is a label: what it is worth is what the hold of that sum in a sandbox is worth. -/
noncomputable def Try.pinned : Pinned := { name := "ytlddonneccihiaa", sum := "8896f21b4dd8ed7efe8c4cacb83480dfaa133ec55aab5c5760898f178fe8235c", checked := Try.checked }
namespace Rows
def none {H : Type} : Left H := { results := [], args := [] }

/-- 'laws.FnExactSameTraining': WHATEVER THE INPUT: true; the input reads as it did. -/
def fnExactSameTrainingSpec : ChangeSpec := { name := "fnExactSameTraining", fn := fun _ => fun
  | [d1, d2] => { results := [.lit (.bool true)], args := [d1, d2] }
  | _ => none }
def fnExactSameTrainingRow : OpenClaim := { program := "ytlddonneccihiaa", sum := "8896f21b4dd8ed7efe8c4cacb83480dfaa133ec55aab5c5760898f178fe8235c", func := "loop.example/g01157/laws.FnExactSameTraining", spec := "fnExactSameTraining", inPlace := ["math.Float32bits"], unfollowed := true, recurses := true, apart := false }
def FnExactSameTrainingSaid : Prop := fnExactSameTrainingRow.holds Try.pinned (OpenSpec.ofChange fnExactSameTrainingSpec)

/-- ITS FALSE NEIGHBOUR: 'it returns false'. Refute it at one input. -/
def fnExactSameTrainingWrong : ChangeSpec := { name := "fnExactSameTraining", fn := fun _ => fun
  | [d1, d2] => { results := [.lit (.bool false)], args := [d1, d2] }
  | _ => none }
def FnExactSameTrainingWrongFalsely : Prop := fnExactSameTrainingRow.holds Try.pinned (OpenSpec.ofChange fnExactSameTrainingWrong)

/-- 'laws.FnExactConvolveRow': WHATEVER THE INPUT: true; the input reads as it did. -/
def fnExactConvolveRowSpec : ChangeSpec := { name := "fnExactConvolveRow", fn := fun _ => fun
  | [d1, d2, d3] => { results := [.lit (.bool true)], args := [d1, d2, d3] }
  | _ => none }
def fnExactConvolveRowRow : OpenClaim := { program := "ytlddonneccihiaa", sum := "8896f21b4dd8ed7efe8c4cacb83480dfaa133ec55aab5c5760898f178fe8235c", func := "loop.example/g01157/laws.FnExactConvolveRow", spec := "fnExactConvolveRow", unfollowed := true, recurses := true, apart := false }
def FnExactConvolveRowSaid : Prop := fnExactConvolveRowRow.holds Try.pinned (OpenSpec.ofChange fnExactConvolveRowSpec)

/-- ITS FALSE NEIGHBOUR: 'it returns false'. Refute it at one input. -/
def fnExactConvolveRowWrong : ChangeSpec := { name := "fnExactConvolveRow", fn := fun _ => fun
  | [d1, d2, d3] => { results := [.lit (.bool false)], args := [d1, d2, d3] }
  | _ => none }
def FnExactConvolveRowWrongFalsely : Prop := fnExactConvolveRowRow.holds Try.pinned (OpenSpec.ofChange fnExactConvolveRowWrong)

/-- 'laws.FnExactConvolveImage': WHATEVER THE INPUT: true; the input reads as it did. -/
def fnExactConvolveImageSpec : ChangeSpec := { name := "fnExactConvolveImage", fn := fun _ => fun
  | [d1, d2] => { results := [.lit (.bool true)], args := [d1, d2] }
  | _ => none }
def fnExactConvolveImageRow : OpenClaim := { program := "ytlddonneccihiaa", sum := "8896f21b4dd8ed7efe8c4cacb83480dfaa133ec55aab5c5760898f178fe8235c", func := "loop.example/g01157/laws.FnExactConvolveImage", spec := "fnExactConvolveImage", unfollowed := true, recurses := true, apart := false }
def FnExactConvolveImageSaid : Prop := fnExactConvolveImageRow.holds Try.pinned (OpenSpec.ofChange fnExactConvolveImageSpec)

/-- ITS FALSE NEIGHBOUR: 'it returns false'. Refute it at one input. -/
def fnExactConvolveImageWrong : ChangeSpec := { name := "fnExactConvolveImage", fn := fun _ => fun
  | [d1, d2] => { results := [.lit (.bool false)], args := [d1, d2] }
  | _ => none }
def FnExactConvolveImageWrongFalsely : Prop := fnExactConvolveImageRow.holds Try.pinned (OpenSpec.ofChange fnExactConvolveImageWrong)

/-- 'laws.FnExactTransposeTensor': WHATEVER THE INPUT: true; the input reads as it did. -/
def fnExactTransposeTensorSpec : ChangeSpec := { name := "fnExactTransposeTensor", fn := fun _ => fun
  | [d] => { results := [.lit (.bool true)], args := [d] }
  | _ => none }
def fnExactTransposeTensorRow : OpenClaim := { program := "ytlddonneccihiaa", sum := "8896f21b4dd8ed7efe8c4cacb83480dfaa133ec55aab5c5760898f178fe8235c", func := "loop.example/g01157/laws.FnExactTransposeTensor", spec := "fnExactTransposeTensor", apart := false }
def FnExactTransposeTensorSaid : Prop := fnExactTransposeTensorRow.holds Try.pinned (OpenSpec.ofChange fnExactTransposeTensorSpec)

/-- ITS FALSE NEIGHBOUR: 'it returns false'. Refute it at one input. -/
def fnExactTransposeTensorWrong : ChangeSpec := { name := "fnExactTransposeTensor", fn := fun _ => fun
  | [d] => { results := [.lit (.bool false)], args := [d] }
  | _ => none }
def FnExactTransposeTensorWrongFalsely : Prop := fnExactTransposeTensorRow.holds Try.pinned (OpenSpec.ofChange fnExactTransposeTensorWrong)

/- THE SECOND FORM. 'bulk': how many values and letters a reading holds, each counted each time it is reached (what is shared counts as often as it is met; a slice's spare places count too). A statement '..UptoSaid' is the law's where the arguments, and the package variables that the reading takes, are together of bulk at most 1048576: NARROWER than '..Said'. Prove '..Said' where nothing that the law and all that it calls make is longer than what came in: it says more and counts as full. Else prove '..UptoSaid'. A law counts once. -/
mutual
def uptoBulk {H : Type} : DataW H → Nat
  | .lit (.string bytes) => bytes.length + 1
  | .lit _ => 1
  | .nil => 1
  | .ptr d => uptoBulk d + 1
  | .slice elems spare => uptoBulkAll elems + uptoBulkAll spare + 1
  | .agg parts => uptoBulkAll parts + 1
  | .iface _ d => uptoBulk d + 1
  | .map entries => uptoBulkEntries entries + 1
  | .held _ => 1
def uptoBulkAll {H : Type} : List (DataW H) → Nat
  | [] => 0
  | d :: r => uptoBulk d + uptoBulkAll r
def uptoBulkEntries {H : Type} : List (Lit × DataW H) → Nat
  | [] => 0
  | x :: r => uptoBulkEntry x + uptoBulkEntries r
def uptoBulkEntry {H : Type} : Lit × DataW H → Nat
  | (.string bytes, d) => bytes.length + uptoBulk d + 1
  | (_, d) => uptoBulk d + 1
 end
def uptoSmall : (H : Type) → List (DataW H) → Bool := fun _ ds => decide (uptoBulkAll ds ≤ 1048576)
def OpenSpec.upto (s : _root_.Go.ChangeSpec) : _root_.Go.OpenSpec := { _root_.Go.OpenSpec.ofChange s with cond := some uptoSmall }

/-- 'laws.FnExactSameTraining', WHERE WHAT IT READS IS OF BULK AT MOST 1048576: true; the input reads as it did. -/
def fnExactSameTrainingUptoRow : OpenClaim := { program := "ytlddonneccihiaa", sum := "8896f21b4dd8ed7efe8c4cacb83480dfaa133ec55aab5c5760898f178fe8235c", func := "loop.example/g01157/laws.FnExactSameTraining", spec := "fnExactSameTraining", inPlace := ["math.Float32bits"], unfollowed := true, recurses := true, apart := false, narrowed := true }
def FnExactSameTrainingUptoSaid : Prop := fnExactSameTrainingUptoRow.holds Try.pinned (OpenSpec.upto fnExactSameTrainingSpec)

/-- 'laws.FnExactConvolveRow', WHERE WHAT IT READS IS OF BULK AT MOST 1048576: true; the input reads as it did. -/
def fnExactConvolveRowUptoRow : OpenClaim := { program := "ytlddonneccihiaa", sum := "8896f21b4dd8ed7efe8c4cacb83480dfaa133ec55aab5c5760898f178fe8235c", func := "loop.example/g01157/laws.FnExactConvolveRow", spec := "fnExactConvolveRow", unfollowed := true, recurses := true, apart := false, narrowed := true }
def FnExactConvolveRowUptoSaid : Prop := fnExactConvolveRowUptoRow.holds Try.pinned (OpenSpec.upto fnExactConvolveRowSpec)

/-- 'laws.FnExactConvolveImage', WHERE WHAT IT READS IS OF BULK AT MOST 1048576: true; the input reads as it did. -/
def fnExactConvolveImageUptoRow : OpenClaim := { program := "ytlddonneccihiaa", sum := "8896f21b4dd8ed7efe8c4cacb83480dfaa133ec55aab5c5760898f178fe8235c", func := "loop.example/g01157/laws.FnExactConvolveImage", spec := "fnExactConvolveImage", unfollowed := true, recurses := true, apart := false, narrowed := true }
def FnExactConvolveImageUptoSaid : Prop := fnExactConvolveImageUptoRow.holds Try.pinned (OpenSpec.upto fnExactConvolveImageSpec)

/-- 'laws.FnExactTransposeTensor', WHERE WHAT IT READS IS OF BULK AT MOST 1048576: true; the input reads as it did. -/
def fnExactTransposeTensorUptoRow : OpenClaim := { program := "ytlddonneccihiaa", sum := "8896f21b4dd8ed7efe8c4cacb83480dfaa133ec55aab5c5760898f178fe8235c", func := "loop.example/g01157/laws.FnExactTransposeTensor", spec := "fnExactTransposeTensor", apart := false, narrowed := true }
def FnExactTransposeTensorUptoSaid : Prop := fnExactTransposeTensorUptoRow.holds Try.pinned (OpenSpec.upto fnExactTransposeTensorSpec)

end Rows
end Go.Proofs.Ytlddonneccihiaa
