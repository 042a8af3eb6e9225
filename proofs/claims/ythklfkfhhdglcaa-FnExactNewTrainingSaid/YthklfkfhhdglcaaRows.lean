/-
  No cell of these rows narrows 'for every input' (looked for: loops, veiled, ifaces, maps, wideKeys, modest, calm, conditions, laid).
  DERIVED. THE GIVEN ROWS OF THIS SEAT. 12 by the template 'for every input the law returns true; each argument reads behind the call as it read before'; 0 by the template 'total and deterministic' (their statements: YthklfkfhhdglcaaTotals.lean).
  GIVEN WITH THE SEED: the statements are not yours to turn. If you find one false, say at which input.
  Laid BY PROGRAM, IN A SANDBOX (cutbox-rows.mjs): the forced cells as the released guide's own fill.sh prints them over the translation a1a2fedec0f10c74… (all of the seat's roots in one cut). By AI agents, Wed Nov 11 2026. No macro, syntax, notation, axiom, sorry.
-/
import Derived.Test.YthklfkfhhdglcaaChecked
import GoSem.Claim
import GoSem.ClaimJoined
import GoSem.ClaimMapViews
import Derived.JoinedTies
import Derived.KernelRfl
namespace Go.Proofs.Ythklfkfhhdglcaa
/- THE CELL 'sum', in the pinned program and in every row, IS THE sha256 OF THE DUMP (.gsa) THAT YthklfkfhhdglcaaProg.lean LOADS. Nothing in Lean hashes anything: it is a label: what it is worth is what the hold of that sum in a sandbox is worth. -/
noncomputable def Try.pinned : Pinned := { name := "ythklfkfhhdglcaa", sum := "a1a2fedec0f10c74f27fe9f36bf03bc59b09bd28665785fa31fa42b6fe95e54b", checked := Try.checked }
namespace Rows
def none {H : Type} : Left H := { results := [], args := [] }

/-- 'laws.FnBatches': WHATEVER THE INPUT: true; the input reads as it did. -/
def fnBatchesSpec : ChangeSpec := { name := "fnBatches", fn := fun _ => fun
  | [d1, d2] => { results := [.lit (.bool true)], args := [d1, d2] }
  | _ => none }
def fnBatchesRow : OpenClaim := { program := "ythklfkfhhdglcaa", sum := "a1a2fedec0f10c74f27fe9f36bf03bc59b09bd28665785fa31fa42b6fe95e54b", func := "loop.example/g01157/laws.FnBatches", spec := "fnBatches", apart := false }
def FnBatchesSaid : Prop := fnBatchesRow.holds Try.pinned (OpenSpec.ofChange fnBatchesSpec)

/-- ITS FALSE NEIGHBOUR: 'it returns false'. Refute it at one input. -/
def fnBatchesWrong : ChangeSpec := { name := "fnBatches", fn := fun _ => fun
  | [d1, d2] => { results := [.lit (.bool false)], args := [d1, d2] }
  | _ => none }
def FnBatchesWrongFalsely : Prop := fnBatchesRow.holds Try.pinned (OpenSpec.ofChange fnBatchesWrong)

/-- 'laws.FnStopped': WHATEVER THE INPUT: true; the input reads as it did. -/
def fnStoppedSpec : ChangeSpec := { name := "fnStopped", fn := fun _ => fun
  | [d1, d2] => { results := [.lit (.bool true)], args := [d1, d2] }
  | _ => none }
def fnStoppedRow : OpenClaim := { program := "ythklfkfhhdglcaa", sum := "a1a2fedec0f10c74f27fe9f36bf03bc59b09bd28665785fa31fa42b6fe95e54b", func := "loop.example/g01157/laws.FnStopped", spec := "fnStopped", inPlace := ["math.Float32frombits", "math.Float32bits"], unfollowed := true, recurses := true, apart := false }
def FnStoppedSaid : Prop := fnStoppedRow.holds Try.pinned (OpenSpec.ofChange fnStoppedSpec)

/-- ITS FALSE NEIGHBOUR: 'it returns false'. Refute it at one input. -/
def fnStoppedWrong : ChangeSpec := { name := "fnStopped", fn := fun _ => fun
  | [d1, d2] => { results := [.lit (.bool false)], args := [d1, d2] }
  | _ => none }
def FnStoppedWrongFalsely : Prop := fnStoppedRow.holds Try.pinned (OpenSpec.ofChange fnStoppedWrong)

/-- 'laws.FnExactNextSeed': WHATEVER THE INPUT: true; the input reads as it did. -/
def fnExactNextSeedSpec : ChangeSpec := { name := "fnExactNextSeed", fn := fun _ => fun
  | [d] => { results := [.lit (.bool true)], args := [d] }
  | _ => none }
def fnExactNextSeedRow : OpenClaim := { program := "ythklfkfhhdglcaa", sum := "a1a2fedec0f10c74f27fe9f36bf03bc59b09bd28665785fa31fa42b6fe95e54b", func := "loop.example/g01157/laws.FnExactNextSeed", spec := "fnExactNextSeed", apart := false }
def FnExactNextSeedSaid : Prop := fnExactNextSeedRow.holds Try.pinned (OpenSpec.ofChange fnExactNextSeedSpec)

/-- ITS FALSE NEIGHBOUR: 'it returns false'. Refute it at one input. -/
def fnExactNextSeedWrong : ChangeSpec := { name := "fnExactNextSeed", fn := fun _ => fun
  | [d] => { results := [.lit (.bool false)], args := [d] }
  | _ => none }
def FnExactNextSeedWrongFalsely : Prop := fnExactNextSeedRow.holds Try.pinned (OpenSpec.ofChange fnExactNextSeedWrong)

/-- 'laws.FnExactShuffleRows': WHATEVER THE INPUT: true; the input reads as it did. -/
def fnExactShuffleRowsSpec : ChangeSpec := { name := "fnExactShuffleRows", fn := fun _ => fun
  | [d1, d2] => { results := [.lit (.bool true)], args := [d1, d2] }
  | _ => none }
def fnExactShuffleRowsRow : OpenClaim := { program := "ythklfkfhhdglcaa", sum := "a1a2fedec0f10c74f27fe9f36bf03bc59b09bd28665785fa31fa42b6fe95e54b", func := "loop.example/g01157/laws.FnExactShuffleRows", spec := "fnExactShuffleRows", apart := false }
def FnExactShuffleRowsSaid : Prop := fnExactShuffleRowsRow.holds Try.pinned (OpenSpec.ofChange fnExactShuffleRowsSpec)

/-- ITS FALSE NEIGHBOUR: 'it returns false'. Refute it at one input. -/
def fnExactShuffleRowsWrong : ChangeSpec := { name := "fnExactShuffleRows", fn := fun _ => fun
  | [d1, d2] => { results := [.lit (.bool false)], args := [d1, d2] }
  | _ => none }
def FnExactShuffleRowsWrongFalsely : Prop := fnExactShuffleRowsRow.holds Try.pinned (OpenSpec.ofChange fnExactShuffleRowsWrong)

/-- 'laws.FnExactBatchOf': WHATEVER THE INPUT: true; the input reads as it did. -/
def fnExactBatchOfSpec : ChangeSpec := { name := "fnExactBatchOf", fn := fun _ => fun
  | [d1, d2, d3, d4] => { results := [.lit (.bool true)], args := [d1, d2, d3, d4] }
  | _ => none }
def fnExactBatchOfRow : OpenClaim := { program := "ythklfkfhhdglcaa", sum := "a1a2fedec0f10c74f27fe9f36bf03bc59b09bd28665785fa31fa42b6fe95e54b", func := "loop.example/g01157/laws.FnExactBatchOf", spec := "fnExactBatchOf", apart := false }
def FnExactBatchOfSaid : Prop := fnExactBatchOfRow.holds Try.pinned (OpenSpec.ofChange fnExactBatchOfSpec)

/-- ITS FALSE NEIGHBOUR: 'it returns false'. Refute it at one input. -/
def fnExactBatchOfWrong : ChangeSpec := { name := "fnExactBatchOf", fn := fun _ => fun
  | [d1, d2, d3, d4] => { results := [.lit (.bool false)], args := [d1, d2, d3, d4] }
  | _ => none }
def FnExactBatchOfWrongFalsely : Prop := fnExactBatchOfRow.holds Try.pinned (OpenSpec.ofChange fnExactBatchOfWrong)

/-- 'laws.FnExactValidExamples': WHATEVER THE INPUT: true; the input reads as it did. -/
def fnExactValidExamplesSpec : ChangeSpec := { name := "fnExactValidExamples", fn := fun _ => fun
  | [d] => { results := [.lit (.bool true)], args := [d] }
  | _ => none }
def fnExactValidExamplesRow : OpenClaim := { program := "ythklfkfhhdglcaa", sum := "a1a2fedec0f10c74f27fe9f36bf03bc59b09bd28665785fa31fa42b6fe95e54b", func := "loop.example/g01157/laws.FnExactValidExamples", spec := "fnExactValidExamples", apart := false }
def FnExactValidExamplesSaid : Prop := fnExactValidExamplesRow.holds Try.pinned (OpenSpec.ofChange fnExactValidExamplesSpec)

/-- ITS FALSE NEIGHBOUR: 'it returns false'. Refute it at one input. -/
def fnExactValidExamplesWrong : ChangeSpec := { name := "fnExactValidExamples", fn := fun _ => fun
  | [d] => { results := [.lit (.bool false)], args := [d] }
  | _ => none }
def FnExactValidExamplesWrongFalsely : Prop := fnExactValidExamplesRow.holds Try.pinned (OpenSpec.ofChange fnExactValidExamplesWrong)

/-- 'laws.FnExactPickRows': WHATEVER THE INPUT: true; the input reads as it did. -/
def fnExactPickRowsSpec : ChangeSpec := { name := "fnExactPickRows", fn := fun _ => fun
  | [d1, d2] => { results := [.lit (.bool true)], args := [d1, d2] }
  | _ => none }
def fnExactPickRowsRow : OpenClaim := { program := "ythklfkfhhdglcaa", sum := "a1a2fedec0f10c74f27fe9f36bf03bc59b09bd28665785fa31fa42b6fe95e54b", func := "loop.example/g01157/laws.FnExactPickRows", spec := "fnExactPickRows", unfollowed := true, recurses := true, apart := false }
def FnExactPickRowsSaid : Prop := fnExactPickRowsRow.holds Try.pinned (OpenSpec.ofChange fnExactPickRowsSpec)

/-- ITS FALSE NEIGHBOUR: 'it returns false'. Refute it at one input. -/
def fnExactPickRowsWrong : ChangeSpec := { name := "fnExactPickRows", fn := fun _ => fun
  | [d1, d2] => { results := [.lit (.bool false)], args := [d1, d2] }
  | _ => none }
def FnExactPickRowsWrongFalsely : Prop := fnExactPickRowsRow.holds Try.pinned (OpenSpec.ofChange fnExactPickRowsWrong)

/-- 'laws.FnExactNewTraining': WHATEVER THE INPUT: true; the input reads as it did. -/
def fnExactNewTrainingSpec : ChangeSpec := { name := "fnExactNewTraining", fn := fun _ => fun
  | [d1, d2, d3] => { results := [.lit (.bool true)], args := [d1, d2, d3] }
  | _ => none }
def fnExactNewTrainingRow : OpenClaim := { program := "ythklfkfhhdglcaa", sum := "a1a2fedec0f10c74f27fe9f36bf03bc59b09bd28665785fa31fa42b6fe95e54b", func := "loop.example/g01157/laws.FnExactNewTraining", spec := "fnExactNewTraining", unfollowed := true, recurses := true, apart := false }
def FnExactNewTrainingSaid : Prop := fnExactNewTrainingRow.holds Try.pinned (OpenSpec.ofChange fnExactNewTrainingSpec)

/-- ITS FALSE NEIGHBOUR: 'it returns false'. Refute it at one input. -/
def fnExactNewTrainingWrong : ChangeSpec := { name := "fnExactNewTraining", fn := fun _ => fun
  | [d1, d2, d3] => { results := [.lit (.bool false)], args := [d1, d2, d3] }
  | _ => none }
def FnExactNewTrainingWrongFalsely : Prop := fnExactNewTrainingRow.holds Try.pinned (OpenSpec.ofChange fnExactNewTrainingWrong)

/-- 'laws.FnExactValidTraining': WHATEVER THE INPUT: true; the input reads as it did. -/
def fnExactValidTrainingSpec : ChangeSpec := { name := "fnExactValidTraining", fn := fun _ => fun
  | [d1, d2] => { results := [.lit (.bool true)], args := [d1, d2] }
  | _ => none }
def fnExactValidTrainingRow : OpenClaim := { program := "ythklfkfhhdglcaa", sum := "a1a2fedec0f10c74f27fe9f36bf03bc59b09bd28665785fa31fa42b6fe95e54b", func := "loop.example/g01157/laws.FnExactValidTraining", spec := "fnExactValidTraining", unfollowed := true, recurses := true, apart := false }
def FnExactValidTrainingSaid : Prop := fnExactValidTrainingRow.holds Try.pinned (OpenSpec.ofChange fnExactValidTrainingSpec)

/-- ITS FALSE NEIGHBOUR: 'it returns false'. Refute it at one input. -/
def fnExactValidTrainingWrong : ChangeSpec := { name := "fnExactValidTraining", fn := fun _ => fun
  | [d1, d2] => { results := [.lit (.bool false)], args := [d1, d2] }
  | _ => none }
def FnExactValidTrainingWrongFalsely : Prop := fnExactValidTrainingRow.holds Try.pinned (OpenSpec.ofChange fnExactValidTrainingWrong)

/-- 'laws.FnExactSameTraining': WHATEVER THE INPUT: true; the input reads as it did. -/
def fnExactSameTrainingSpec : ChangeSpec := { name := "fnExactSameTraining", fn := fun _ => fun
  | [d1, d2] => { results := [.lit (.bool true)], args := [d1, d2] }
  | _ => none }
def fnExactSameTrainingRow : OpenClaim := { program := "ythklfkfhhdglcaa", sum := "a1a2fedec0f10c74f27fe9f36bf03bc59b09bd28665785fa31fa42b6fe95e54b", func := "loop.example/g01157/laws.FnExactSameTraining", spec := "fnExactSameTraining", inPlace := ["math.Float32bits"], unfollowed := true, recurses := true, apart := false }
def FnExactSameTrainingSaid : Prop := fnExactSameTrainingRow.holds Try.pinned (OpenSpec.ofChange fnExactSameTrainingSpec)

/-- ITS FALSE NEIGHBOUR: 'it returns false'. Refute it at one input. -/
def fnExactSameTrainingWrong : ChangeSpec := { name := "fnExactSameTraining", fn := fun _ => fun
  | [d1, d2] => { results := [.lit (.bool false)], args := [d1, d2] }
  | _ => none }
def FnExactSameTrainingWrongFalsely : Prop := fnExactSameTrainingRow.holds Try.pinned (OpenSpec.ofChange fnExactSameTrainingWrong)

/-- 'laws.FnExactBestStep': WHATEVER THE INPUT: true; the input reads as it did. -/
def fnExactBestStepSpec : ChangeSpec := { name := "fnExactBestStep", fn := fun _ => fun
  | [d] => { results := [.lit (.bool true)], args := [d] }
  | _ => none }
def fnExactBestStepRow : OpenClaim := { program := "ythklfkfhhdglcaa", sum := "a1a2fedec0f10c74f27fe9f36bf03bc59b09bd28665785fa31fa42b6fe95e54b", func := "loop.example/g01157/laws.FnExactBestStep", spec := "fnExactBestStep", inPlace := ["math.Float32bits"], apart := false }
def FnExactBestStepSaid : Prop := fnExactBestStepRow.holds Try.pinned (OpenSpec.ofChange fnExactBestStepSpec)

/-- ITS FALSE NEIGHBOUR: 'it returns false'. Refute it at one input. -/
def fnExactBestStepWrong : ChangeSpec := { name := "fnExactBestStep", fn := fun _ => fun
  | [d] => { results := [.lit (.bool false)], args := [d] }
  | _ => none }
def FnExactBestStepWrongFalsely : Prop := fnExactBestStepRow.holds Try.pinned (OpenSpec.ofChange fnExactBestStepWrong)

/-- 'laws.FnExactStopAt': WHATEVER THE INPUT: true; the input reads as it did. -/
def fnExactStopAtSpec : ChangeSpec := { name := "fnExactStopAt", fn := fun _ => fun
  | [d1, d2] => { results := [.lit (.bool true)], args := [d1, d2] }
  | _ => none }
def fnExactStopAtRow : OpenClaim := { program := "ythklfkfhhdglcaa", sum := "a1a2fedec0f10c74f27fe9f36bf03bc59b09bd28665785fa31fa42b6fe95e54b", func := "loop.example/g01157/laws.FnExactStopAt", spec := "fnExactStopAt", unfollowed := true, recurses := true, apart := false }
def FnExactStopAtSaid : Prop := fnExactStopAtRow.holds Try.pinned (OpenSpec.ofChange fnExactStopAtSpec)

/-- ITS FALSE NEIGHBOUR: 'it returns false'. Refute it at one input. -/
def fnExactStopAtWrong : ChangeSpec := { name := "fnExactStopAt", fn := fun _ => fun
  | [d1, d2] => { results := [.lit (.bool false)], args := [d1, d2] }
  | _ => none }
def FnExactStopAtWrongFalsely : Prop := fnExactStopAtRow.holds Try.pinned (OpenSpec.ofChange fnExactStopAtWrong)

/- THE SECOND FORM. 'bulk': how many values and letters a reading holds, each counted each time it is reached (what is shared counts as often as it is met; a slice's spare places count too). A statement '..UptoSaid' is the law's where the arguments, and the package variables that the reading takes, are together of bulk at most 1048576: NARROWER than '..Said'. Prove '..Said' where nothing that the law and all that it calls make is longer than what came in: it says more and counts as full. Else prove '..UptoSaid'. A law counts once. -/
mutual
def uptoBulk {H : Type} : DataW H → Nat
  | .lit (.string bytes) => bytes.length + 1
  | .lit _ => 1
  | .nil => 1
  | .ptr d => uptoBulk d + 1
  | .slice elems spare => uptoBulkAll elems + uptoBulkAll spare + 1
  | .agg parts => uptoBulkAll parts + 1
  | .iface _ d => uptoBulk d + 1
  | .map entries => uptoBulkEntries entries + 1
  | .held _ => 1
def uptoBulkAll {H : Type} : List (DataW H) → Nat
  | [] => 0
  | d :: r => uptoBulk d + uptoBulkAll r
def uptoBulkEntries {H : Type} : List (Lit × DataW H) → Nat
  | [] => 0
  | x :: r => uptoBulkEntry x + uptoBulkEntries r
def uptoBulkEntry {H : Type} : Lit × DataW H → Nat
  | (.string bytes, d) => bytes.length + uptoBulk d + 1
  | (_, d) => uptoBulk d + 1
 end
def uptoSmall : (H : Type) → List (DataW H) → Bool := fun _ ds => decide (uptoBulkAll ds ≤ 1048576)
def OpenSpec.upto (s : _root_.Go.ChangeSpec) : _root_.Go.OpenSpec := { _root_.Go.OpenSpec.ofChange s with cond := some uptoSmall }

/-- 'laws.FnBatches', WHERE WHAT IT READS IS OF BULK AT MOST 1048576: true; the input reads as it did. -/
def fnBatchesUptoRow : OpenClaim := { program := "ythklfkfhhdglcaa", sum := "a1a2fedec0f10c74f27fe9f36bf03bc59b09bd28665785fa31fa42b6fe95e54b", func := "loop.example/g01157/laws.FnBatches", spec := "fnBatches", apart := false, narrowed := true }
def FnBatchesUptoSaid : Prop := fnBatchesUptoRow.holds Try.pinned (OpenSpec.upto fnBatchesSpec)

/-- 'laws.FnStopped', WHERE WHAT IT READS IS OF BULK AT MOST 1048576: true; the input reads as it did. -/
def fnStoppedUptoRow : OpenClaim := { program := "ythklfkfhhdglcaa", sum := "a1a2fedec0f10c74f27fe9f36bf03bc59b09bd28665785fa31fa42b6fe95e54b", func := "loop.example/g01157/laws.FnStopped", spec := "fnStopped", inPlace := ["math.Float32frombits", "math.Float32bits"], unfollowed := true, recurses := true, apart := false, narrowed := true }
def FnStoppedUptoSaid : Prop := fnStoppedUptoRow.holds Try.pinned (OpenSpec.upto fnStoppedSpec)

/-- 'laws.FnExactNextSeed', WHERE WHAT IT READS IS OF BULK AT MOST 1048576: true; the input reads as it did. -/
def fnExactNextSeedUptoRow : OpenClaim := { program := "ythklfkfhhdglcaa", sum := "a1a2fedec0f10c74f27fe9f36bf03bc59b09bd28665785fa31fa42b6fe95e54b", func := "loop.example/g01157/laws.FnExactNextSeed", spec := "fnExactNextSeed", apart := false, narrowed := true }
def FnExactNextSeedUptoSaid : Prop := fnExactNextSeedUptoRow.holds Try.pinned (OpenSpec.upto fnExactNextSeedSpec)

/-- 'laws.FnExactShuffleRows', WHERE WHAT IT READS IS OF BULK AT MOST 1048576: true; the input reads as it did. -/
def fnExactShuffleRowsUptoRow : OpenClaim := { program := "ythklfkfhhdglcaa", sum := "a1a2fedec0f10c74f27fe9f36bf03bc59b09bd28665785fa31fa42b6fe95e54b", func := "loop.example/g01157/laws.FnExactShuffleRows", spec := "fnExactShuffleRows", apart := false, narrowed := true }
def FnExactShuffleRowsUptoSaid : Prop := fnExactShuffleRowsUptoRow.holds Try.pinned (OpenSpec.upto fnExactShuffleRowsSpec)

/-- 'laws.FnExactBatchOf', WHERE WHAT IT READS IS OF BULK AT MOST 1048576: true; the input reads as it did. -/
def fnExactBatchOfUptoRow : OpenClaim := { program := "ythklfkfhhdglcaa", sum := "a1a2fedec0f10c74f27fe9f36bf03bc59b09bd28665785fa31fa42b6fe95e54b", func := "loop.example/g01157/laws.FnExactBatchOf", spec := "fnExactBatchOf", apart := false, narrowed := true }
def FnExactBatchOfUptoSaid : Prop := fnExactBatchOfUptoRow.holds Try.pinned (OpenSpec.upto fnExactBatchOfSpec)

/-- 'laws.FnExactValidExamples', WHERE WHAT IT READS IS OF BULK AT MOST 1048576: true; the input reads as it did. -/
def fnExactValidExamplesUptoRow : OpenClaim := { program := "ythklfkfhhdglcaa", sum := "a1a2fedec0f10c74f27fe9f36bf03bc59b09bd28665785fa31fa42b6fe95e54b", func := "loop.example/g01157/laws.FnExactValidExamples", spec := "fnExactValidExamples", apart := false, narrowed := true }
def FnExactValidExamplesUptoSaid : Prop := fnExactValidExamplesUptoRow.holds Try.pinned (OpenSpec.upto fnExactValidExamplesSpec)

/-- 'laws.FnExactPickRows', WHERE WHAT IT READS IS OF BULK AT MOST 1048576: true; the input reads as it did. -/
def fnExactPickRowsUptoRow : OpenClaim := { program := "ythklfkfhhdglcaa", sum := "a1a2fedec0f10c74f27fe9f36bf03bc59b09bd28665785fa31fa42b6fe95e54b", func := "loop.example/g01157/laws.FnExactPickRows", spec := "fnExactPickRows", unfollowed := true, recurses := true, apart := false, narrowed := true }
def FnExactPickRowsUptoSaid : Prop := fnExactPickRowsUptoRow.holds Try.pinned (OpenSpec.upto fnExactPickRowsSpec)

/-- 'laws.FnExactNewTraining', WHERE WHAT IT READS IS OF BULK AT MOST 1048576: true; the input reads as it did. -/
def fnExactNewTrainingUptoRow : OpenClaim := { program := "ythklfkfhhdglcaa", sum := "a1a2fedec0f10c74f27fe9f36bf03bc59b09bd28665785fa31fa42b6fe95e54b", func := "loop.example/g01157/laws.FnExactNewTraining", spec := "fnExactNewTraining", unfollowed := true, recurses := true, apart := false, narrowed := true }
def FnExactNewTrainingUptoSaid : Prop := fnExactNewTrainingUptoRow.holds Try.pinned (OpenSpec.upto fnExactNewTrainingSpec)

/-- 'laws.FnExactValidTraining', WHERE WHAT IT READS IS OF BULK AT MOST 1048576: true; the input reads as it did. -/
def fnExactValidTrainingUptoRow : OpenClaim := { program := "ythklfkfhhdglcaa", sum := "a1a2fedec0f10c74f27fe9f36bf03bc59b09bd28665785fa31fa42b6fe95e54b", func := "loop.example/g01157/laws.FnExactValidTraining", spec := "fnExactValidTraining", unfollowed := true, recurses := true, apart := false, narrowed := true }
def FnExactValidTrainingUptoSaid : Prop := fnExactValidTrainingUptoRow.holds Try.pinned (OpenSpec.upto fnExactValidTrainingSpec)

/-- 'laws.FnExactSameTraining', WHERE WHAT IT READS IS OF BULK AT MOST 1048576: true; the input reads as it did. -/
def fnExactSameTrainingUptoRow : OpenClaim := { program := "ythklfkfhhdglcaa", sum := "a1a2fedec0f10c74f27fe9f36bf03bc59b09bd28665785fa31fa42b6fe95e54b", func := "loop.example/g01157/laws.FnExactSameTraining", spec := "fnExactSameTraining", inPlace := ["math.Float32bits"], unfollowed := true, recurses := true, apart := false, narrowed := true }
def FnExactSameTrainingUptoSaid : Prop := fnExactSameTrainingUptoRow.holds Try.pinned (OpenSpec.upto fnExactSameTrainingSpec)

/-- 'laws.FnExactBestStep', WHERE WHAT IT READS IS OF BULK AT MOST 1048576: true; the input reads as it did. -/
def fnExactBestStepUptoRow : OpenClaim := { program := "ythklfkfhhdglcaa", sum := "a1a2fedec0f10c74f27fe9f36bf03bc59b09bd28665785fa31fa42b6fe95e54b", func := "loop.example/g01157/laws.FnExactBestStep", spec := "fnExactBestStep", inPlace := ["math.Float32bits"], apart := false, narrowed := true }
def FnExactBestStepUptoSaid : Prop := fnExactBestStepUptoRow.holds Try.pinned (OpenSpec.upto fnExactBestStepSpec)

/-- 'laws.FnExactStopAt', WHERE WHAT IT READS IS OF BULK AT MOST 1048576: true; the input reads as it did. -/
def fnExactStopAtUptoRow : OpenClaim := { program := "ythklfkfhhdglcaa", sum := "a1a2fedec0f10c74f27fe9f36bf03bc59b09bd28665785fa31fa42b6fe95e54b", func := "loop.example/g01157/laws.FnExactStopAt", spec := "fnExactStopAt", unfollowed := true, recurses := true, apart := false, narrowed := true }
def FnExactStopAtUptoSaid : Prop := fnExactStopAtUptoRow.holds Try.pinned (OpenSpec.upto fnExactStopAtSpec)

end Rows
end Go.Proofs.Ythklfkfhhdglcaa
