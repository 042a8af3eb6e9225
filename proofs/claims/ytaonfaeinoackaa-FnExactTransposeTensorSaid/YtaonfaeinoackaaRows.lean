/-
  No cell of these rows narrows 'for every input' (looked for: loops, veiled, ifaces, maps, wideKeys, modest, calm, conditions, laid).
  DERIVED. THE GIVEN ROWS OF THIS SEAT. 12 by the template 'for every input the law returns true; each argument reads behind the call as it read before'; 0 by the template 'total and deterministic' (their statements: YtaonfaeinoackaaTotals.lean).
  GIVEN WITH THE SEED: the statements are not yours to turn. If you find one false, say at which input.
  Laid BY PROGRAM, IN A SANDBOX (cutbox-rows.mjs): the forced cells as the released guide's own fill.sh prints them over the translation f74bff54b6dfbf0d… (all of the seat's roots in one cut). By AI agents, Wed Nov 11 2026. No macro, syntax, notation, axiom, sorry.
-/
import Derived.Test.YtaonfaeinoackaaChecked
import GoSem.Claim
import GoSem.ClaimJoined
import GoSem.ClaimMapViews
import Derived.JoinedTies
import Derived.KernelRfl
namespace Go.Proofs.Ytaonfaeinoackaa
/- THE CELL 'sum', in the pinned program and in every row, IS THE sha256 OF THE DUMP (.gsa) THAT YtaonfaeinoackaaProg.lean LOADS. Nothing in Lean hashes anything: it is a label: what it is worth is what the hold of that sum in a sandbox is worth. -/
noncomputable def Try.pinned : Pinned := { name := "ytaonfaeinoackaa", sum := "f74bff54b6dfbf0d9b0fe9458800292e70a31c40ff32ad78c4885775fc262ff9", checked := Try.checked }
namespace Rows
def none {H : Type} : Left H := { results := [], args := [] }

/-- 'laws.FnExactSumNumbers': WHATEVER THE INPUT: true; the input reads as it did. -/
def fnExactSumNumbersSpec : ChangeSpec := { name := "fnExactSumNumbers", fn := fun _ => fun
  | [d] => { results := [.lit (.bool true)], args := [d] }
  | _ => none }
def fnExactSumNumbersRow : OpenClaim := { program := "ytaonfaeinoackaa", sum := "f74bff54b6dfbf0d9b0fe9458800292e70a31c40ff32ad78c4885775fc262ff9", func := "loop.example/g01157/laws.FnExactSumNumbers", spec := "fnExactSumNumbers", apart := false }
def FnExactSumNumbersSaid : Prop := fnExactSumNumbersRow.holds Try.pinned (OpenSpec.ofChange fnExactSumNumbersSpec)

/-- ITS FALSE NEIGHBOUR: 'it returns false'. Refute it at one input. -/
def fnExactSumNumbersWrong : ChangeSpec := { name := "fnExactSumNumbers", fn := fun _ => fun
  | [d] => { results := [.lit (.bool false)], args := [d] }
  | _ => none }
def FnExactSumNumbersWrongFalsely : Prop := fnExactSumNumbersRow.holds Try.pinned (OpenSpec.ofChange fnExactSumNumbersWrong)

/-- 'laws.FnExactDotNumbers': WHATEVER THE INPUT: true; the input reads as it did. -/
def fnExactDotNumbersSpec : ChangeSpec := { name := "fnExactDotNumbers", fn := fun _ => fun
  | [d1, d2] => { results := [.lit (.bool true)], args := [d1, d2] }
  | _ => none }
def fnExactDotNumbersRow : OpenClaim := { program := "ytaonfaeinoackaa", sum := "f74bff54b6dfbf0d9b0fe9458800292e70a31c40ff32ad78c4885775fc262ff9", func := "loop.example/g01157/laws.FnExactDotNumbers", spec := "fnExactDotNumbers", apart := false }
def FnExactDotNumbersSaid : Prop := fnExactDotNumbersRow.holds Try.pinned (OpenSpec.ofChange fnExactDotNumbersSpec)

/-- ITS FALSE NEIGHBOUR: 'it returns false'. Refute it at one input. -/
def fnExactDotNumbersWrong : ChangeSpec := { name := "fnExactDotNumbers", fn := fun _ => fun
  | [d1, d2] => { results := [.lit (.bool false)], args := [d1, d2] }
  | _ => none }
def FnExactDotNumbersWrongFalsely : Prop := fnExactDotNumbersRow.holds Try.pinned (OpenSpec.ofChange fnExactDotNumbersWrong)

/-- 'laws.FnExactSameTensors': WHATEVER THE INPUT: true; the input reads as it did. -/
def fnExactSameTensorsSpec : ChangeSpec := { name := "fnExactSameTensors", fn := fun _ => fun
  | [d1, d2] => { results := [.lit (.bool true)], args := [d1, d2] }
  | _ => none }
def fnExactSameTensorsRow : OpenClaim := { program := "ytaonfaeinoackaa", sum := "f74bff54b6dfbf0d9b0fe9458800292e70a31c40ff32ad78c4885775fc262ff9", func := "loop.example/g01157/laws.FnExactSameTensors", spec := "fnExactSameTensors", inPlace := ["math.Float32bits"], unfollowed := true, recurses := true, apart := false }
def FnExactSameTensorsSaid : Prop := fnExactSameTensorsRow.holds Try.pinned (OpenSpec.ofChange fnExactSameTensorsSpec)

/-- ITS FALSE NEIGHBOUR: 'it returns false'. Refute it at one input. -/
def fnExactSameTensorsWrong : ChangeSpec := { name := "fnExactSameTensors", fn := fun _ => fun
  | [d1, d2] => { results := [.lit (.bool false)], args := [d1, d2] }
  | _ => none }
def FnExactSameTensorsWrongFalsely : Prop := fnExactSameTensorsRow.holds Try.pinned (OpenSpec.ofChange fnExactSameTensorsWrong)

/-- 'laws.FnExactTransposeTensor': WHATEVER THE INPUT: true; the input reads as it did. -/
def fnExactTransposeTensorSpec : ChangeSpec := { name := "fnExactTransposeTensor", fn := fun _ => fun
  | [d] => { results := [.lit (.bool true)], args := [d] }
  | _ => none }
def fnExactTransposeTensorRow : OpenClaim := { program := "ytaonfaeinoackaa", sum := "f74bff54b6dfbf0d9b0fe9458800292e70a31c40ff32ad78c4885775fc262ff9", func := "loop.example/g01157/laws.FnExactTransposeTensor", spec := "fnExactTransposeTensor", apart := false }
def FnExactTransposeTensorSaid : Prop := fnExactTransposeTensorRow.holds Try.pinned (OpenSpec.ofChange fnExactTransposeTensorSpec)

/-- ITS FALSE NEIGHBOUR: 'it returns false'. Refute it at one input. -/
def fnExactTransposeTensorWrong : ChangeSpec := { name := "fnExactTransposeTensor", fn := fun _ => fun
  | [d] => { results := [.lit (.bool false)], args := [d] }
  | _ => none }
def FnExactTransposeTensorWrongFalsely : Prop := fnExactTransposeTensorRow.holds Try.pinned (OpenSpec.ofChange fnExactTransposeTensorWrong)

/-- 'laws.FnExactAddTensors': WHATEVER THE INPUT: true; the input reads as it did. -/
def fnExactAddTensorsSpec : ChangeSpec := { name := "fnExactAddTensors", fn := fun _ => fun
  | [d1, d2] => { results := [.lit (.bool true)], args := [d1, d2] }
  | _ => none }
def fnExactAddTensorsRow : OpenClaim := { program := "ytaonfaeinoackaa", sum := "f74bff54b6dfbf0d9b0fe9458800292e70a31c40ff32ad78c4885775fc262ff9", func := "loop.example/g01157/laws.FnExactAddTensors", spec := "fnExactAddTensors", unfollowed := true, recurses := true, apart := false }
def FnExactAddTensorsSaid : Prop := fnExactAddTensorsRow.holds Try.pinned (OpenSpec.ofChange fnExactAddTensorsSpec)

/-- ITS FALSE NEIGHBOUR: 'it returns false'. Refute it at one input. -/
def fnExactAddTensorsWrong : ChangeSpec := { name := "fnExactAddTensors", fn := fun _ => fun
  | [d1, d2] => { results := [.lit (.bool false)], args := [d1, d2] }
  | _ => none }
def FnExactAddTensorsWrongFalsely : Prop := fnExactAddTensorsRow.holds Try.pinned (OpenSpec.ofChange fnExactAddTensorsWrong)

/-- 'laws.FnExactMulTensors': WHATEVER THE INPUT: true; the input reads as it did. -/
def fnExactMulTensorsSpec : ChangeSpec := { name := "fnExactMulTensors", fn := fun _ => fun
  | [d1, d2] => { results := [.lit (.bool true)], args := [d1, d2] }
  | _ => none }
def fnExactMulTensorsRow : OpenClaim := { program := "ytaonfaeinoackaa", sum := "f74bff54b6dfbf0d9b0fe9458800292e70a31c40ff32ad78c4885775fc262ff9", func := "loop.example/g01157/laws.FnExactMulTensors", spec := "fnExactMulTensors", unfollowed := true, recurses := true, apart := false }
def FnExactMulTensorsSaid : Prop := fnExactMulTensorsRow.holds Try.pinned (OpenSpec.ofChange fnExactMulTensorsSpec)

/-- ITS FALSE NEIGHBOUR: 'it returns false'. Refute it at one input. -/
def fnExactMulTensorsWrong : ChangeSpec := { name := "fnExactMulTensors", fn := fun _ => fun
  | [d1, d2] => { results := [.lit (.bool false)], args := [d1, d2] }
  | _ => none }
def FnExactMulTensorsWrongFalsely : Prop := fnExactMulTensorsRow.holds Try.pinned (OpenSpec.ofChange fnExactMulTensorsWrong)

/-- 'laws.FnExactAddRow': WHATEVER THE INPUT: true; the input reads as it did. -/
def fnExactAddRowSpec : ChangeSpec := { name := "fnExactAddRow", fn := fun _ => fun
  | [d1, d2] => { results := [.lit (.bool true)], args := [d1, d2] }
  | _ => none }
def fnExactAddRowRow : OpenClaim := { program := "ytaonfaeinoackaa", sum := "f74bff54b6dfbf0d9b0fe9458800292e70a31c40ff32ad78c4885775fc262ff9", func := "loop.example/g01157/laws.FnExactAddRow", spec := "fnExactAddRow", unfollowed := true, recurses := true, apart := false }
def FnExactAddRowSaid : Prop := fnExactAddRowRow.holds Try.pinned (OpenSpec.ofChange fnExactAddRowSpec)

/-- ITS FALSE NEIGHBOUR: 'it returns false'. Refute it at one input. -/
def fnExactAddRowWrong : ChangeSpec := { name := "fnExactAddRow", fn := fun _ => fun
  | [d1, d2] => { results := [.lit (.bool false)], args := [d1, d2] }
  | _ => none }
def FnExactAddRowWrongFalsely : Prop := fnExactAddRowRow.holds Try.pinned (OpenSpec.ofChange fnExactAddRowWrong)

/-- 'laws.FnExactMulRow': WHATEVER THE INPUT: true; the input reads as it did. -/
def fnExactMulRowSpec : ChangeSpec := { name := "fnExactMulRow", fn := fun _ => fun
  | [d1, d2] => { results := [.lit (.bool true)], args := [d1, d2] }
  | _ => none }
def fnExactMulRowRow : OpenClaim := { program := "ytaonfaeinoackaa", sum := "f74bff54b6dfbf0d9b0fe9458800292e70a31c40ff32ad78c4885775fc262ff9", func := "loop.example/g01157/laws.FnExactMulRow", spec := "fnExactMulRow", unfollowed := true, recurses := true, apart := false }
def FnExactMulRowSaid : Prop := fnExactMulRowRow.holds Try.pinned (OpenSpec.ofChange fnExactMulRowSpec)

/-- ITS FALSE NEIGHBOUR: 'it returns false'. Refute it at one input. -/
def fnExactMulRowWrong : ChangeSpec := { name := "fnExactMulRow", fn := fun _ => fun
  | [d1, d2] => { results := [.lit (.bool false)], args := [d1, d2] }
  | _ => none }
def FnExactMulRowWrongFalsely : Prop := fnExactMulRowRow.holds Try.pinned (OpenSpec.ofChange fnExactMulRowWrong)

/-- 'laws.FnExactScaleTensor': WHATEVER THE INPUT: true; the input reads as it did. -/
def fnExactScaleTensorSpec : ChangeSpec := { name := "fnExactScaleTensor", fn := fun _ => fun
  | [d1, d2] => { results := [.lit (.bool true)], args := [d1, d2] }
  | _ => none }
def fnExactScaleTensorRow : OpenClaim := { program := "ytaonfaeinoackaa", sum := "f74bff54b6dfbf0d9b0fe9458800292e70a31c40ff32ad78c4885775fc262ff9", func := "loop.example/g01157/laws.FnExactScaleTensor", spec := "fnExactScaleTensor", unfollowed := true, recurses := true, apart := false }
def FnExactScaleTensorSaid : Prop := fnExactScaleTensorRow.holds Try.pinned (OpenSpec.ofChange fnExactScaleTensorSpec)

/-- ITS FALSE NEIGHBOUR: 'it returns false'. Refute it at one input. -/
def fnExactScaleTensorWrong : ChangeSpec := { name := "fnExactScaleTensor", fn := fun _ => fun
  | [d1, d2] => { results := [.lit (.bool false)], args := [d1, d2] }
  | _ => none }
def FnExactScaleTensorWrongFalsely : Prop := fnExactScaleTensorRow.holds Try.pinned (OpenSpec.ofChange fnExactScaleTensorWrong)

/-- 'laws.FnExactReluTensor': WHATEVER THE INPUT: true; the input reads as it did. -/
def fnExactReluTensorSpec : ChangeSpec := { name := "fnExactReluTensor", fn := fun _ => fun
  | [d] => { results := [.lit (.bool true)], args := [d] }
  | _ => none }
def fnExactReluTensorRow : OpenClaim := { program := "ytaonfaeinoackaa", sum := "f74bff54b6dfbf0d9b0fe9458800292e70a31c40ff32ad78c4885775fc262ff9", func := "loop.example/g01157/laws.FnExactReluTensor", spec := "fnExactReluTensor", unfollowed := true, recurses := true, apart := false }
def FnExactReluTensorSaid : Prop := fnExactReluTensorRow.holds Try.pinned (OpenSpec.ofChange fnExactReluTensorSpec)

/-- ITS FALSE NEIGHBOUR: 'it returns false'. Refute it at one input. -/
def fnExactReluTensorWrong : ChangeSpec := { name := "fnExactReluTensor", fn := fun _ => fun
  | [d] => { results := [.lit (.bool false)], args := [d] }
  | _ => none }
def FnExactReluTensorWrongFalsely : Prop := fnExactReluTensorRow.holds Try.pinned (OpenSpec.ofChange fnExactReluTensorWrong)

/-- 'laws.FnExactSumRows': WHATEVER THE INPUT: true; the input reads as it did. -/
def fnExactSumRowsSpec : ChangeSpec := { name := "fnExactSumRows", fn := fun _ => fun
  | [d] => { results := [.lit (.bool true)], args := [d] }
  | _ => none }
def fnExactSumRowsRow : OpenClaim := { program := "ytaonfaeinoackaa", sum := "f74bff54b6dfbf0d9b0fe9458800292e70a31c40ff32ad78c4885775fc262ff9", func := "loop.example/g01157/laws.FnExactSumRows", spec := "fnExactSumRows", unfollowed := true, recurses := true, apart := false }
def FnExactSumRowsSaid : Prop := fnExactSumRowsRow.holds Try.pinned (OpenSpec.ofChange fnExactSumRowsSpec)

/-- ITS FALSE NEIGHBOUR: 'it returns false'. Refute it at one input. -/
def fnExactSumRowsWrong : ChangeSpec := { name := "fnExactSumRows", fn := fun _ => fun
  | [d] => { results := [.lit (.bool false)], args := [d] }
  | _ => none }
def FnExactSumRowsWrongFalsely : Prop := fnExactSumRowsRow.holds Try.pinned (OpenSpec.ofChange fnExactSumRowsWrong)

/-- 'laws.FnExactPoolMean': WHATEVER THE INPUT: true; the input reads as it did. -/
def fnExactPoolMeanSpec : ChangeSpec := { name := "fnExactPoolMean", fn := fun _ => fun
  | [d1, d2] => { results := [.lit (.bool true)], args := [d1, d2] }
  | _ => none }
def fnExactPoolMeanRow : OpenClaim := { program := "ytaonfaeinoackaa", sum := "f74bff54b6dfbf0d9b0fe9458800292e70a31c40ff32ad78c4885775fc262ff9", func := "loop.example/g01157/laws.FnExactPoolMean", spec := "fnExactPoolMean", unfollowed := true, recurses := true, apart := false }
def FnExactPoolMeanSaid : Prop := fnExactPoolMeanRow.holds Try.pinned (OpenSpec.ofChange fnExactPoolMeanSpec)

/-- ITS FALSE NEIGHBOUR: 'it returns false'. Refute it at one input. -/
def fnExactPoolMeanWrong : ChangeSpec := { name := "fnExactPoolMean", fn := fun _ => fun
  | [d1, d2] => { results := [.lit (.bool false)], args := [d1, d2] }
  | _ => none }
def FnExactPoolMeanWrongFalsely : Prop := fnExactPoolMeanRow.holds Try.pinned (OpenSpec.ofChange fnExactPoolMeanWrong)

/- THE SECOND FORM. 'bulk': how many values and letters a reading holds, each counted each time it is reached (what is shared counts as often as it is met; a slice's spare places count too). A statement '..UptoSaid' is the law's where the arguments, and the package variables that the reading takes, are together of bulk at most 1048576: NARROWER than '..Said'. Prove '..Said' where nothing that the law and all that it calls make is longer than what came in: it says more and counts as full. Else prove '..UptoSaid'. A law counts once. -/
mutual
def uptoBulk {H : Type} : DataW H → Nat
  | .lit (.string bytes) => bytes.length + 1
  | .lit _ => 1
  | .nil => 1
  | .ptr d => uptoBulk d + 1
  | .slice elems spare => uptoBulkAll elems + uptoBulkAll spare + 1
  | .agg parts => uptoBulkAll parts + 1
  | .iface _ d => uptoBulk d + 1
  | .map entries => uptoBulkEntries entries + 1
  | .held _ => 1
def uptoBulkAll {H : Type} : List (DataW H) → Nat
  | [] => 0
  | d :: r => uptoBulk d + uptoBulkAll r
def uptoBulkEntries {H : Type} : List (Lit × DataW H) → Nat
  | [] => 0
  | x :: r => uptoBulkEntry x + uptoBulkEntries r
def uptoBulkEntry {H : Type} : Lit × DataW H → Nat
  | (.string bytes, d) => bytes.length + uptoBulk d + 1
  | (_, d) => uptoBulk d + 1
 end
def uptoSmall : (H : Type) → List (DataW H) → Bool := fun _ ds => decide (uptoBulkAll ds ≤ 1048576)
def OpenSpec.upto (s : _root_.Go.ChangeSpec) : _root_.Go.OpenSpec := { _root_.Go.OpenSpec.ofChange s with cond := some uptoSmall }

/-- 'laws.FnExactSumNumbers', WHERE WHAT IT READS IS OF BULK AT MOST 1048576: true; the input reads as it did. -/
def fnExactSumNumbersUptoRow : OpenClaim := { program := "ytaonfaeinoackaa", sum := "f74bff54b6dfbf0d9b0fe9458800292e70a31c40ff32ad78c4885775fc262ff9", func := "loop.example/g01157/laws.FnExactSumNumbers", spec := "fnExactSumNumbers", apart := false, narrowed := true }
def FnExactSumNumbersUptoSaid : Prop := fnExactSumNumbersUptoRow.holds Try.pinned (OpenSpec.upto fnExactSumNumbersSpec)

/-- 'laws.FnExactDotNumbers', WHERE WHAT IT READS IS OF BULK AT MOST 1048576: true; the input reads as it did. -/
def fnExactDotNumbersUptoRow : OpenClaim := { program := "ytaonfaeinoackaa", sum := "f74bff54b6dfbf0d9b0fe9458800292e70a31c40ff32ad78c4885775fc262ff9", func := "loop.example/g01157/laws.FnExactDotNumbers", spec := "fnExactDotNumbers", apart := false, narrowed := true }
def FnExactDotNumbersUptoSaid : Prop := fnExactDotNumbersUptoRow.holds Try.pinned (OpenSpec.upto fnExactDotNumbersSpec)

/-- 'laws.FnExactSameTensors', WHERE WHAT IT READS IS OF BULK AT MOST 1048576: true; the input reads as it did. -/
def fnExactSameTensorsUptoRow : OpenClaim := { program := "ytaonfaeinoackaa", sum := "f74bff54b6dfbf0d9b0fe9458800292e70a31c40ff32ad78c4885775fc262ff9", func := "loop.example/g01157/laws.FnExactSameTensors", spec := "fnExactSameTensors", inPlace := ["math.Float32bits"], unfollowed := true, recurses := true, apart := false, narrowed := true }
def FnExactSameTensorsUptoSaid : Prop := fnExactSameTensorsUptoRow.holds Try.pinned (OpenSpec.upto fnExactSameTensorsSpec)

/-- 'laws.FnExactTransposeTensor', WHERE WHAT IT READS IS OF BULK AT MOST 1048576: true; the input reads as it did. -/
def fnExactTransposeTensorUptoRow : OpenClaim := { program := "ytaonfaeinoackaa", sum := "f74bff54b6dfbf0d9b0fe9458800292e70a31c40ff32ad78c4885775fc262ff9", func := "loop.example/g01157/laws.FnExactTransposeTensor", spec := "fnExactTransposeTensor", apart := false, narrowed := true }
def FnExactTransposeTensorUptoSaid : Prop := fnExactTransposeTensorUptoRow.holds Try.pinned (OpenSpec.upto fnExactTransposeTensorSpec)

/-- 'laws.FnExactAddTensors', WHERE WHAT IT READS IS OF BULK AT MOST 1048576: true; the input reads as it did. -/
def fnExactAddTensorsUptoRow : OpenClaim := { program := "ytaonfaeinoackaa", sum := "f74bff54b6dfbf0d9b0fe9458800292e70a31c40ff32ad78c4885775fc262ff9", func := "loop.example/g01157/laws.FnExactAddTensors", spec := "fnExactAddTensors", unfollowed := true, recurses := true, apart := false, narrowed := true }
def FnExactAddTensorsUptoSaid : Prop := fnExactAddTensorsUptoRow.holds Try.pinned (OpenSpec.upto fnExactAddTensorsSpec)

/-- 'laws.FnExactMulTensors', WHERE WHAT IT READS IS OF BULK AT MOST 1048576: true; the input reads as it did. -/
def fnExactMulTensorsUptoRow : OpenClaim := { program := "ytaonfaeinoackaa", sum := "f74bff54b6dfbf0d9b0fe9458800292e70a31c40ff32ad78c4885775fc262ff9", func := "loop.example/g01157/laws.FnExactMulTensors", spec := "fnExactMulTensors", unfollowed := true, recurses := true, apart := false, narrowed := true }
def FnExactMulTensorsUptoSaid : Prop := fnExactMulTensorsUptoRow.holds Try.pinned (OpenSpec.upto fnExactMulTensorsSpec)

/-- 'laws.FnExactAddRow', WHERE WHAT IT READS IS OF BULK AT MOST 1048576: true; the input reads as it did. -/
def fnExactAddRowUptoRow : OpenClaim := { program := "ytaonfaeinoackaa", sum := "f74bff54b6dfbf0d9b0fe9458800292e70a31c40ff32ad78c4885775fc262ff9", func := "loop.example/g01157/laws.FnExactAddRow", spec := "fnExactAddRow", unfollowed := true, recurses := true, apart := false, narrowed := true }
def FnExactAddRowUptoSaid : Prop := fnExactAddRowUptoRow.holds Try.pinned (OpenSpec.upto fnExactAddRowSpec)

/-- 'laws.FnExactMulRow', WHERE WHAT IT READS IS OF BULK AT MOST 1048576: true; the input reads as it did. -/
def fnExactMulRowUptoRow : OpenClaim := { program := "ytaonfaeinoackaa", sum := "f74bff54b6dfbf0d9b0fe9458800292e70a31c40ff32ad78c4885775fc262ff9", func := "loop.example/g01157/laws.FnExactMulRow", spec := "fnExactMulRow", unfollowed := true, recurses := true, apart := false, narrowed := true }
def FnExactMulRowUptoSaid : Prop := fnExactMulRowUptoRow.holds Try.pinned (OpenSpec.upto fnExactMulRowSpec)

/-- 'laws.FnExactScaleTensor', WHERE WHAT IT READS IS OF BULK AT MOST 1048576: true; the input reads as it did. -/
def fnExactScaleTensorUptoRow : OpenClaim := { program := "ytaonfaeinoackaa", sum := "f74bff54b6dfbf0d9b0fe9458800292e70a31c40ff32ad78c4885775fc262ff9", func := "loop.example/g01157/laws.FnExactScaleTensor", spec := "fnExactScaleTensor", unfollowed := true, recurses := true, apart := false, narrowed := true }
def FnExactScaleTensorUptoSaid : Prop := fnExactScaleTensorUptoRow.holds Try.pinned (OpenSpec.upto fnExactScaleTensorSpec)

/-- 'laws.FnExactReluTensor', WHERE WHAT IT READS IS OF BULK AT MOST 1048576: true; the input reads as it did. -/
def fnExactReluTensorUptoRow : OpenClaim := { program := "ytaonfaeinoackaa", sum := "f74bff54b6dfbf0d9b0fe9458800292e70a31c40ff32ad78c4885775fc262ff9", func := "loop.example/g01157/laws.FnExactReluTensor", spec := "fnExactReluTensor", unfollowed := true, recurses := true, apart := false, narrowed := true }
def FnExactReluTensorUptoSaid : Prop := fnExactReluTensorUptoRow.holds Try.pinned (OpenSpec.upto fnExactReluTensorSpec)

/-- 'laws.FnExactSumRows', WHERE WHAT IT READS IS OF BULK AT MOST 1048576: true; the input reads as it did. -/
def fnExactSumRowsUptoRow : OpenClaim := { program := "ytaonfaeinoackaa", sum := "f74bff54b6dfbf0d9b0fe9458800292e70a31c40ff32ad78c4885775fc262ff9", func := "loop.example/g01157/laws.FnExactSumRows", spec := "fnExactSumRows", unfollowed := true, recurses := true, apart := false, narrowed := true }
def FnExactSumRowsUptoSaid : Prop := fnExactSumRowsUptoRow.holds Try.pinned (OpenSpec.upto fnExactSumRowsSpec)

/-- 'laws.FnExactPoolMean', WHERE WHAT IT READS IS OF BULK AT MOST 1048576: true; the input reads as it did. -/
def fnExactPoolMeanUptoRow : OpenClaim := { program := "ytaonfaeinoackaa", sum := "f74bff54b6dfbf0d9b0fe9458800292e70a31c40ff32ad78c4885775fc262ff9", func := "loop.example/g01157/laws.FnExactPoolMean", spec := "fnExactPoolMean", unfollowed := true, recurses := true, apart := false, narrowed := true }
def FnExactPoolMeanUptoSaid : Prop := fnExactPoolMeanUptoRow.holds Try.pinned (OpenSpec.upto fnExactPoolMeanSpec)

end Rows
end Go.Proofs.Ytaonfaeinoackaa
