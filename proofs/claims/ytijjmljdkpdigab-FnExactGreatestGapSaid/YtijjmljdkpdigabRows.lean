/-
  No cell of these rows narrows 'for every input' (looked for: loops, veiled, ifaces, maps, wideKeys, modest, calm, conditions, laid).
  DERIVED. THE GIVEN ROWS OF THIS SEAT. 12 by the template 'for every input the law returns true; each argument reads behind the call as it read before'; 0 by the template 'total and deterministic' (their statements: YtijjmljdkpdigabTotals.lean).
  GIVEN WITH THE SEED: the statements are not yours to turn. If you find one false, say at which input.
  Laid BY PROGRAM, IN A SANDBOX (cutbox-rows.mjs): the forced cells as the released guide's own fill.sh prints them over the translation ff2877061ed27182… (all of the seat's roots in one cut). By AI agents, Wed Nov 11 2026. No macro, syntax, notation, axiom, sorry.
-/
import Derived.Test.YtijjmljdkpdigabChecked
import GoSem.Claim
import GoSem.ClaimJoined
import GoSem.ClaimMapViews
import Derived.JoinedTies
import Derived.KernelRfl
namespace Go.Proofs.Ytijjmljdkpdigab
/- THE CELL 'sum', in the pinned program and in every row, IS THE sha256 OF THE DUMP (.gsa) THAT YtijjmljdkpdigabProg.lean LOADS. Nothing in Lean hashes anything: it is a label: what it is worth is what the hold of that sum in a sandbox is worth. -/
noncomputable def Try.pinned : Pinned := { name := "ytijjmljdkpdigab", sum := "ff2877061ed27182fb2d3f1df17cf964031d5b8eed8388f970634d91d6abf10f", checked := Try.checked }
namespace Rows
def none {H : Type} : Left H := { results := [], args := [] }

/-- 'laws.FnExactReluTensor': WHATEVER THE INPUT: true; the input reads as it did. -/
def fnExactReluTensorSpec : ChangeSpec := { name := "fnExactReluTensor", fn := fun _ => fun
  | [d] => { results := [.lit (.bool true)], args := [d] }
  | _ => none }
def fnExactReluTensorRow : OpenClaim := { program := "ytijjmljdkpdigab", sum := "ff2877061ed27182fb2d3f1df17cf964031d5b8eed8388f970634d91d6abf10f", func := "loop.example/g01157/laws.FnExactReluTensor", spec := "fnExactReluTensor", inPlace := ["math.Float32bits"], apart := false }
def FnExactReluTensorSaid : Prop := fnExactReluTensorRow.holds Try.pinned (OpenSpec.ofChange fnExactReluTensorSpec)

/-- ITS FALSE NEIGHBOUR: 'it returns false'. Refute it at one input. -/
def fnExactReluTensorWrong : ChangeSpec := { name := "fnExactReluTensor", fn := fun _ => fun
  | [d] => { results := [.lit (.bool false)], args := [d] }
  | _ => none }
def FnExactReluTensorWrongFalsely : Prop := fnExactReluTensorRow.holds Try.pinned (OpenSpec.ofChange fnExactReluTensorWrong)

/-- 'laws.FnExactMatMul': WHATEVER THE INPUT: true; the input reads as it did. -/
def fnExactMatMulSpec : ChangeSpec := { name := "fnExactMatMul", fn := fun _ => fun
  | [d1, d2] => { results := [.lit (.bool true)], args := [d1, d2] }
  | _ => none }
def fnExactMatMulRow : OpenClaim := { program := "ytijjmljdkpdigab", sum := "ff2877061ed27182fb2d3f1df17cf964031d5b8eed8388f970634d91d6abf10f", func := "loop.example/g01157/laws.FnExactMatMul", spec := "fnExactMatMul", unfollowed := true, recurses := true, apart := false }
def FnExactMatMulSaid : Prop := fnExactMatMulRow.holds Try.pinned (OpenSpec.ofChange fnExactMatMulSpec)

/-- ITS FALSE NEIGHBOUR: 'it returns false'. Refute it at one input. -/
def fnExactMatMulWrong : ChangeSpec := { name := "fnExactMatMul", fn := fun _ => fun
  | [d1, d2] => { results := [.lit (.bool false)], args := [d1, d2] }
  | _ => none }
def FnExactMatMulWrongFalsely : Prop := fnExactMatMulRow.holds Try.pinned (OpenSpec.ofChange fnExactMatMulWrong)

/-- 'laws.FnExactMatMulBlocks': WHATEVER THE INPUT: true; the input reads as it did. -/
def fnExactMatMulBlocksSpec : ChangeSpec := { name := "fnExactMatMulBlocks", fn := fun _ => fun
  | [d1, d2, d3] => { results := [.lit (.bool true)], args := [d1, d2, d3] }
  | _ => none }
def fnExactMatMulBlocksRow : OpenClaim := { program := "ytijjmljdkpdigab", sum := "ff2877061ed27182fb2d3f1df17cf964031d5b8eed8388f970634d91d6abf10f", func := "loop.example/g01157/laws.FnExactMatMulBlocks", spec := "fnExactMatMulBlocks", unfollowed := true, recurses := true, apart := false }
def FnExactMatMulBlocksSaid : Prop := fnExactMatMulBlocksRow.holds Try.pinned (OpenSpec.ofChange fnExactMatMulBlocksSpec)

/-- ITS FALSE NEIGHBOUR: 'it returns false'. Refute it at one input. -/
def fnExactMatMulBlocksWrong : ChangeSpec := { name := "fnExactMatMulBlocks", fn := fun _ => fun
  | [d1, d2, d3] => { results := [.lit (.bool false)], args := [d1, d2, d3] }
  | _ => none }
def FnExactMatMulBlocksWrongFalsely : Prop := fnExactMatMulBlocksRow.holds Try.pinned (OpenSpec.ofChange fnExactMatMulBlocksWrong)

/-- 'laws.FnExactMatMulWide': WHATEVER THE INPUT: true; the input reads as it did. -/
def fnExactMatMulWideSpec : ChangeSpec := { name := "fnExactMatMulWide", fn := fun _ => fun
  | [d1, d2] => { results := [.lit (.bool true)], args := [d1, d2] }
  | _ => none }
def fnExactMatMulWideRow : OpenClaim := { program := "ytijjmljdkpdigab", sum := "ff2877061ed27182fb2d3f1df17cf964031d5b8eed8388f970634d91d6abf10f", func := "loop.example/g01157/laws.FnExactMatMulWide", spec := "fnExactMatMulWide", unfollowed := true, recurses := true, apart := false }
def FnExactMatMulWideSaid : Prop := fnExactMatMulWideRow.holds Try.pinned (OpenSpec.ofChange fnExactMatMulWideSpec)

/-- ITS FALSE NEIGHBOUR: 'it returns false'. Refute it at one input. -/
def fnExactMatMulWideWrong : ChangeSpec := { name := "fnExactMatMulWide", fn := fun _ => fun
  | [d1, d2] => { results := [.lit (.bool false)], args := [d1, d2] }
  | _ => none }
def FnExactMatMulWideWrongFalsely : Prop := fnExactMatMulWideRow.holds Try.pinned (OpenSpec.ofChange fnExactMatMulWideWrong)

/-- 'laws.FnExactSumRows': WHATEVER THE INPUT: true; the input reads as it did. -/
def fnExactSumRowsSpec : ChangeSpec := { name := "fnExactSumRows", fn := fun _ => fun
  | [d] => { results := [.lit (.bool true)], args := [d] }
  | _ => none }
def fnExactSumRowsRow : OpenClaim := { program := "ytijjmljdkpdigab", sum := "ff2877061ed27182fb2d3f1df17cf964031d5b8eed8388f970634d91d6abf10f", func := "loop.example/g01157/laws.FnExactSumRows", spec := "fnExactSumRows", unfollowed := true, recurses := true, apart := false }
def FnExactSumRowsSaid : Prop := fnExactSumRowsRow.holds Try.pinned (OpenSpec.ofChange fnExactSumRowsSpec)

/-- ITS FALSE NEIGHBOUR: 'it returns false'. Refute it at one input. -/
def fnExactSumRowsWrong : ChangeSpec := { name := "fnExactSumRows", fn := fun _ => fun
  | [d] => { results := [.lit (.bool false)], args := [d] }
  | _ => none }
def FnExactSumRowsWrongFalsely : Prop := fnExactSumRowsRow.holds Try.pinned (OpenSpec.ofChange fnExactSumRowsWrong)

/-- 'laws.FnExactSumAll': WHATEVER THE INPUT: true; the input reads as it did. -/
def fnExactSumAllSpec : ChangeSpec := { name := "fnExactSumAll", fn := fun _ => fun
  | [d] => { results := [.lit (.bool true)], args := [d] }
  | _ => none }
def fnExactSumAllRow : OpenClaim := { program := "ytijjmljdkpdigab", sum := "ff2877061ed27182fb2d3f1df17cf964031d5b8eed8388f970634d91d6abf10f", func := "loop.example/g01157/laws.FnExactSumAll", spec := "fnExactSumAll", apart := false }
def FnExactSumAllSaid : Prop := fnExactSumAllRow.holds Try.pinned (OpenSpec.ofChange fnExactSumAllSpec)

/-- ITS FALSE NEIGHBOUR: 'it returns false'. Refute it at one input. -/
def fnExactSumAllWrong : ChangeSpec := { name := "fnExactSumAll", fn := fun _ => fun
  | [d] => { results := [.lit (.bool false)], args := [d] }
  | _ => none }
def FnExactSumAllWrongFalsely : Prop := fnExactSumAllRow.holds Try.pinned (OpenSpec.ofChange fnExactSumAllWrong)

/-- 'laws.FnExactGreatestColumns': WHATEVER THE INPUT: true; the input reads as it did. -/
def fnExactGreatestColumnsSpec : ChangeSpec := { name := "fnExactGreatestColumns", fn := fun _ => fun
  | [d] => { results := [.lit (.bool true)], args := [d] }
  | _ => none }
def fnExactGreatestColumnsRow : OpenClaim := { program := "ytijjmljdkpdigab", sum := "ff2877061ed27182fb2d3f1df17cf964031d5b8eed8388f970634d91d6abf10f", func := "loop.example/g01157/laws.FnExactGreatestColumns", spec := "fnExactGreatestColumns", unfollowed := true, recurses := true, apart := false }
def FnExactGreatestColumnsSaid : Prop := fnExactGreatestColumnsRow.holds Try.pinned (OpenSpec.ofChange fnExactGreatestColumnsSpec)

/-- ITS FALSE NEIGHBOUR: 'it returns false'. Refute it at one input. -/
def fnExactGreatestColumnsWrong : ChangeSpec := { name := "fnExactGreatestColumns", fn := fun _ => fun
  | [d] => { results := [.lit (.bool false)], args := [d] }
  | _ => none }
def FnExactGreatestColumnsWrongFalsely : Prop := fnExactGreatestColumnsRow.holds Try.pinned (OpenSpec.ofChange fnExactGreatestColumnsWrong)

/-- 'laws.FnExactGreatestGap': WHATEVER THE INPUT: true; the input reads as it did. -/
def fnExactGreatestGapSpec : ChangeSpec := { name := "fnExactGreatestGap", fn := fun _ => fun
  | [d1, d2] => { results := [.lit (.bool true)], args := [d1, d2] }
  | _ => none }
def fnExactGreatestGapRow : OpenClaim := { program := "ytijjmljdkpdigab", sum := "ff2877061ed27182fb2d3f1df17cf964031d5b8eed8388f970634d91d6abf10f", func := "loop.example/g01157/laws.FnExactGreatestGap", spec := "fnExactGreatestGap", inPlace := ["math.Float64bits", "math.Float64frombits"], apart := false }
def FnExactGreatestGapSaid : Prop := fnExactGreatestGapRow.holds Try.pinned (OpenSpec.ofChange fnExactGreatestGapSpec)

/-- ITS FALSE NEIGHBOUR: 'it returns false'. Refute it at one input. -/
def fnExactGreatestGapWrong : ChangeSpec := { name := "fnExactGreatestGap", fn := fun _ => fun
  | [d1, d2] => { results := [.lit (.bool false)], args := [d1, d2] }
  | _ => none }
def FnExactGreatestGapWrongFalsely : Prop := fnExactGreatestGapRow.holds Try.pinned (OpenSpec.ofChange fnExactGreatestGapWrong)

/-- 'laws.FnTensorSums': WHATEVER THE INPUT: true; the input reads as it did. -/
def fnTensorSumsSpec : ChangeSpec := { name := "fnTensorSums", fn := fun _ => fun
  | [d1, d2] => { results := [.lit (.bool true)], args := [d1, d2] }
  | _ => none }
def fnTensorSumsRow : OpenClaim := { program := "ytijjmljdkpdigab", sum := "ff2877061ed27182fb2d3f1df17cf964031d5b8eed8388f970634d91d6abf10f", func := "loop.example/g01157/laws.FnTensorSums", spec := "fnTensorSums", inPlace := ["math.Float32frombits", "math.Float32bits"], unfollowed := true, recurses := true, apart := false }
def FnTensorSumsSaid : Prop := fnTensorSumsRow.holds Try.pinned (OpenSpec.ofChange fnTensorSumsSpec)

/-- ITS FALSE NEIGHBOUR: 'it returns false'. Refute it at one input. -/
def fnTensorSumsWrong : ChangeSpec := { name := "fnTensorSums", fn := fun _ => fun
  | [d1, d2] => { results := [.lit (.bool false)], args := [d1, d2] }
  | _ => none }
def FnTensorSumsWrongFalsely : Prop := fnTensorSumsRow.holds Try.pinned (OpenSpec.ofChange fnTensorSumsWrong)

/-- 'laws.FnProducts': WHATEVER THE INPUT: true; the input reads as it did. -/
def fnProductsSpec : ChangeSpec := { name := "fnProducts", fn := fun _ => fun
  | [d1, d2] => { results := [.lit (.bool true)], args := [d1, d2] }
  | _ => none }
def fnProductsRow : OpenClaim := { program := "ytijjmljdkpdigab", sum := "ff2877061ed27182fb2d3f1df17cf964031d5b8eed8388f970634d91d6abf10f", func := "loop.example/g01157/laws.FnProducts", spec := "fnProducts", inPlace := ["math.Float32frombits", "math.Float32bits"], unfollowed := true, recurses := true, apart := false }
def FnProductsSaid : Prop := fnProductsRow.holds Try.pinned (OpenSpec.ofChange fnProductsSpec)

/-- ITS FALSE NEIGHBOUR: 'it returns false'. Refute it at one input. -/
def fnProductsWrong : ChangeSpec := { name := "fnProducts", fn := fun _ => fun
  | [d1, d2] => { results := [.lit (.bool false)], args := [d1, d2] }
  | _ => none }
def FnProductsWrongFalsely : Prop := fnProductsRow.holds Try.pinned (OpenSpec.ofChange fnProductsWrong)

/-- 'laws.FnExactProducts': WHATEVER THE INPUT: true; the input reads as it did. -/
def fnExactProductsSpec : ChangeSpec := { name := "fnExactProducts", fn := fun _ => fun
  | [d1, d2] => { results := [.lit (.bool true)], args := [d1, d2] }
  | _ => none }
def fnExactProductsRow : OpenClaim := { program := "ytijjmljdkpdigab", sum := "ff2877061ed27182fb2d3f1df17cf964031d5b8eed8388f970634d91d6abf10f", func := "loop.example/g01157/laws.FnExactProducts", spec := "fnExactProducts", inPlace := ["math.Float32bits", "math.Float64bits", "math.Float64frombits"], unfollowed := true, recurses := true, apart := false }
def FnExactProductsSaid : Prop := fnExactProductsRow.holds Try.pinned (OpenSpec.ofChange fnExactProductsSpec)

/-- ITS FALSE NEIGHBOUR: 'it returns false'. Refute it at one input. -/
def fnExactProductsWrong : ChangeSpec := { name := "fnExactProducts", fn := fun _ => fun
  | [d1, d2] => { results := [.lit (.bool false)], args := [d1, d2] }
  | _ => none }
def FnExactProductsWrongFalsely : Prop := fnExactProductsRow.holds Try.pinned (OpenSpec.ofChange fnExactProductsWrong)

/-- 'laws.FnParts': WHATEVER THE INPUT: true; the input reads as it did. -/
def fnPartsSpec : ChangeSpec := { name := "fnParts", fn := fun _ => fun
  | [d1, d2] => { results := [.lit (.bool true)], args := [d1, d2] }
  | _ => none }
def fnPartsRow : OpenClaim := { program := "ytijjmljdkpdigab", sum := "ff2877061ed27182fb2d3f1df17cf964031d5b8eed8388f970634d91d6abf10f", func := "loop.example/g01157/laws.FnParts", spec := "fnParts", inPlace := ["math.Float32frombits", "math.Float32bits"], unfollowed := true, recurses := true, apart := false }
def FnPartsSaid : Prop := fnPartsRow.holds Try.pinned (OpenSpec.ofChange fnPartsSpec)

/-- ITS FALSE NEIGHBOUR: 'it returns false'. Refute it at one input. -/
def fnPartsWrong : ChangeSpec := { name := "fnParts", fn := fun _ => fun
  | [d1, d2] => { results := [.lit (.bool false)], args := [d1, d2] }
  | _ => none }
def FnPartsWrongFalsely : Prop := fnPartsRow.holds Try.pinned (OpenSpec.ofChange fnPartsWrong)

/- THE SECOND FORM. 'bulk': how many values and letters a reading holds, each counted each time it is reached (what is shared counts as often as it is met; a slice's spare places count too). A statement '..UptoSaid' is the law's where the arguments, and the package variables that the reading takes, are together of bulk at most 1048576: NARROWER than '..Said'. Prove '..Said' where nothing that the law and all that it calls make is longer than what came in: it says more and counts as full. Else prove '..UptoSaid'. A law counts once. -/
mutual
def uptoBulk {H : Type} : DataW H → Nat
  | .lit (.string bytes) => bytes.length + 1
  | .lit _ => 1
  | .nil => 1
  | .ptr d => uptoBulk d + 1
  | .slice elems spare => uptoBulkAll elems + uptoBulkAll spare + 1
  | .agg parts => uptoBulkAll parts + 1
  | .iface _ d => uptoBulk d + 1
  | .map entries => uptoBulkEntries entries + 1
  | .held _ => 1
def uptoBulkAll {H : Type} : List (DataW H) → Nat
  | [] => 0
  | d :: r => uptoBulk d + uptoBulkAll r
def uptoBulkEntries {H : Type} : List (Lit × DataW H) → Nat
  | [] => 0
  | x :: r => uptoBulkEntry x + uptoBulkEntries r
def uptoBulkEntry {H : Type} : Lit × DataW H → Nat
  | (.string bytes, d) => bytes.length + uptoBulk d + 1
  | (_, d) => uptoBulk d + 1
 end
def uptoSmall : (H : Type) → List (DataW H) → Bool := fun _ ds => decide (uptoBulkAll ds ≤ 1048576)
def OpenSpec.upto (s : _root_.Go.ChangeSpec) : _root_.Go.OpenSpec := { _root_.Go.OpenSpec.ofChange s with cond := some uptoSmall }

/-- 'laws.FnExactReluTensor', WHERE WHAT IT READS IS OF BULK AT MOST 1048576: true; the input reads as it did. -/
def fnExactReluTensorUptoRow : OpenClaim := { program := "ytijjmljdkpdigab", sum := "ff2877061ed27182fb2d3f1df17cf964031d5b8eed8388f970634d91d6abf10f", func := "loop.example/g01157/laws.FnExactReluTensor", spec := "fnExactReluTensor", inPlace := ["math.Float32bits"], apart := false, narrowed := true }
def FnExactReluTensorUptoSaid : Prop := fnExactReluTensorUptoRow.holds Try.pinned (OpenSpec.upto fnExactReluTensorSpec)

/-- 'laws.FnExactMatMul', WHERE WHAT IT READS IS OF BULK AT MOST 1048576: true; the input reads as it did. -/
def fnExactMatMulUptoRow : OpenClaim := { program := "ytijjmljdkpdigab", sum := "ff2877061ed27182fb2d3f1df17cf964031d5b8eed8388f970634d91d6abf10f", func := "loop.example/g01157/laws.FnExactMatMul", spec := "fnExactMatMul", unfollowed := true, recurses := true, apart := false, narrowed := true }
def FnExactMatMulUptoSaid : Prop := fnExactMatMulUptoRow.holds Try.pinned (OpenSpec.upto fnExactMatMulSpec)

/-- 'laws.FnExactMatMulBlocks', WHERE WHAT IT READS IS OF BULK AT MOST 1048576: true; the input reads as it did. -/
def fnExactMatMulBlocksUptoRow : OpenClaim := { program := "ytijjmljdkpdigab", sum := "ff2877061ed27182fb2d3f1df17cf964031d5b8eed8388f970634d91d6abf10f", func := "loop.example/g01157/laws.FnExactMatMulBlocks", spec := "fnExactMatMulBlocks", unfollowed := true, recurses := true, apart := false, narrowed := true }
def FnExactMatMulBlocksUptoSaid : Prop := fnExactMatMulBlocksUptoRow.holds Try.pinned (OpenSpec.upto fnExactMatMulBlocksSpec)

/-- 'laws.FnExactMatMulWide', WHERE WHAT IT READS IS OF BULK AT MOST 1048576: true; the input reads as it did. -/
def fnExactMatMulWideUptoRow : OpenClaim := { program := "ytijjmljdkpdigab", sum := "ff2877061ed27182fb2d3f1df17cf964031d5b8eed8388f970634d91d6abf10f", func := "loop.example/g01157/laws.FnExactMatMulWide", spec := "fnExactMatMulWide", unfollowed := true, recurses := true, apart := false, narrowed := true }
def FnExactMatMulWideUptoSaid : Prop := fnExactMatMulWideUptoRow.holds Try.pinned (OpenSpec.upto fnExactMatMulWideSpec)

/-- 'laws.FnExactSumRows', WHERE WHAT IT READS IS OF BULK AT MOST 1048576: true; the input reads as it did. -/
def fnExactSumRowsUptoRow : OpenClaim := { program := "ytijjmljdkpdigab", sum := "ff2877061ed27182fb2d3f1df17cf964031d5b8eed8388f970634d91d6abf10f", func := "loop.example/g01157/laws.FnExactSumRows", spec := "fnExactSumRows", unfollowed := true, recurses := true, apart := false, narrowed := true }
def FnExactSumRowsUptoSaid : Prop := fnExactSumRowsUptoRow.holds Try.pinned (OpenSpec.upto fnExactSumRowsSpec)

/-- 'laws.FnExactSumAll', WHERE WHAT IT READS IS OF BULK AT MOST 1048576: true; the input reads as it did. -/
def fnExactSumAllUptoRow : OpenClaim := { program := "ytijjmljdkpdigab", sum := "ff2877061ed27182fb2d3f1df17cf964031d5b8eed8388f970634d91d6abf10f", func := "loop.example/g01157/laws.FnExactSumAll", spec := "fnExactSumAll", apart := false, narrowed := true }
def FnExactSumAllUptoSaid : Prop := fnExactSumAllUptoRow.holds Try.pinned (OpenSpec.upto fnExactSumAllSpec)

/-- 'laws.FnExactGreatestColumns', WHERE WHAT IT READS IS OF BULK AT MOST 1048576: true; the input reads as it did. -/
def fnExactGreatestColumnsUptoRow : OpenClaim := { program := "ytijjmljdkpdigab", sum := "ff2877061ed27182fb2d3f1df17cf964031d5b8eed8388f970634d91d6abf10f", func := "loop.example/g01157/laws.FnExactGreatestColumns", spec := "fnExactGreatestColumns", unfollowed := true, recurses := true, apart := false, narrowed := true }
def FnExactGreatestColumnsUptoSaid : Prop := fnExactGreatestColumnsUptoRow.holds Try.pinned (OpenSpec.upto fnExactGreatestColumnsSpec)

/-- 'laws.FnExactGreatestGap', WHERE WHAT IT READS IS OF BULK AT MOST 1048576: true; the input reads as it did. -/
def fnExactGreatestGapUptoRow : OpenClaim := { program := "ytijjmljdkpdigab", sum := "ff2877061ed27182fb2d3f1df17cf964031d5b8eed8388f970634d91d6abf10f", func := "loop.example/g01157/laws.FnExactGreatestGap", spec := "fnExactGreatestGap", inPlace := ["math.Float64bits", "math.Float64frombits"], apart := false, narrowed := true }
def FnExactGreatestGapUptoSaid : Prop := fnExactGreatestGapUptoRow.holds Try.pinned (OpenSpec.upto fnExactGreatestGapSpec)

/-- 'laws.FnTensorSums', WHERE WHAT IT READS IS OF BULK AT MOST 1048576: true; the input reads as it did. -/
def fnTensorSumsUptoRow : OpenClaim := { program := "ytijjmljdkpdigab", sum := "ff2877061ed27182fb2d3f1df17cf964031d5b8eed8388f970634d91d6abf10f", func := "loop.example/g01157/laws.FnTensorSums", spec := "fnTensorSums", inPlace := ["math.Float32frombits", "math.Float32bits"], unfollowed := true, recurses := true, apart := false, narrowed := true }
def FnTensorSumsUptoSaid : Prop := fnTensorSumsUptoRow.holds Try.pinned (OpenSpec.upto fnTensorSumsSpec)

/-- 'laws.FnProducts', WHERE WHAT IT READS IS OF BULK AT MOST 1048576: true; the input reads as it did. -/
def fnProductsUptoRow : OpenClaim := { program := "ytijjmljdkpdigab", sum := "ff2877061ed27182fb2d3f1df17cf964031d5b8eed8388f970634d91d6abf10f", func := "loop.example/g01157/laws.FnProducts", spec := "fnProducts", inPlace := ["math.Float32frombits", "math.Float32bits"], unfollowed := true, recurses := true, apart := false, narrowed := true }
def FnProductsUptoSaid : Prop := fnProductsUptoRow.holds Try.pinned (OpenSpec.upto fnProductsSpec)

/-- 'laws.FnExactProducts', WHERE WHAT IT READS IS OF BULK AT MOST 1048576: true; the input reads as it did. -/
def fnExactProductsUptoRow : OpenClaim := { program := "ytijjmljdkpdigab", sum := "ff2877061ed27182fb2d3f1df17cf964031d5b8eed8388f970634d91d6abf10f", func := "loop.example/g01157/laws.FnExactProducts", spec := "fnExactProducts", inPlace := ["math.Float32bits", "math.Float64bits", "math.Float64frombits"], unfollowed := true, recurses := true, apart := false, narrowed := true }
def FnExactProductsUptoSaid : Prop := fnExactProductsUptoRow.holds Try.pinned (OpenSpec.upto fnExactProductsSpec)

/-- 'laws.FnParts', WHERE WHAT IT READS IS OF BULK AT MOST 1048576: true; the input reads as it did. -/
def fnPartsUptoRow : OpenClaim := { program := "ytijjmljdkpdigab", sum := "ff2877061ed27182fb2d3f1df17cf964031d5b8eed8388f970634d91d6abf10f", func := "loop.example/g01157/laws.FnParts", spec := "fnParts", inPlace := ["math.Float32frombits", "math.Float32bits"], unfollowed := true, recurses := true, apart := false, narrowed := true }
def FnPartsUptoSaid : Prop := fnPartsUptoRow.holds Try.pinned (OpenSpec.upto fnPartsSpec)

end Rows
end Go.Proofs.Ytijjmljdkpdigab
