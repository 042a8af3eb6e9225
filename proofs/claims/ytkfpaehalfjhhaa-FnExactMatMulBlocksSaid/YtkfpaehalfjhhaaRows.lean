/-
  No cell of these rows narrows 'for every input' (looked for: loops, veiled, ifaces, maps, wideKeys, modest, calm, conditions, laid).
  DERIVED. THE GIVEN ROWS OF THIS SEAT. 6 by the template 'for every input the law returns true; each argument reads behind the call as it read before'; 0 by the template 'total and deterministic' (their statements: YtkfpaehalfjhhaaTotals.lean).
  GIVEN WITH THE SEED: the statements are not yours to turn. If you find one false, say at which input.
  Laid BY PROGRAM, IN A SANDBOX (cutbox-rows.mjs): the forced cells as the released guide's own fill.sh prints them over the translation 4e39b2309cbf35d2… (all of the seat's roots in one cut). By AI agents, Wed Nov 11 2026. No macro, syntax, notation, axiom, sorry.
-/
import Derived.Test.YtkfpaehalfjhhaaChecked
import GoSem.Claim
import GoSem.ClaimJoined
import GoSem.ClaimMapViews
import Derived.JoinedTies
import Derived.KernelRfl
namespace Go.Proofs.Ytkfpaehalfjhhaa
/- THE CELL 'sum', in the pinned program and in every row, IS THE sha256 OF THE DUMP (.gsa) THAT YtkfpaehalfjhhaaProg.lean LOADS. Nothing in Lean hashes anything: it is a label: what it is worth is what the hold of that sum in a sandbox is worth. -/
noncomputable def Try.pinned : Pinned := { name := "ytkfpaehalfjhhaa", sum := "4e39b2309cbf35d23d1dd8e5cf4233896e439420939b54ef3aa63561e8b7fedd", checked := Try.checked }
namespace Rows
def none {H : Type} : Left H := { results := [], args := [] }

/-- 'laws.FnExactMatMul': WHATEVER THE INPUT: true; the input reads as it did. -/
def fnExactMatMulSpec : ChangeSpec := { name := "fnExactMatMul", fn := fun _ => fun
  | [d1, d2] => { results := [.lit (.bool true)], args := [d1, d2] }
  | _ => none }
def fnExactMatMulRow : OpenClaim := { program := "ytkfpaehalfjhhaa", sum := "4e39b2309cbf35d23d1dd8e5cf4233896e439420939b54ef3aa63561e8b7fedd", func := "loop.example/g01157/laws.FnExactMatMul", spec := "fnExactMatMul", unfollowed := true, recurses := true, apart := false }
def FnExactMatMulSaid : Prop := fnExactMatMulRow.holds Try.pinned (OpenSpec.ofChange fnExactMatMulSpec)

/-- ITS FALSE NEIGHBOUR: 'it returns false'. Refute it at one input. -/
def fnExactMatMulWrong : ChangeSpec := { name := "fnExactMatMul", fn := fun _ => fun
  | [d1, d2] => { results := [.lit (.bool false)], args := [d1, d2] }
  | _ => none }
def FnExactMatMulWrongFalsely : Prop := fnExactMatMulRow.holds Try.pinned (OpenSpec.ofChange fnExactMatMulWrong)

/-- 'laws.FnExactMatMulBlocks': WHATEVER THE INPUT: true; the input reads as it did. -/
def fnExactMatMulBlocksSpec : ChangeSpec := { name := "fnExactMatMulBlocks", fn := fun _ => fun
  | [d1, d2, d3] => { results := [.lit (.bool true)], args := [d1, d2, d3] }
  | _ => none }
def fnExactMatMulBlocksRow : OpenClaim := { program := "ytkfpaehalfjhhaa", sum := "4e39b2309cbf35d23d1dd8e5cf4233896e439420939b54ef3aa63561e8b7fedd", func := "loop.example/g01157/laws.FnExactMatMulBlocks", spec := "fnExactMatMulBlocks", unfollowed := true, recurses := true, apart := false }
def FnExactMatMulBlocksSaid : Prop := fnExactMatMulBlocksRow.holds Try.pinned (OpenSpec.ofChange fnExactMatMulBlocksSpec)

/-- ITS FALSE NEIGHBOUR: 'it returns false'. Refute it at one input. -/
def fnExactMatMulBlocksWrong : ChangeSpec := { name := "fnExactMatMulBlocks", fn := fun _ => fun
  | [d1, d2, d3] => { results := [.lit (.bool false)], args := [d1, d2, d3] }
  | _ => none }
def FnExactMatMulBlocksWrongFalsely : Prop := fnExactMatMulBlocksRow.holds Try.pinned (OpenSpec.ofChange fnExactMatMulBlocksWrong)

/-- 'laws.FnExactAttendRows': WHATEVER THE INPUT: true; the input reads as it did. -/
def fnExactAttendRowsSpec : ChangeSpec := { name := "fnExactAttendRows", fn := fun _ => fun
  | [d1, d2, d3, d4] => { results := [.lit (.bool true)], args := [d1, d2, d3, d4] }
  | _ => none }
def fnExactAttendRowsRow : OpenClaim := { program := "ytkfpaehalfjhhaa", sum := "4e39b2309cbf35d23d1dd8e5cf4233896e439420939b54ef3aa63561e8b7fedd", func := "loop.example/g01157/laws.FnExactAttendRows", spec := "fnExactAttendRows", inPlace := ["math.sqrt", "math.Float64frombits"], unfollowed := true, recurses := true, apart := false }
def FnExactAttendRowsSaid : Prop := fnExactAttendRowsRow.holds Try.pinned (OpenSpec.ofChange fnExactAttendRowsSpec)

/-- ITS FALSE NEIGHBOUR: 'it returns false'. Refute it at one input. -/
def fnExactAttendRowsWrong : ChangeSpec := { name := "fnExactAttendRows", fn := fun _ => fun
  | [d1, d2, d3, d4] => { results := [.lit (.bool false)], args := [d1, d2, d3, d4] }
  | _ => none }
def FnExactAttendRowsWrongFalsely : Prop := fnExactAttendRowsRow.holds Try.pinned (OpenSpec.ofChange fnExactAttendRowsWrong)

/-- 'laws.FnParts': WHATEVER THE INPUT: true; the input reads as it did. -/
def fnPartsSpec : ChangeSpec := { name := "fnParts", fn := fun _ => fun
  | [d1, d2] => { results := [.lit (.bool true)], args := [d1, d2] }
  | _ => none }
def fnPartsRow : OpenClaim := { program := "ytkfpaehalfjhhaa", sum := "4e39b2309cbf35d23d1dd8e5cf4233896e439420939b54ef3aa63561e8b7fedd", func := "loop.example/g01157/laws.FnParts", spec := "fnParts", inPlace := ["math.Float32frombits", "math.Float32bits"], unfollowed := true, recurses := true, apart := false }
def FnPartsSaid : Prop := fnPartsRow.holds Try.pinned (OpenSpec.ofChange fnPartsSpec)

/-- ITS FALSE NEIGHBOUR: 'it returns false'. Refute it at one input. -/
def fnPartsWrong : ChangeSpec := { name := "fnParts", fn := fun _ => fun
  | [d1, d2] => { results := [.lit (.bool false)], args := [d1, d2] }
  | _ => none }
def FnPartsWrongFalsely : Prop := fnPartsRow.holds Try.pinned (OpenSpec.ofChange fnPartsWrong)

/-- 'laws.FnTensorSums': WHATEVER THE INPUT: true; the input reads as it did. -/
def fnTensorSumsSpec : ChangeSpec := { name := "fnTensorSums", fn := fun _ => fun
  | [d1, d2] => { results := [.lit (.bool true)], args := [d1, d2] }
  | _ => none }
def fnTensorSumsRow : OpenClaim := { program := "ytkfpaehalfjhhaa", sum := "4e39b2309cbf35d23d1dd8e5cf4233896e439420939b54ef3aa63561e8b7fedd", func := "loop.example/g01157/laws.FnTensorSums", spec := "fnTensorSums", inPlace := ["math.Float32frombits", "math.Float32bits"], unfollowed := true, recurses := true, apart := false }
def FnTensorSumsSaid : Prop := fnTensorSumsRow.holds Try.pinned (OpenSpec.ofChange fnTensorSumsSpec)

/-- ITS FALSE NEIGHBOUR: 'it returns false'. Refute it at one input. -/
def fnTensorSumsWrong : ChangeSpec := { name := "fnTensorSums", fn := fun _ => fun
  | [d1, d2] => { results := [.lit (.bool false)], args := [d1, d2] }
  | _ => none }
def FnTensorSumsWrongFalsely : Prop := fnTensorSumsRow.holds Try.pinned (OpenSpec.ofChange fnTensorSumsWrong)

/-- 'laws.FnExactProducts': WHATEVER THE INPUT: true; the input reads as it did. -/
def fnExactProductsSpec : ChangeSpec := { name := "fnExactProducts", fn := fun _ => fun
  | [d1, d2] => { results := [.lit (.bool true)], args := [d1, d2] }
  | _ => none }
def fnExactProductsRow : OpenClaim := { program := "ytkfpaehalfjhhaa", sum := "4e39b2309cbf35d23d1dd8e5cf4233896e439420939b54ef3aa63561e8b7fedd", func := "loop.example/g01157/laws.FnExactProducts", spec := "fnExactProducts", inPlace := ["math.Float32bits", "math.Float64bits", "math.Float64frombits"], unfollowed := true, recurses := true, apart := false }
def FnExactProductsSaid : Prop := fnExactProductsRow.holds Try.pinned (OpenSpec.ofChange fnExactProductsSpec)

/-- ITS FALSE NEIGHBOUR: 'it returns false'. Refute it at one input. -/
def fnExactProductsWrong : ChangeSpec := { name := "fnExactProducts", fn := fun _ => fun
  | [d1, d2] => { results := [.lit (.bool false)], args := [d1, d2] }
  | _ => none }
def FnExactProductsWrongFalsely : Prop := fnExactProductsRow.holds Try.pinned (OpenSpec.ofChange fnExactProductsWrong)

/- THE SECOND FORM. 'bulk': how many values and letters a reading holds, each counted each time it is reached (what is shared counts as often as it is met; a slice's spare places count too). A statement '..UptoSaid' is the law's where the arguments, and the package variables that the reading takes, are together of bulk at most 1048576: NARROWER than '..Said'. Prove '..Said' where nothing that the law and all that it calls make is longer than what came in: it says more and counts as full. Else prove '..UptoSaid'. A law counts once. -/
mutual
def uptoBulk {H : Type} : DataW H → Nat
  | .lit (.string bytes) => bytes.length + 1
  | .lit _ => 1
  | .nil => 1
  | .ptr d => uptoBulk d + 1
  | .slice elems spare => uptoBulkAll elems + uptoBulkAll spare + 1
  | .agg parts => uptoBulkAll parts + 1
  | .iface _ d => uptoBulk d + 1
  | .map entries => uptoBulkEntries entries + 1
  | .held _ => 1
def uptoBulkAll {H : Type} : List (DataW H) → Nat
  | [] => 0
  | d :: r => uptoBulk d + uptoBulkAll r
def uptoBulkEntries {H : Type} : List (Lit × DataW H) → Nat
  | [] => 0
  | x :: r => uptoBulkEntry x + uptoBulkEntries r
def uptoBulkEntry {H : Type} : Lit × DataW H → Nat
  | (.string bytes, d) => bytes.length + uptoBulk d + 1
  | (_, d) => uptoBulk d + 1
 end
def uptoSmall : (H : Type) → List (DataW H) → Bool := fun _ ds => decide (uptoBulkAll ds ≤ 1048576)
def OpenSpec.upto (s : _root_.Go.ChangeSpec) : _root_.Go.OpenSpec := { _root_.Go.OpenSpec.ofChange s with cond := some uptoSmall }

/-- 'laws.FnExactMatMul', WHERE WHAT IT READS IS OF BULK AT MOST 1048576: true; the input reads as it did. -/
def fnExactMatMulUptoRow : OpenClaim := { program := "ytkfpaehalfjhhaa", sum := "4e39b2309cbf35d23d1dd8e5cf4233896e439420939b54ef3aa63561e8b7fedd", func := "loop.example/g01157/laws.FnExactMatMul", spec := "fnExactMatMul", unfollowed := true, recurses := true, apart := false, narrowed := true }
def FnExactMatMulUptoSaid : Prop := fnExactMatMulUptoRow.holds Try.pinned (OpenSpec.upto fnExactMatMulSpec)

/-- 'laws.FnExactMatMulBlocks', WHERE WHAT IT READS IS OF BULK AT MOST 1048576: true; the input reads as it did. -/
def fnExactMatMulBlocksUptoRow : OpenClaim := { program := "ytkfpaehalfjhhaa", sum := "4e39b2309cbf35d23d1dd8e5cf4233896e439420939b54ef3aa63561e8b7fedd", func := "loop.example/g01157/laws.FnExactMatMulBlocks", spec := "fnExactMatMulBlocks", unfollowed := true, recurses := true, apart := false, narrowed := true }
def FnExactMatMulBlocksUptoSaid : Prop := fnExactMatMulBlocksUptoRow.holds Try.pinned (OpenSpec.upto fnExactMatMulBlocksSpec)

/-- 'laws.FnExactAttendRows', WHERE WHAT IT READS IS OF BULK AT MOST 1048576: true; the input reads as it did. -/
def fnExactAttendRowsUptoRow : OpenClaim := { program := "ytkfpaehalfjhhaa", sum := "4e39b2309cbf35d23d1dd8e5cf4233896e439420939b54ef3aa63561e8b7fedd", func := "loop.example/g01157/laws.FnExactAttendRows", spec := "fnExactAttendRows", inPlace := ["math.sqrt", "math.Float64frombits"], unfollowed := true, recurses := true, apart := false, narrowed := true }
def FnExactAttendRowsUptoSaid : Prop := fnExactAttendRowsUptoRow.holds Try.pinned (OpenSpec.upto fnExactAttendRowsSpec)

/-- 'laws.FnParts', WHERE WHAT IT READS IS OF BULK AT MOST 1048576: true; the input reads as it did. -/
def fnPartsUptoRow : OpenClaim := { program := "ytkfpaehalfjhhaa", sum := "4e39b2309cbf35d23d1dd8e5cf4233896e439420939b54ef3aa63561e8b7fedd", func := "loop.example/g01157/laws.FnParts", spec := "fnParts", inPlace := ["math.Float32frombits", "math.Float32bits"], unfollowed := true, recurses := true, apart := false, narrowed := true }
def FnPartsUptoSaid : Prop := fnPartsUptoRow.holds Try.pinned (OpenSpec.upto fnPartsSpec)

/-- 'laws.FnTensorSums', WHERE WHAT IT READS IS OF BULK AT MOST 1048576: true; the input reads as it did. -/
def fnTensorSumsUptoRow : OpenClaim := { program := "ytkfpaehalfjhhaa", sum := "4e39b2309cbf35d23d1dd8e5cf4233896e439420939b54ef3aa63561e8b7fedd", func := "loop.example/g01157/laws.FnTensorSums", spec := "fnTensorSums", inPlace := ["math.Float32frombits", "math.Float32bits"], unfollowed := true, recurses := true, apart := false, narrowed := true }
def FnTensorSumsUptoSaid : Prop := fnTensorSumsUptoRow.holds Try.pinned (OpenSpec.upto fnTensorSumsSpec)

/-- 'laws.FnExactProducts', WHERE WHAT IT READS IS OF BULK AT MOST 1048576: true; the input reads as it did. -/
def fnExactProductsUptoRow : OpenClaim := { program := "ytkfpaehalfjhhaa", sum := "4e39b2309cbf35d23d1dd8e5cf4233896e439420939b54ef3aa63561e8b7fedd", func := "loop.example/g01157/laws.FnExactProducts", spec := "fnExactProducts", inPlace := ["math.Float32bits", "math.Float64bits", "math.Float64frombits"], unfollowed := true, recurses := true, apart := false, narrowed := true }
def FnExactProductsUptoSaid : Prop := fnExactProductsUptoRow.holds Try.pinned (OpenSpec.upto fnExactProductsSpec)

end Rows
end Go.Proofs.Ytkfpaehalfjhhaa
