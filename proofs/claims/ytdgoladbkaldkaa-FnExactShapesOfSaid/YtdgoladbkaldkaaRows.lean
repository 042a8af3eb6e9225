/-
  No cell of these rows narrows 'for every input' (looked for: loops, veiled, ifaces, maps, wideKeys, modest, calm, conditions, laid).
  DERIVED. THE GIVEN ROWS OF THIS SEAT. 4 by the template 'for every input the law returns true; each argument reads behind the call as it read before'; 0 by the template 'total and deterministic' (their statements: YtdgoladbkaldkaaTotals.lean).
  GIVEN WITH THE SEED: the statements are not yours to turn. If you find one false, say at which input.
  Laid BY PROGRAM, IN A SANDBOX (cutbox-rows.mjs): the forced cells as the released guide's own fill.sh prints them over the translation 41705fdc71a8cce9… (all of the seat's roots in one cut). By AI agents, Wed Nov 11 2026. No macro, syntax, notation, axiom, sorry.
-/
import Derived.Test.YtdgoladbkaldkaaChecked
import GoSem.Claim
import GoSem.ClaimJoined
import GoSem.ClaimMapViews
import Derived.JoinedTies
import Derived.KernelRfl
namespace Go.Proofs.Ytdgoladbkaldkaa
/- THE CELL 'sum', in the pinned program and in every row, IS THE sha256 OF THE DUMP (.gsa) THAT YtdgoladbkaldkaaProg.lean LOADS. Nothing in Lean hashes anything: it is a label: what it is worth is what the hold of that sum in a sandbox is worth. -/
noncomputable def Try.pinned : Pinned := { name := "ytdgoladbkaldkaa", sum := "41705fdc71a8cce9fbae939f86668f7af141ecb6c1b6692dbe2131244a4d9149", checked := Try.checked }
namespace Rows
def none {H : Type} : Left H := { results := [], args := [] }

/-- 'laws.FnExactValidTape': WHATEVER THE INPUT: true; the input reads as it did. -/
def fnExactValidTapeSpec : ChangeSpec := { name := "fnExactValidTape", fn := fun _ => fun
  | [d] => { results := [.lit (.bool true)], args := [d] }
  | _ => none }
def fnExactValidTapeRow : OpenClaim := { program := "ytdgoladbkaldkaa", sum := "41705fdc71a8cce9fbae939f86668f7af141ecb6c1b6692dbe2131244a4d9149", func := "loop.example/g01157/laws.FnExactValidTape", spec := "fnExactValidTape", inPlace := ["math.Float32bits"], unfollowed := true, recurses := true, apart := false }
def FnExactValidTapeSaid : Prop := fnExactValidTapeRow.holds Try.pinned (OpenSpec.ofChange fnExactValidTapeSpec)

/-- ITS FALSE NEIGHBOUR: 'it returns false'. Refute it at one input. -/
def fnExactValidTapeWrong : ChangeSpec := { name := "fnExactValidTape", fn := fun _ => fun
  | [d] => { results := [.lit (.bool false)], args := [d] }
  | _ => none }
def FnExactValidTapeWrongFalsely : Prop := fnExactValidTapeRow.holds Try.pinned (OpenSpec.ofChange fnExactValidTapeWrong)

/-- 'laws.FnExactShapesOf': WHATEVER THE INPUT: true; the input reads as it did. -/
def fnExactShapesOfSpec : ChangeSpec := { name := "fnExactShapesOf", fn := fun _ => fun
  | [d] => { results := [.lit (.bool true)], args := [d] }
  | _ => none }
def fnExactShapesOfRow : OpenClaim := { program := "ytdgoladbkaldkaa", sum := "41705fdc71a8cce9fbae939f86668f7af141ecb6c1b6692dbe2131244a4d9149", func := "loop.example/g01157/laws.FnExactShapesOf", spec := "fnExactShapesOf", inPlace := ["math.Float32bits"], unfollowed := true, recurses := true, apart := false }
def FnExactShapesOfSaid : Prop := fnExactShapesOfRow.holds Try.pinned (OpenSpec.ofChange fnExactShapesOfSpec)

/-- ITS FALSE NEIGHBOUR: 'it returns false'. Refute it at one input. -/
def fnExactShapesOfWrong : ChangeSpec := { name := "fnExactShapesOf", fn := fun _ => fun
  | [d] => { results := [.lit (.bool false)], args := [d] }
  | _ => none }
def FnExactShapesOfWrongFalsely : Prop := fnExactShapesOfRow.holds Try.pinned (OpenSpec.ofChange fnExactShapesOfWrong)

/-- 'laws.FnExactUsedOps': WHATEVER THE INPUT: true; the input reads as it did. -/
def fnExactUsedOpsSpec : ChangeSpec := { name := "fnExactUsedOps", fn := fun _ => fun
  | [d] => { results := [.lit (.bool true)], args := [d] }
  | _ => none }
def fnExactUsedOpsRow : OpenClaim := { program := "ytdgoladbkaldkaa", sum := "41705fdc71a8cce9fbae939f86668f7af141ecb6c1b6692dbe2131244a4d9149", func := "loop.example/g01157/laws.FnExactUsedOps", spec := "fnExactUsedOps", inPlace := ["math.Float32bits"], unfollowed := true, recurses := true, apart := false }
def FnExactUsedOpsSaid : Prop := fnExactUsedOpsRow.holds Try.pinned (OpenSpec.ofChange fnExactUsedOpsSpec)

/-- ITS FALSE NEIGHBOUR: 'it returns false'. Refute it at one input. -/
def fnExactUsedOpsWrong : ChangeSpec := { name := "fnExactUsedOps", fn := fun _ => fun
  | [d] => { results := [.lit (.bool false)], args := [d] }
  | _ => none }
def FnExactUsedOpsWrongFalsely : Prop := fnExactUsedOpsRow.holds Try.pinned (OpenSpec.ofChange fnExactUsedOpsWrong)

/-- 'laws.FnExactReplaceInput': WHATEVER THE INPUT: true; the input reads as it did. -/
def fnExactReplaceInputSpec : ChangeSpec := { name := "fnExactReplaceInput", fn := fun _ => fun
  | [d1, d2, d3] => { results := [.lit (.bool true)], args := [d1, d2, d3] }
  | _ => none }
def fnExactReplaceInputRow : OpenClaim := { program := "ytdgoladbkaldkaa", sum := "41705fdc71a8cce9fbae939f86668f7af141ecb6c1b6692dbe2131244a4d9149", func := "loop.example/g01157/laws.FnExactReplaceInput", spec := "fnExactReplaceInput", inPlace := ["math.Float32bits"], unfollowed := true, recurses := true, apart := false }
def FnExactReplaceInputSaid : Prop := fnExactReplaceInputRow.holds Try.pinned (OpenSpec.ofChange fnExactReplaceInputSpec)

/-- ITS FALSE NEIGHBOUR: 'it returns false'. Refute it at one input. -/
def fnExactReplaceInputWrong : ChangeSpec := { name := "fnExactReplaceInput", fn := fun _ => fun
  | [d1, d2, d3] => { results := [.lit (.bool false)], args := [d1, d2, d3] }
  | _ => none }
def FnExactReplaceInputWrongFalsely : Prop := fnExactReplaceInputRow.holds Try.pinned (OpenSpec.ofChange fnExactReplaceInputWrong)

/- THE SECOND FORM. 'bulk': how many values and letters a reading holds, each counted each time it is reached (what is shared counts as often as it is met; a slice's spare places count too). A statement '..UptoSaid' is the law's where the arguments, and the package variables that the reading takes, are together of bulk at most 1048576: NARROWER than '..Said'. Prove '..Said' where nothing that the law and all that it calls make is longer than what came in: it says more and counts as full. Else prove '..UptoSaid'. A law counts once. -/
mutual
def uptoBulk {H : Type} : DataW H → Nat
  | .lit (.string bytes) => bytes.length + 1
  | .lit _ => 1
  | .nil => 1
  | .ptr d => uptoBulk d + 1
  | .slice elems spare => uptoBulkAll elems + uptoBulkAll spare + 1
  | .agg parts => uptoBulkAll parts + 1
  | .iface _ d => uptoBulk d + 1
  | .map entries => uptoBulkEntries entries + 1
  | .held _ => 1
def uptoBulkAll {H : Type} : List (DataW H) → Nat
  | [] => 0
  | d :: r => uptoBulk d + uptoBulkAll r
def uptoBulkEntries {H : Type} : List (Lit × DataW H) → Nat
  | [] => 0
  | x :: r => uptoBulkEntry x + uptoBulkEntries r
def uptoBulkEntry {H : Type} : Lit × DataW H → Nat
  | (.string bytes, d) => bytes.length + uptoBulk d + 1
  | (_, d) => uptoBulk d + 1
 end
def uptoSmall : (H : Type) → List (DataW H) → Bool := fun _ ds => decide (uptoBulkAll ds ≤ 1048576)
def OpenSpec.upto (s : _root_.Go.ChangeSpec) : _root_.Go.OpenSpec := { _root_.Go.OpenSpec.ofChange s with cond := some uptoSmall }

/-- 'laws.FnExactValidTape', WHERE WHAT IT READS IS OF BULK AT MOST 1048576: true; the input reads as it did. -/
def fnExactValidTapeUptoRow : OpenClaim := { program := "ytdgoladbkaldkaa", sum := "41705fdc71a8cce9fbae939f86668f7af141ecb6c1b6692dbe2131244a4d9149", func := "loop.example/g01157/laws.FnExactValidTape", spec := "fnExactValidTape", inPlace := ["math.Float32bits"], unfollowed := true, recurses := true, apart := false, narrowed := true }
def FnExactValidTapeUptoSaid : Prop := fnExactValidTapeUptoRow.holds Try.pinned (OpenSpec.upto fnExactValidTapeSpec)

/-- 'laws.FnExactShapesOf', WHERE WHAT IT READS IS OF BULK AT MOST 1048576: true; the input reads as it did. -/
def fnExactShapesOfUptoRow : OpenClaim := { program := "ytdgoladbkaldkaa", sum := "41705fdc71a8cce9fbae939f86668f7af141ecb6c1b6692dbe2131244a4d9149", func := "loop.example/g01157/laws.FnExactShapesOf", spec := "fnExactShapesOf", inPlace := ["math.Float32bits"], unfollowed := true, recurses := true, apart := false, narrowed := true }
def FnExactShapesOfUptoSaid : Prop := fnExactShapesOfUptoRow.holds Try.pinned (OpenSpec.upto fnExactShapesOfSpec)

/-- 'laws.FnExactUsedOps', WHERE WHAT IT READS IS OF BULK AT MOST 1048576: true; the input reads as it did. -/
def fnExactUsedOpsUptoRow : OpenClaim := { program := "ytdgoladbkaldkaa", sum := "41705fdc71a8cce9fbae939f86668f7af141ecb6c1b6692dbe2131244a4d9149", func := "loop.example/g01157/laws.FnExactUsedOps", spec := "fnExactUsedOps", inPlace := ["math.Float32bits"], unfollowed := true, recurses := true, apart := false, narrowed := true }
def FnExactUsedOpsUptoSaid : Prop := fnExactUsedOpsUptoRow.holds Try.pinned (OpenSpec.upto fnExactUsedOpsSpec)

/-- 'laws.FnExactReplaceInput', WHERE WHAT IT READS IS OF BULK AT MOST 1048576: true; the input reads as it did. -/
def fnExactReplaceInputUptoRow : OpenClaim := { program := "ytdgoladbkaldkaa", sum := "41705fdc71a8cce9fbae939f86668f7af141ecb6c1b6692dbe2131244a4d9149", func := "loop.example/g01157/laws.FnExactReplaceInput", spec := "fnExactReplaceInput", inPlace := ["math.Float32bits"], unfollowed := true, recurses := true, apart := false, narrowed := true }
def FnExactReplaceInputUptoSaid : Prop := fnExactReplaceInputUptoRow.holds Try.pinned (OpenSpec.upto fnExactReplaceInputSpec)

end Rows
end Go.Proofs.Ytdgoladbkaldkaa
