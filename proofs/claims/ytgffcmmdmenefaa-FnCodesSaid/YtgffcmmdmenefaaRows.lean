/-
  No cell of these rows narrows 'for every input' (looked for: loops, veiled, ifaces, maps, wideKeys, modest, calm, conditions, laid).
  DERIVED. THE GIVEN ROWS OF THIS SEAT. 12 by the template 'for every input the law returns true; each argument reads behind the call as it read before'; 0 by the template 'total and deterministic' (their statements: YtgffcmmdmenefaaTotals.lean).
  GIVEN WITH THE SEED: the statements are not yours to turn. If you find one false, say at which input.
  Laid BY PROGRAM, IN A SANDBOX (cutbox-rows.mjs): the forced cells as the released guide's own fill.sh prints them over the translation 900239187817d54d… (all of the seat's roots in one cut). By AI agents, Wed Nov 11 2026. No macro, syntax, notation, axiom, sorry.
-/
import Derived.Test.YtgffcmmdmenefaaChecked
import GoSem.Claim
import GoSem.ClaimJoined
import GoSem.ClaimMapViews
import Derived.JoinedTies
import Derived.KernelRfl
namespace Go.Proofs.Ytgffcmmdmenefaa
/- THE CELL 'sum', in the pinned program and in every row, IS THE sha256 OF THE DUMP (.gsa) THAT YtgffcmmdmenefaaProg.lean LOADS. Nothing in Lean hashes anything: it is a label: what it is worth is what the hold of that sum in a sandbox is worth. -/
noncomputable def Try.pinned : Pinned := { name := "ytgffcmmdmenefaa", sum := "900239187817d54d079debe87db58ef9155400a6ebe0b870126379af5b6f080e", checked := Try.checked }
namespace Rows
def none {H : Type} : Left H := { results := [], args := [] }

/-- 'laws.FnExactValidScale': WHATEVER THE INPUT: true; the input reads as it did. -/
def fnExactValidScaleSpec : ChangeSpec := { name := "fnExactValidScale", fn := fun _ => fun
  | [d] => { results := [.lit (.bool true)], args := [d] }
  | _ => none }
def fnExactValidScaleRow : OpenClaim := { program := "ytgffcmmdmenefaa", sum := "900239187817d54d079debe87db58ef9155400a6ebe0b870126379af5b6f080e", func := "loop.example/g01157/laws.FnExactValidScale", spec := "fnExactValidScale", apart := false }
def FnExactValidScaleSaid : Prop := fnExactValidScaleRow.holds Try.pinned (OpenSpec.ofChange fnExactValidScaleSpec)

/-- ITS FALSE NEIGHBOUR: 'it returns false'. Refute it at one input. -/
def fnExactValidScaleWrong : ChangeSpec := { name := "fnExactValidScale", fn := fun _ => fun
  | [d] => { results := [.lit (.bool false)], args := [d] }
  | _ => none }
def FnExactValidScaleWrongFalsely : Prop := fnExactValidScaleRow.holds Try.pinned (OpenSpec.ofChange fnExactValidScaleWrong)

/-- 'laws.FnExactNextScale': WHATEVER THE INPUT: true; the input reads as it did. -/
def fnExactNextScaleSpec : ChangeSpec := { name := "fnExactNextScale", fn := fun _ => fun
  | [d1, d2] => { results := [.lit (.bool true)], args := [d1, d2] }
  | _ => none }
def fnExactNextScaleRow : OpenClaim := { program := "ytgffcmmdmenefaa", sum := "900239187817d54d079debe87db58ef9155400a6ebe0b870126379af5b6f080e", func := "loop.example/g01157/laws.FnExactNextScale", spec := "fnExactNextScale", apart := false }
def FnExactNextScaleSaid : Prop := fnExactNextScaleRow.holds Try.pinned (OpenSpec.ofChange fnExactNextScaleSpec)

/-- ITS FALSE NEIGHBOUR: 'it returns false'. Refute it at one input. -/
def fnExactNextScaleWrong : ChangeSpec := { name := "fnExactNextScale", fn := fun _ => fun
  | [d1, d2] => { results := [.lit (.bool false)], args := [d1, d2] }
  | _ => none }
def FnExactNextScaleWrongFalsely : Prop := fnExactNextScaleRow.holds Try.pinned (OpenSpec.ofChange fnExactNextScaleWrong)

/-- 'laws.FnExactSpreadOf': WHATEVER THE INPUT: true; the input reads as it did. -/
def fnExactSpreadOfSpec : ChangeSpec := { name := "fnExactSpreadOf", fn := fun _ => fun
  | [d] => { results := [.lit (.bool true)], args := [d] }
  | _ => none }
def fnExactSpreadOfRow : OpenClaim := { program := "ytgffcmmdmenefaa", sum := "900239187817d54d079debe87db58ef9155400a6ebe0b870126379af5b6f080e", func := "loop.example/g01157/laws.FnExactSpreadOf", spec := "fnExactSpreadOf", inPlace := ["math.Float32bits", "math.Float32frombits"], unfollowed := true, recurses := true, apart := false }
def FnExactSpreadOfSaid : Prop := fnExactSpreadOfRow.holds Try.pinned (OpenSpec.ofChange fnExactSpreadOfSpec)

/-- ITS FALSE NEIGHBOUR: 'it returns false'. Refute it at one input. -/
def fnExactSpreadOfWrong : ChangeSpec := { name := "fnExactSpreadOf", fn := fun _ => fun
  | [d] => { results := [.lit (.bool false)], args := [d] }
  | _ => none }
def FnExactSpreadOfWrongFalsely : Prop := fnExactSpreadOfRow.holds Try.pinned (OpenSpec.ofChange fnExactSpreadOfWrong)

/-- 'laws.FnExactCodesOf': WHATEVER THE INPUT: true; the input reads as it did. -/
def fnExactCodesOfSpec : ChangeSpec := { name := "fnExactCodesOf", fn := fun _ => fun
  | [d1, d2] => { results := [.lit (.bool true)], args := [d1, d2] }
  | _ => none }
def fnExactCodesOfRow : OpenClaim := { program := "ytgffcmmdmenefaa", sum := "900239187817d54d079debe87db58ef9155400a6ebe0b870126379af5b6f080e", func := "loop.example/g01157/laws.FnExactCodesOf", spec := "fnExactCodesOf", inPlace := ["math.Float32bits", "math.RoundToEven"], unfollowed := true, recurses := true, apart := false }
def FnExactCodesOfSaid : Prop := fnExactCodesOfRow.holds Try.pinned (OpenSpec.ofChange fnExactCodesOfSpec)

/-- ITS FALSE NEIGHBOUR: 'it returns false'. Refute it at one input. -/
def fnExactCodesOfWrong : ChangeSpec := { name := "fnExactCodesOf", fn := fun _ => fun
  | [d1, d2] => { results := [.lit (.bool false)], args := [d1, d2] }
  | _ => none }
def FnExactCodesOfWrongFalsely : Prop := fnExactCodesOfRow.holds Try.pinned (OpenSpec.ofChange fnExactCodesOfWrong)

/-- 'laws.FnExactCodesBy': WHATEVER THE INPUT: true; the input reads as it did. -/
def fnExactCodesBySpec : ChangeSpec := { name := "fnExactCodesBy", fn := fun _ => fun
  | [d1, d2, d3] => { results := [.lit (.bool true)], args := [d1, d2, d3] }
  | _ => none }
def fnExactCodesByRow : OpenClaim := { program := "ytgffcmmdmenefaa", sum := "900239187817d54d079debe87db58ef9155400a6ebe0b870126379af5b6f080e", func := "loop.example/g01157/laws.FnExactCodesBy", spec := "fnExactCodesBy", inPlace := ["math.Float32bits", "math.archFloor", "math.Float64bits", "math.Float64frombits", "math.archTrunc"], unfollowed := true, recurses := true, apart := false }
def FnExactCodesBySaid : Prop := fnExactCodesByRow.holds Try.pinned (OpenSpec.ofChange fnExactCodesBySpec)

/-- ITS FALSE NEIGHBOUR: 'it returns false'. Refute it at one input. -/
def fnExactCodesByWrong : ChangeSpec := { name := "fnExactCodesBy", fn := fun _ => fun
  | [d1, d2, d3] => { results := [.lit (.bool false)], args := [d1, d2, d3] }
  | _ => none }
def FnExactCodesByWrongFalsely : Prop := fnExactCodesByRow.holds Try.pinned (OpenSpec.ofChange fnExactCodesByWrong)

/-- 'laws.FnExactNumbersOf': WHATEVER THE INPUT: true; the input reads as it did. -/
def fnExactNumbersOfSpec : ChangeSpec := { name := "fnExactNumbersOf", fn := fun _ => fun
  | [d1, d2] => { results := [.lit (.bool true)], args := [d1, d2] }
  | _ => none }
def fnExactNumbersOfRow : OpenClaim := { program := "ytgffcmmdmenefaa", sum := "900239187817d54d079debe87db58ef9155400a6ebe0b870126379af5b6f080e", func := "loop.example/g01157/laws.FnExactNumbersOf", spec := "fnExactNumbersOf", inPlace := ["math.Float32bits"], unfollowed := true, recurses := true, apart := false }
def FnExactNumbersOfSaid : Prop := fnExactNumbersOfRow.holds Try.pinned (OpenSpec.ofChange fnExactNumbersOfSpec)

/-- ITS FALSE NEIGHBOUR: 'it returns false'. Refute it at one input. -/
def fnExactNumbersOfWrong : ChangeSpec := { name := "fnExactNumbersOf", fn := fun _ => fun
  | [d1, d2] => { results := [.lit (.bool false)], args := [d1, d2] }
  | _ => none }
def FnExactNumbersOfWrongFalsely : Prop := fnExactNumbersOfRow.holds Try.pinned (OpenSpec.ofChange fnExactNumbersOfWrong)

/-- 'laws.FnExactDotOfCodes': WHATEVER THE INPUT: true; the input reads as it did. -/
def fnExactDotOfCodesSpec : ChangeSpec := { name := "fnExactDotOfCodes", fn := fun _ => fun
  | [d1, d2, d3, d4] => { results := [.lit (.bool true)], args := [d1, d2, d3, d4] }
  | _ => none }
def fnExactDotOfCodesRow : OpenClaim := { program := "ytgffcmmdmenefaa", sum := "900239187817d54d079debe87db58ef9155400a6ebe0b870126379af5b6f080e", func := "loop.example/g01157/laws.FnExactDotOfCodes", spec := "fnExactDotOfCodes", inPlace := ["math.Float32bits"], unfollowed := true, recurses := true, apart := false }
def FnExactDotOfCodesSaid : Prop := fnExactDotOfCodesRow.holds Try.pinned (OpenSpec.ofChange fnExactDotOfCodesSpec)

/-- ITS FALSE NEIGHBOUR: 'it returns false'. Refute it at one input. -/
def fnExactDotOfCodesWrong : ChangeSpec := { name := "fnExactDotOfCodes", fn := fun _ => fun
  | [d1, d2, d3, d4] => { results := [.lit (.bool false)], args := [d1, d2, d3, d4] }
  | _ => none }
def FnExactDotOfCodesWrongFalsely : Prop := fnExactDotOfCodesRow.holds Try.pinned (OpenSpec.ofChange fnExactDotOfCodesWrong)

/-- 'laws.FnExactGatherRounding': WHATEVER THE INPUT: true; the input reads as it did. -/
def fnExactGatherRoundingSpec : ChangeSpec := { name := "fnExactGatherRounding", fn := fun _ => fun
  | [d1, d2] => { results := [.lit (.bool true)], args := [d1, d2] }
  | _ => none }
def fnExactGatherRoundingRow : OpenClaim := { program := "ytgffcmmdmenefaa", sum := "900239187817d54d079debe87db58ef9155400a6ebe0b870126379af5b6f080e", func := "loop.example/g01157/laws.FnExactGatherRounding", spec := "fnExactGatherRounding", inPlace := ["math.Float32bits", "math.Float32frombits"], apart := false }
def FnExactGatherRoundingSaid : Prop := fnExactGatherRoundingRow.holds Try.pinned (OpenSpec.ofChange fnExactGatherRoundingSpec)

/-- ITS FALSE NEIGHBOUR: 'it returns false'. Refute it at one input. -/
def fnExactGatherRoundingWrong : ChangeSpec := { name := "fnExactGatherRounding", fn := fun _ => fun
  | [d1, d2] => { results := [.lit (.bool false)], args := [d1, d2] }
  | _ => none }
def FnExactGatherRoundingWrongFalsely : Prop := fnExactGatherRoundingRow.holds Try.pinned (OpenSpec.ofChange fnExactGatherRoundingWrong)

/-- 'laws.FnScales': WHATEVER THE INPUT: true; the input reads as it did. -/
def fnScalesSpec : ChangeSpec := { name := "fnScales", fn := fun _ => fun
  | [d1, d2] => { results := [.lit (.bool true)], args := [d1, d2] }
  | _ => none }
def fnScalesRow : OpenClaim := { program := "ytgffcmmdmenefaa", sum := "900239187817d54d079debe87db58ef9155400a6ebe0b870126379af5b6f080e", func := "loop.example/g01157/laws.FnScales", spec := "fnScales", apart := false }
def FnScalesSaid : Prop := fnScalesRow.holds Try.pinned (OpenSpec.ofChange fnScalesSpec)

/-- ITS FALSE NEIGHBOUR: 'it returns false'. Refute it at one input. -/
def fnScalesWrong : ChangeSpec := { name := "fnScales", fn := fun _ => fun
  | [d1, d2] => { results := [.lit (.bool false)], args := [d1, d2] }
  | _ => none }
def FnScalesWrongFalsely : Prop := fnScalesRow.holds Try.pinned (OpenSpec.ofChange fnScalesWrong)

/-- 'laws.FnGathered': WHATEVER THE INPUT: true; the input reads as it did. -/
def fnGatheredSpec : ChangeSpec := { name := "fnGathered", fn := fun _ => fun
  | [d1, d2] => { results := [.lit (.bool true)], args := [d1, d2] }
  | _ => none }
def fnGatheredRow : OpenClaim := { program := "ytgffcmmdmenefaa", sum := "900239187817d54d079debe87db58ef9155400a6ebe0b870126379af5b6f080e", func := "loop.example/g01157/laws.FnGathered", spec := "fnGathered", inPlace := ["math.Float32frombits", "math.Float32bits"], apart := false }
def FnGatheredSaid : Prop := fnGatheredRow.holds Try.pinned (OpenSpec.ofChange fnGatheredSpec)

/-- ITS FALSE NEIGHBOUR: 'it returns false'. Refute it at one input. -/
def fnGatheredWrong : ChangeSpec := { name := "fnGathered", fn := fun _ => fun
  | [d1, d2] => { results := [.lit (.bool false)], args := [d1, d2] }
  | _ => none }
def FnGatheredWrongFalsely : Prop := fnGatheredRow.holds Try.pinned (OpenSpec.ofChange fnGatheredWrong)

/-- 'laws.FnCodes': WHATEVER THE INPUT: true; the input reads as it did. -/
def fnCodesSpec : ChangeSpec := { name := "fnCodes", fn := fun _ => fun
  | [d1, d2] => { results := [.lit (.bool true)], args := [d1, d2] }
  | _ => none }
def fnCodesRow : OpenClaim := { program := "ytgffcmmdmenefaa", sum := "900239187817d54d079debe87db58ef9155400a6ebe0b870126379af5b6f080e", func := "loop.example/g01157/laws.FnCodes", spec := "fnCodes", inPlace := ["math.Float32bits", "math.RoundToEven"], unfollowed := true, recurses := true, apart := false }
def FnCodesSaid : Prop := fnCodesRow.holds Try.pinned (OpenSpec.ofChange fnCodesSpec)

/-- ITS FALSE NEIGHBOUR: 'it returns false'. Refute it at one input. -/
def fnCodesWrong : ChangeSpec := { name := "fnCodes", fn := fun _ => fun
  | [d1, d2] => { results := [.lit (.bool false)], args := [d1, d2] }
  | _ => none }
def FnCodesWrongFalsely : Prop := fnCodesRow.holds Try.pinned (OpenSpec.ofChange fnCodesWrong)

/-- 'laws.FnEightBits': WHATEVER THE INPUT: true; the input reads as it did. -/
def fnEightBitsSpec : ChangeSpec := { name := "fnEightBits", fn := fun _ => fun
  | [d1, d2] => { results := [.lit (.bool true)], args := [d1, d2] }
  | _ => none }
def fnEightBitsRow : OpenClaim := { program := "ytgffcmmdmenefaa", sum := "900239187817d54d079debe87db58ef9155400a6ebe0b870126379af5b6f080e", func := "loop.example/g01157/laws.FnEightBits", spec := "fnEightBits", inPlace := ["math.Float32frombits", "math.Float32bits", "math.RoundToEven", "math.archFloor", "math.Float64bits", "math.Float64frombits", "math.archTrunc"], unfollowed := true, recurses := true, apart := false }
def FnEightBitsSaid : Prop := fnEightBitsRow.holds Try.pinned (OpenSpec.ofChange fnEightBitsSpec)

/-- ITS FALSE NEIGHBOUR: 'it returns false'. Refute it at one input. -/
def fnEightBitsWrong : ChangeSpec := { name := "fnEightBits", fn := fun _ => fun
  | [d1, d2] => { results := [.lit (.bool false)], args := [d1, d2] }
  | _ => none }
def FnEightBitsWrongFalsely : Prop := fnEightBitsRow.holds Try.pinned (OpenSpec.ofChange fnEightBitsWrong)

/- THE SECOND FORM. 'bulk': how many values and letters a reading holds, each counted each time it is reached (what is shared counts as often as it is met; a slice's spare places count too). A statement '..UptoSaid' is the law's where the arguments, and the package variables that the reading takes, are together of bulk at most 1048576: NARROWER than '..Said'. Prove '..Said' where nothing that the law and all that it calls make is longer than what came in: it says more and counts as full. Else prove '..UptoSaid'. A law counts once. -/
mutual
def uptoBulk {H : Type} : DataW H → Nat
  | .lit (.string bytes) => bytes.length + 1
  | .lit _ => 1
  | .nil => 1
  | .ptr d => uptoBulk d + 1
  | .slice elems spare => uptoBulkAll elems + uptoBulkAll spare + 1
  | .agg parts => uptoBulkAll parts + 1
  | .iface _ d => uptoBulk d + 1
  | .map entries => uptoBulkEntries entries + 1
  | .held _ => 1
def uptoBulkAll {H : Type} : List (DataW H) → Nat
  | [] => 0
  | d :: r => uptoBulk d + uptoBulkAll r
def uptoBulkEntries {H : Type} : List (Lit × DataW H) → Nat
  | [] => 0
  | x :: r => uptoBulkEntry x + uptoBulkEntries r
def uptoBulkEntry {H : Type} : Lit × DataW H → Nat
  | (.string bytes, d) => bytes.length + uptoBulk d + 1
  | (_, d) => uptoBulk d + 1
 end
def uptoSmall : (H : Type) → List (DataW H) → Bool := fun _ ds => decide (uptoBulkAll ds ≤ 1048576)
def OpenSpec.upto (s : _root_.Go.ChangeSpec) : _root_.Go.OpenSpec := { _root_.Go.OpenSpec.ofChange s with cond := some uptoSmall }

/-- 'laws.FnExactValidScale', WHERE WHAT IT READS IS OF BULK AT MOST 1048576: true; the input reads as it did. -/
def fnExactValidScaleUptoRow : OpenClaim := { program := "ytgffcmmdmenefaa", sum := "900239187817d54d079debe87db58ef9155400a6ebe0b870126379af5b6f080e", func := "loop.example/g01157/laws.FnExactValidScale", spec := "fnExactValidScale", apart := false, narrowed := true }
def FnExactValidScaleUptoSaid : Prop := fnExactValidScaleUptoRow.holds Try.pinned (OpenSpec.upto fnExactValidScaleSpec)

/-- 'laws.FnExactNextScale', WHERE WHAT IT READS IS OF BULK AT MOST 1048576: true; the input reads as it did. -/
def fnExactNextScaleUptoRow : OpenClaim := { program := "ytgffcmmdmenefaa", sum := "900239187817d54d079debe87db58ef9155400a6ebe0b870126379af5b6f080e", func := "loop.example/g01157/laws.FnExactNextScale", spec := "fnExactNextScale", apart := false, narrowed := true }
def FnExactNextScaleUptoSaid : Prop := fnExactNextScaleUptoRow.holds Try.pinned (OpenSpec.upto fnExactNextScaleSpec)

/-- 'laws.FnExactSpreadOf', WHERE WHAT IT READS IS OF BULK AT MOST 1048576: true; the input reads as it did. -/
def fnExactSpreadOfUptoRow : OpenClaim := { program := "ytgffcmmdmenefaa", sum := "900239187817d54d079debe87db58ef9155400a6ebe0b870126379af5b6f080e", func := "loop.example/g01157/laws.FnExactSpreadOf", spec := "fnExactSpreadOf", inPlace := ["math.Float32bits", "math.Float32frombits"], unfollowed := true, recurses := true, apart := false, narrowed := true }
def FnExactSpreadOfUptoSaid : Prop := fnExactSpreadOfUptoRow.holds Try.pinned (OpenSpec.upto fnExactSpreadOfSpec)

/-- 'laws.FnExactCodesOf', WHERE WHAT IT READS IS OF BULK AT MOST 1048576: true; the input reads as it did. -/
def fnExactCodesOfUptoRow : OpenClaim := { program := "ytgffcmmdmenefaa", sum := "900239187817d54d079debe87db58ef9155400a6ebe0b870126379af5b6f080e", func := "loop.example/g01157/laws.FnExactCodesOf", spec := "fnExactCodesOf", inPlace := ["math.Float32bits", "math.RoundToEven"], unfollowed := true, recurses := true, apart := false, narrowed := true }
def FnExactCodesOfUptoSaid : Prop := fnExactCodesOfUptoRow.holds Try.pinned (OpenSpec.upto fnExactCodesOfSpec)

/-- 'laws.FnExactCodesBy', WHERE WHAT IT READS IS OF BULK AT MOST 1048576: true; the input reads as it did. -/
def fnExactCodesByUptoRow : OpenClaim := { program := "ytgffcmmdmenefaa", sum := "900239187817d54d079debe87db58ef9155400a6ebe0b870126379af5b6f080e", func := "loop.example/g01157/laws.FnExactCodesBy", spec := "fnExactCodesBy", inPlace := ["math.Float32bits", "math.archFloor", "math.Float64bits", "math.Float64frombits", "math.archTrunc"], unfollowed := true, recurses := true, apart := false, narrowed := true }
def FnExactCodesByUptoSaid : Prop := fnExactCodesByUptoRow.holds Try.pinned (OpenSpec.upto fnExactCodesBySpec)

/-- 'laws.FnExactNumbersOf', WHERE WHAT IT READS IS OF BULK AT MOST 1048576: true; the input reads as it did. -/
def fnExactNumbersOfUptoRow : OpenClaim := { program := "ytgffcmmdmenefaa", sum := "900239187817d54d079debe87db58ef9155400a6ebe0b870126379af5b6f080e", func := "loop.example/g01157/laws.FnExactNumbersOf", spec := "fnExactNumbersOf", inPlace := ["math.Float32bits"], unfollowed := true, recurses := true, apart := false, narrowed := true }
def FnExactNumbersOfUptoSaid : Prop := fnExactNumbersOfUptoRow.holds Try.pinned (OpenSpec.upto fnExactNumbersOfSpec)

/-- 'laws.FnExactDotOfCodes', WHERE WHAT IT READS IS OF BULK AT MOST 1048576: true; the input reads as it did. -/
def fnExactDotOfCodesUptoRow : OpenClaim := { program := "ytgffcmmdmenefaa", sum := "900239187817d54d079debe87db58ef9155400a6ebe0b870126379af5b6f080e", func := "loop.example/g01157/laws.FnExactDotOfCodes", spec := "fnExactDotOfCodes", inPlace := ["math.Float32bits"], unfollowed := true, recurses := true, apart := false, narrowed := true }
def FnExactDotOfCodesUptoSaid : Prop := fnExactDotOfCodesUptoRow.holds Try.pinned (OpenSpec.upto fnExactDotOfCodesSpec)

/-- 'laws.FnExactGatherRounding', WHERE WHAT IT READS IS OF BULK AT MOST 1048576: true; the input reads as it did. -/
def fnExactGatherRoundingUptoRow : OpenClaim := { program := "ytgffcmmdmenefaa", sum := "900239187817d54d079debe87db58ef9155400a6ebe0b870126379af5b6f080e", func := "loop.example/g01157/laws.FnExactGatherRounding", spec := "fnExactGatherRounding", inPlace := ["math.Float32bits", "math.Float32frombits"], apart := false, narrowed := true }
def FnExactGatherRoundingUptoSaid : Prop := fnExactGatherRoundingUptoRow.holds Try.pinned (OpenSpec.upto fnExactGatherRoundingSpec)

/-- 'laws.FnScales', WHERE WHAT IT READS IS OF BULK AT MOST 1048576: true; the input reads as it did. -/
def fnScalesUptoRow : OpenClaim := { program := "ytgffcmmdmenefaa", sum := "900239187817d54d079debe87db58ef9155400a6ebe0b870126379af5b6f080e", func := "loop.example/g01157/laws.FnScales", spec := "fnScales", apart := false, narrowed := true }
def FnScalesUptoSaid : Prop := fnScalesUptoRow.holds Try.pinned (OpenSpec.upto fnScalesSpec)

/-- 'laws.FnGathered', WHERE WHAT IT READS IS OF BULK AT MOST 1048576: true; the input reads as it did. -/
def fnGatheredUptoRow : OpenClaim := { program := "ytgffcmmdmenefaa", sum := "900239187817d54d079debe87db58ef9155400a6ebe0b870126379af5b6f080e", func := "loop.example/g01157/laws.FnGathered", spec := "fnGathered", inPlace := ["math.Float32frombits", "math.Float32bits"], apart := false, narrowed := true }
def FnGatheredUptoSaid : Prop := fnGatheredUptoRow.holds Try.pinned (OpenSpec.upto fnGatheredSpec)

/-- 'laws.FnCodes', WHERE WHAT IT READS IS OF BULK AT MOST 1048576: true; the input reads as it did. -/
def fnCodesUptoRow : OpenClaim := { program := "ytgffcmmdmenefaa", sum := "900239187817d54d079debe87db58ef9155400a6ebe0b870126379af5b6f080e", func := "loop.example/g01157/laws.FnCodes", spec := "fnCodes", inPlace := ["math.Float32bits", "math.RoundToEven"], unfollowed := true, recurses := true, apart := false, narrowed := true }
def FnCodesUptoSaid : Prop := fnCodesUptoRow.holds Try.pinned (OpenSpec.upto fnCodesSpec)

/-- 'laws.FnEightBits', WHERE WHAT IT READS IS OF BULK AT MOST 1048576: true; the input reads as it did. -/
def fnEightBitsUptoRow : OpenClaim := { program := "ytgffcmmdmenefaa", sum := "900239187817d54d079debe87db58ef9155400a6ebe0b870126379af5b6f080e", func := "loop.example/g01157/laws.FnEightBits", spec := "fnEightBits", inPlace := ["math.Float32frombits", "math.Float32bits", "math.RoundToEven", "math.archFloor", "math.Float64bits", "math.Float64frombits", "math.archTrunc"], unfollowed := true, recurses := true, apart := false, narrowed := true }
def FnEightBitsUptoSaid : Prop := fnEightBitsUptoRow.holds Try.pinned (OpenSpec.upto fnEightBitsSpec)

end Rows
end Go.Proofs.Ytgffcmmdmenefaa
