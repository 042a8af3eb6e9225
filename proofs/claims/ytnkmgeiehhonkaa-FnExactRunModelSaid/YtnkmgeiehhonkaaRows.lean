/-
  No cell of these rows narrows 'for every input' (looked for: loops, veiled, ifaces, maps, wideKeys, modest, calm, conditions, laid).
  DERIVED. THE GIVEN ROWS OF THIS SEAT. 12 by the template 'for every input the law returns true; each argument reads behind the call as it read before'; 0 by the template 'total and deterministic' (their statements: YtnkmgeiehhonkaaTotals.lean).
  GIVEN WITH THE SEED: the statements are not yours to turn. If you find one false, say at which input.
  Laid BY PROGRAM, IN A SANDBOX (cutbox-rows.mjs): the forced cells as the released guide's own fill.sh prints them over the translation f8fbab2fa57d4ae8… (all of the seat's roots in one cut). By AI agents, Wed Nov 11 2026. No macro, syntax, notation, axiom, sorry.
-/
import Derived.Test.YtnkmgeiehhonkaaChecked
import GoSem.Claim
import GoSem.ClaimJoined
import GoSem.ClaimMapViews
import Derived.JoinedTies
import Derived.KernelRfl
namespace Go.Proofs.Ytnkmgeiehhonkaa
/- THE CELL 'sum', in the pinned program and in every row, IS THE sha256 OF THE DUMP (.gsa) THAT YtnkmgeiehhonkaaProg.lean LOADS. Nothing in Lean hashes anything: it is a label: what it is worth is what the hold of that sum in a sandbox is worth. -/
noncomputable def Try.pinned : Pinned := { name := "ytnkmgeiehhonkaa", sum := "f8fbab2fa57d4ae82d8998a6f56470e0ab46233a0847c1c5b8af32514a732381", checked := Try.checked }
namespace Rows
def none {H : Type} : Left H := { results := [], args := [] }

/-- 'laws.FnExactWorkerRows': WHATEVER THE INPUT: true; the input reads as it did. -/
def fnExactWorkerRowsSpec : ChangeSpec := { name := "fnExactWorkerRows", fn := fun _ => fun
  | [d1, d2] => { results := [.lit (.bool true)], args := [d1, d2] }
  | _ => none }
def fnExactWorkerRowsRow : OpenClaim := { program := "ytnkmgeiehhonkaa", sum := "f8fbab2fa57d4ae82d8998a6f56470e0ab46233a0847c1c5b8af32514a732381", func := "loop.example/g01157/laws.FnExactWorkerRows", spec := "fnExactWorkerRows", unfollowed := true, recurses := true, apart := false }
def FnExactWorkerRowsSaid : Prop := fnExactWorkerRowsRow.holds Try.pinned (OpenSpec.ofChange fnExactWorkerRowsSpec)

/-- ITS FALSE NEIGHBOUR: 'it returns false'. Refute it at one input. -/
def fnExactWorkerRowsWrong : ChangeSpec := { name := "fnExactWorkerRows", fn := fun _ => fun
  | [d1, d2] => { results := [.lit (.bool false)], args := [d1, d2] }
  | _ => none }
def FnExactWorkerRowsWrongFalsely : Prop := fnExactWorkerRowsRow.holds Try.pinned (OpenSpec.ofChange fnExactWorkerRowsWrong)

/-- 'laws.FnExactBatchSizes': WHATEVER THE INPUT: true; the input reads as it did. -/
def fnExactBatchSizesSpec : ChangeSpec := { name := "fnExactBatchSizes", fn := fun _ => fun
  | [d] => { results := [.lit (.bool true)], args := [d] }
  | _ => none }
def fnExactBatchSizesRow : OpenClaim := { program := "ytnkmgeiehhonkaa", sum := "f8fbab2fa57d4ae82d8998a6f56470e0ab46233a0847c1c5b8af32514a732381", func := "loop.example/g01157/laws.FnExactBatchSizes", spec := "fnExactBatchSizes", apart := false }
def FnExactBatchSizesSaid : Prop := fnExactBatchSizesRow.holds Try.pinned (OpenSpec.ofChange fnExactBatchSizesSpec)

/-- ITS FALSE NEIGHBOUR: 'it returns false'. Refute it at one input. -/
def fnExactBatchSizesWrong : ChangeSpec := { name := "fnExactBatchSizes", fn := fun _ => fun
  | [d] => { results := [.lit (.bool false)], args := [d] }
  | _ => none }
def FnExactBatchSizesWrongFalsely : Prop := fnExactBatchSizesRow.holds Try.pinned (OpenSpec.ofChange fnExactBatchSizesWrong)

/-- 'laws.FnExactLongestDelay': WHATEVER THE INPUT: true; the input reads as it did. -/
def fnExactLongestDelaySpec : ChangeSpec := { name := "fnExactLongestDelay", fn := fun _ => fun
  | [d1, d2] => { results := [.lit (.bool true)], args := [d1, d2] }
  | _ => none }
def fnExactLongestDelayRow : OpenClaim := { program := "ytnkmgeiehhonkaa", sum := "f8fbab2fa57d4ae82d8998a6f56470e0ab46233a0847c1c5b8af32514a732381", func := "loop.example/g01157/laws.FnExactLongestDelay", spec := "fnExactLongestDelay", apart := false }
def FnExactLongestDelaySaid : Prop := fnExactLongestDelayRow.holds Try.pinned (OpenSpec.ofChange fnExactLongestDelaySpec)

/-- ITS FALSE NEIGHBOUR: 'it returns false'. Refute it at one input. -/
def fnExactLongestDelayWrong : ChangeSpec := { name := "fnExactLongestDelay", fn := fun _ => fun
  | [d1, d2] => { results := [.lit (.bool false)], args := [d1, d2] }
  | _ => none }
def FnExactLongestDelayWrongFalsely : Prop := fnExactLongestDelayRow.holds Try.pinned (OpenSpec.ofChange fnExactLongestDelayWrong)

/-- 'laws.FnExactReduceLists': WHATEVER THE INPUT: true; the input reads as it did. -/
def fnExactReduceListsSpec : ChangeSpec := { name := "fnExactReduceLists", fn := fun _ => fun
  | [d1, d2] => { results := [.lit (.bool true)], args := [d1, d2] }
  | _ => none }
def fnExactReduceListsRow : OpenClaim := { program := "ytnkmgeiehhonkaa", sum := "f8fbab2fa57d4ae82d8998a6f56470e0ab46233a0847c1c5b8af32514a732381", func := "loop.example/g01157/laws.FnExactReduceLists", spec := "fnExactReduceLists", unfollowed := true, recurses := true, apart := false }
def FnExactReduceListsSaid : Prop := fnExactReduceListsRow.holds Try.pinned (OpenSpec.ofChange fnExactReduceListsSpec)

/-- ITS FALSE NEIGHBOUR: 'it returns false'. Refute it at one input. -/
def fnExactReduceListsWrong : ChangeSpec := { name := "fnExactReduceLists", fn := fun _ => fun
  | [d1, d2] => { results := [.lit (.bool false)], args := [d1, d2] }
  | _ => none }
def FnExactReduceListsWrongFalsely : Prop := fnExactReduceListsRow.holds Try.pinned (OpenSpec.ofChange fnExactReduceListsWrong)

/-- 'laws.FnExactAreInSync': WHATEVER THE INPUT: true; the input reads as it did. -/
def fnExactAreInSyncSpec : ChangeSpec := { name := "fnExactAreInSync", fn := fun _ => fun
  | [d] => { results := [.lit (.bool true)], args := [d] }
  | _ => none }
def fnExactAreInSyncRow : OpenClaim := { program := "ytnkmgeiehhonkaa", sum := "f8fbab2fa57d4ae82d8998a6f56470e0ab46233a0847c1c5b8af32514a732381", func := "loop.example/g01157/laws.FnExactAreInSync", spec := "fnExactAreInSync", inPlace := ["math.Float32bits"], unfollowed := true, recurses := true, apart := false }
def FnExactAreInSyncSaid : Prop := fnExactAreInSyncRow.holds Try.pinned (OpenSpec.ofChange fnExactAreInSyncSpec)

/-- ITS FALSE NEIGHBOUR: 'it returns false'. Refute it at one input. -/
def fnExactAreInSyncWrong : ChangeSpec := { name := "fnExactAreInSync", fn := fun _ => fun
  | [d] => { results := [.lit (.bool false)], args := [d] }
  | _ => none }
def FnExactAreInSyncWrongFalsely : Prop := fnExactAreInSyncRow.holds Try.pinned (OpenSpec.ofChange fnExactAreInSyncWrong)

/-- 'laws.FnReduced': WHATEVER THE INPUT: true; the input reads as it did. -/
def fnReducedSpec : ChangeSpec := { name := "fnReduced", fn := fun _ => fun
  | [d1, d2] => { results := [.lit (.bool true)], args := [d1, d2] }
  | _ => none }
def fnReducedRow : OpenClaim := { program := "ytnkmgeiehhonkaa", sum := "f8fbab2fa57d4ae82d8998a6f56470e0ab46233a0847c1c5b8af32514a732381", func := "loop.example/g01157/laws.FnReduced", spec := "fnReduced", inPlace := ["math.Float32frombits", "math.Float32bits"], unfollowed := true, recurses := true, apart := false }
def FnReducedSaid : Prop := fnReducedRow.holds Try.pinned (OpenSpec.ofChange fnReducedSpec)

/-- ITS FALSE NEIGHBOUR: 'it returns false'. Refute it at one input. -/
def fnReducedWrong : ChangeSpec := { name := "fnReduced", fn := fun _ => fun
  | [d1, d2] => { results := [.lit (.bool false)], args := [d1, d2] }
  | _ => none }
def FnReducedWrongFalsely : Prop := fnReducedRow.holds Try.pinned (OpenSpec.ofChange fnReducedWrong)

/-- 'laws.FnExactRunLayer': WHATEVER THE INPUT: true; the input reads as it did. -/
def fnExactRunLayerSpec : ChangeSpec := { name := "fnExactRunLayer", fn := fun _ => fun
  | [d1, d2] => { results := [.lit (.bool true)], args := [d1, d2] }
  | _ => none }
def fnExactRunLayerRow : OpenClaim := { program := "ytnkmgeiehhonkaa", sum := "f8fbab2fa57d4ae82d8998a6f56470e0ab46233a0847c1c5b8af32514a732381", func := "loop.example/g01157/laws.FnExactRunLayer", spec := "fnExactRunLayer", inPlace := ["math.Float64frombits", "math.sqrt"], unfollowed := true, recurses := true, apart := false }
def FnExactRunLayerSaid : Prop := fnExactRunLayerRow.holds Try.pinned (OpenSpec.ofChange fnExactRunLayerSpec)

/-- ITS FALSE NEIGHBOUR: 'it returns false'. Refute it at one input. -/
def fnExactRunLayerWrong : ChangeSpec := { name := "fnExactRunLayer", fn := fun _ => fun
  | [d1, d2] => { results := [.lit (.bool false)], args := [d1, d2] }
  | _ => none }
def FnExactRunLayerWrongFalsely : Prop := fnExactRunLayerRow.holds Try.pinned (OpenSpec.ofChange fnExactRunLayerWrong)

/-- 'laws.FnExactStagesOf': WHATEVER THE INPUT: true; the input reads as it did. -/
def fnExactStagesOfSpec : ChangeSpec := { name := "fnExactStagesOf", fn := fun _ => fun
  | [d1, d2] => { results := [.lit (.bool true)], args := [d1, d2] }
  | _ => none }
def fnExactStagesOfRow : OpenClaim := { program := "ytnkmgeiehhonkaa", sum := "f8fbab2fa57d4ae82d8998a6f56470e0ab46233a0847c1c5b8af32514a732381", func := "loop.example/g01157/laws.FnExactStagesOf", spec := "fnExactStagesOf", inPlace := ["math.Float64frombits", "math.sqrt"], unfollowed := true, recurses := true, apart := false }
def FnExactStagesOfSaid : Prop := fnExactStagesOfRow.holds Try.pinned (OpenSpec.ofChange fnExactStagesOfSpec)

/-- ITS FALSE NEIGHBOUR: 'it returns false'. Refute it at one input. -/
def fnExactStagesOfWrong : ChangeSpec := { name := "fnExactStagesOf", fn := fun _ => fun
  | [d1, d2] => { results := [.lit (.bool false)], args := [d1, d2] }
  | _ => none }
def FnExactStagesOfWrongFalsely : Prop := fnExactStagesOfRow.holds Try.pinned (OpenSpec.ofChange fnExactStagesOfWrong)

/-- 'laws.FnExactRunModel': WHATEVER THE INPUT: true; the input reads as it did. -/
def fnExactRunModelSpec : ChangeSpec := { name := "fnExactRunModel", fn := fun _ => fun
  | [d1, d2] => { results := [.lit (.bool true)], args := [d1, d2] }
  | _ => none }
def fnExactRunModelRow : OpenClaim := { program := "ytnkmgeiehhonkaa", sum := "f8fbab2fa57d4ae82d8998a6f56470e0ab46233a0847c1c5b8af32514a732381", func := "loop.example/g01157/laws.FnExactRunModel", spec := "fnExactRunModel", inPlace := ["math.Float64frombits", "math.sqrt"], unfollowed := true, recurses := true, apart := false }
def FnExactRunModelSaid : Prop := fnExactRunModelRow.holds Try.pinned (OpenSpec.ofChange fnExactRunModelSpec)

/-- ITS FALSE NEIGHBOUR: 'it returns false'. Refute it at one input. -/
def fnExactRunModelWrong : ChangeSpec := { name := "fnExactRunModel", fn := fun _ => fun
  | [d1, d2] => { results := [.lit (.bool false)], args := [d1, d2] }
  | _ => none }
def FnExactRunModelWrongFalsely : Prop := fnExactRunModelRow.holds Try.pinned (OpenSpec.ofChange fnExactRunModelWrong)

/-- 'laws.FnExactCompileModel': WHATEVER THE INPUT: true; the input reads as it did. -/
def fnExactCompileModelSpec : ChangeSpec := { name := "fnExactCompileModel", fn := fun _ => fun
  | [d] => { results := [.lit (.bool true)], args := [d] }
  | _ => none }
def fnExactCompileModelRow : OpenClaim := { program := "ytnkmgeiehhonkaa", sum := "f8fbab2fa57d4ae82d8998a6f56470e0ab46233a0847c1c5b8af32514a732381", func := "loop.example/g01157/laws.FnExactCompileModel", spec := "fnExactCompileModel", unfollowed := true, recurses := true, apart := false }
def FnExactCompileModelSaid : Prop := fnExactCompileModelRow.holds Try.pinned (OpenSpec.ofChange fnExactCompileModelSpec)

/-- ITS FALSE NEIGHBOUR: 'it returns false'. Refute it at one input. -/
def fnExactCompileModelWrong : ChangeSpec := { name := "fnExactCompileModel", fn := fun _ => fun
  | [d] => { results := [.lit (.bool false)], args := [d] }
  | _ => none }
def FnExactCompileModelWrongFalsely : Prop := fnExactCompileModelRow.holds Try.pinned (OpenSpec.ofChange fnExactCompileModelWrong)

/-- 'laws.FnExactRunPlan': WHATEVER THE INPUT: true; the input reads as it did. -/
def fnExactRunPlanSpec : ChangeSpec := { name := "fnExactRunPlan", fn := fun _ => fun
  | [d1, d2] => { results := [.lit (.bool true)], args := [d1, d2] }
  | _ => none }
def fnExactRunPlanRow : OpenClaim := { program := "ytnkmgeiehhonkaa", sum := "f8fbab2fa57d4ae82d8998a6f56470e0ab46233a0847c1c5b8af32514a732381", func := "loop.example/g01157/laws.FnExactRunPlan", spec := "fnExactRunPlan", inPlace := ["math.Float64frombits", "math.sqrt"], unfollowed := true, recurses := true, apart := false }
def FnExactRunPlanSaid : Prop := fnExactRunPlanRow.holds Try.pinned (OpenSpec.ofChange fnExactRunPlanSpec)

/-- ITS FALSE NEIGHBOUR: 'it returns false'. Refute it at one input. -/
def fnExactRunPlanWrong : ChangeSpec := { name := "fnExactRunPlan", fn := fun _ => fun
  | [d1, d2] => { results := [.lit (.bool false)], args := [d1, d2] }
  | _ => none }
def FnExactRunPlanWrongFalsely : Prop := fnExactRunPlanRow.holds Try.pinned (OpenSpec.ofChange fnExactRunPlanWrong)

/-- 'laws.FnExactStepParams': WHATEVER THE INPUT: true; the input reads as it did. -/
def fnExactStepParamsSpec : ChangeSpec := { name := "fnExactStepParams", fn := fun _ => fun
  | [d1, d2, d3, d4, d5] => { results := [.lit (.bool true)], args := [d1, d2, d3, d4, d5] }
  | _ => none }
def fnExactStepParamsRow : OpenClaim := { program := "ytnkmgeiehhonkaa", sum := "f8fbab2fa57d4ae82d8998a6f56470e0ab46233a0847c1c5b8af32514a732381", func := "loop.example/g01157/laws.FnExactStepParams", spec := "fnExactStepParams", inPlace := ["math.sqrt"], unfollowed := true, recurses := true, apart := false }
def FnExactStepParamsSaid : Prop := fnExactStepParamsRow.holds Try.pinned (OpenSpec.ofChange fnExactStepParamsSpec)

/-- ITS FALSE NEIGHBOUR: 'it returns false'. Refute it at one input. -/
def fnExactStepParamsWrong : ChangeSpec := { name := "fnExactStepParams", fn := fun _ => fun
  | [d1, d2, d3, d4, d5] => { results := [.lit (.bool false)], args := [d1, d2, d3, d4, d5] }
  | _ => none }
def FnExactStepParamsWrongFalsely : Prop := fnExactStepParamsRow.holds Try.pinned (OpenSpec.ofChange fnExactStepParamsWrong)

/- THE SECOND FORM. 'bulk': how many values and letters a reading holds, each counted each time it is reached (what is shared counts as often as it is met; a slice's spare places count too). A statement '..UptoSaid' is the law's where the arguments, and the package variables that the reading takes, are together of bulk at most 1048576: NARROWER than '..Said'. Prove '..Said' where nothing that the law and all that it calls make is longer than what came in: it says more and counts as full. Else prove '..UptoSaid'. A law counts once. -/
mutual
def uptoBulk {H : Type} : DataW H → Nat
  | .lit (.string bytes) => bytes.length + 1
  | .lit _ => 1
  | .nil => 1
  | .ptr d => uptoBulk d + 1
  | .slice elems spare => uptoBulkAll elems + uptoBulkAll spare + 1
  | .agg parts => uptoBulkAll parts + 1
  | .iface _ d => uptoBulk d + 1
  | .map entries => uptoBulkEntries entries + 1
  | .held _ => 1
def uptoBulkAll {H : Type} : List (DataW H) → Nat
  | [] => 0
  | d :: r => uptoBulk d + uptoBulkAll r
def uptoBulkEntries {H : Type} : List (Lit × DataW H) → Nat
  | [] => 0
  | x :: r => uptoBulkEntry x + uptoBulkEntries r
def uptoBulkEntry {H : Type} : Lit × DataW H → Nat
  | (.string bytes, d) => bytes.length + uptoBulk d + 1
  | (_, d) => uptoBulk d + 1
 end
def uptoSmall : (H : Type) → List (DataW H) → Bool := fun _ ds => decide (uptoBulkAll ds ≤ 1048576)
def OpenSpec.upto (s : _root_.Go.ChangeSpec) : _root_.Go.OpenSpec := { _root_.Go.OpenSpec.ofChange s with cond := some uptoSmall }

/-- 'laws.FnExactWorkerRows', WHERE WHAT IT READS IS OF BULK AT MOST 1048576: true; the input reads as it did. -/
def fnExactWorkerRowsUptoRow : OpenClaim := { program := "ytnkmgeiehhonkaa", sum := "f8fbab2fa57d4ae82d8998a6f56470e0ab46233a0847c1c5b8af32514a732381", func := "loop.example/g01157/laws.FnExactWorkerRows", spec := "fnExactWorkerRows", unfollowed := true, recurses := true, apart := false, narrowed := true }
def FnExactWorkerRowsUptoSaid : Prop := fnExactWorkerRowsUptoRow.holds Try.pinned (OpenSpec.upto fnExactWorkerRowsSpec)

/-- 'laws.FnExactBatchSizes', WHERE WHAT IT READS IS OF BULK AT MOST 1048576: true; the input reads as it did. -/
def fnExactBatchSizesUptoRow : OpenClaim := { program := "ytnkmgeiehhonkaa", sum := "f8fbab2fa57d4ae82d8998a6f56470e0ab46233a0847c1c5b8af32514a732381", func := "loop.example/g01157/laws.FnExactBatchSizes", spec := "fnExactBatchSizes", apart := false, narrowed := true }
def FnExactBatchSizesUptoSaid : Prop := fnExactBatchSizesUptoRow.holds Try.pinned (OpenSpec.upto fnExactBatchSizesSpec)

/-- 'laws.FnExactLongestDelay', WHERE WHAT IT READS IS OF BULK AT MOST 1048576: true; the input reads as it did. -/
def fnExactLongestDelayUptoRow : OpenClaim := { program := "ytnkmgeiehhonkaa", sum := "f8fbab2fa57d4ae82d8998a6f56470e0ab46233a0847c1c5b8af32514a732381", func := "loop.example/g01157/laws.FnExactLongestDelay", spec := "fnExactLongestDelay", apart := false, narrowed := true }
def FnExactLongestDelayUptoSaid : Prop := fnExactLongestDelayUptoRow.holds Try.pinned (OpenSpec.upto fnExactLongestDelaySpec)

/-- 'laws.FnExactReduceLists', WHERE WHAT IT READS IS OF BULK AT MOST 1048576: true; the input reads as it did. -/
def fnExactReduceListsUptoRow : OpenClaim := { program := "ytnkmgeiehhonkaa", sum := "f8fbab2fa57d4ae82d8998a6f56470e0ab46233a0847c1c5b8af32514a732381", func := "loop.example/g01157/laws.FnExactReduceLists", spec := "fnExactReduceLists", unfollowed := true, recurses := true, apart := false, narrowed := true }
def FnExactReduceListsUptoSaid : Prop := fnExactReduceListsUptoRow.holds Try.pinned (OpenSpec.upto fnExactReduceListsSpec)

/-- 'laws.FnExactAreInSync', WHERE WHAT IT READS IS OF BULK AT MOST 1048576: true; the input reads as it did. -/
def fnExactAreInSyncUptoRow : OpenClaim := { program := "ytnkmgeiehhonkaa", sum := "f8fbab2fa57d4ae82d8998a6f56470e0ab46233a0847c1c5b8af32514a732381", func := "loop.example/g01157/laws.FnExactAreInSync", spec := "fnExactAreInSync", inPlace := ["math.Float32bits"], unfollowed := true, recurses := true, apart := false, narrowed := true }
def FnExactAreInSyncUptoSaid : Prop := fnExactAreInSyncUptoRow.holds Try.pinned (OpenSpec.upto fnExactAreInSyncSpec)

/-- 'laws.FnReduced', WHERE WHAT IT READS IS OF BULK AT MOST 1048576: true; the input reads as it did. -/
def fnReducedUptoRow : OpenClaim := { program := "ytnkmgeiehhonkaa", sum := "f8fbab2fa57d4ae82d8998a6f56470e0ab46233a0847c1c5b8af32514a732381", func := "loop.example/g01157/laws.FnReduced", spec := "fnReduced", inPlace := ["math.Float32frombits", "math.Float32bits"], unfollowed := true, recurses := true, apart := false, narrowed := true }
def FnReducedUptoSaid : Prop := fnReducedUptoRow.holds Try.pinned (OpenSpec.upto fnReducedSpec)

/-- 'laws.FnExactRunLayer', WHERE WHAT IT READS IS OF BULK AT MOST 1048576: true; the input reads as it did. -/
def fnExactRunLayerUptoRow : OpenClaim := { program := "ytnkmgeiehhonkaa", sum := "f8fbab2fa57d4ae82d8998a6f56470e0ab46233a0847c1c5b8af32514a732381", func := "loop.example/g01157/laws.FnExactRunLayer", spec := "fnExactRunLayer", inPlace := ["math.Float64frombits", "math.sqrt"], unfollowed := true, recurses := true, apart := false, narrowed := true }
def FnExactRunLayerUptoSaid : Prop := fnExactRunLayerUptoRow.holds Try.pinned (OpenSpec.upto fnExactRunLayerSpec)

/-- 'laws.FnExactStagesOf', WHERE WHAT IT READS IS OF BULK AT MOST 1048576: true; the input reads as it did. -/
def fnExactStagesOfUptoRow : OpenClaim := { program := "ytnkmgeiehhonkaa", sum := "f8fbab2fa57d4ae82d8998a6f56470e0ab46233a0847c1c5b8af32514a732381", func := "loop.example/g01157/laws.FnExactStagesOf", spec := "fnExactStagesOf", inPlace := ["math.Float64frombits", "math.sqrt"], unfollowed := true, recurses := true, apart := false, narrowed := true }
def FnExactStagesOfUptoSaid : Prop := fnExactStagesOfUptoRow.holds Try.pinned (OpenSpec.upto fnExactStagesOfSpec)

/-- 'laws.FnExactRunModel', WHERE WHAT IT READS IS OF BULK AT MOST 1048576: true; the input reads as it did. -/
def fnExactRunModelUptoRow : OpenClaim := { program := "ytnkmgeiehhonkaa", sum := "f8fbab2fa57d4ae82d8998a6f56470e0ab46233a0847c1c5b8af32514a732381", func := "loop.example/g01157/laws.FnExactRunModel", spec := "fnExactRunModel", inPlace := ["math.Float64frombits", "math.sqrt"], unfollowed := true, recurses := true, apart := false, narrowed := true }
def FnExactRunModelUptoSaid : Prop := fnExactRunModelUptoRow.holds Try.pinned (OpenSpec.upto fnExactRunModelSpec)

/-- 'laws.FnExactCompileModel', WHERE WHAT IT READS IS OF BULK AT MOST 1048576: true; the input reads as it did. -/
def fnExactCompileModelUptoRow : OpenClaim := { program := "ytnkmgeiehhonkaa", sum := "f8fbab2fa57d4ae82d8998a6f56470e0ab46233a0847c1c5b8af32514a732381", func := "loop.example/g01157/laws.FnExactCompileModel", spec := "fnExactCompileModel", unfollowed := true, recurses := true, apart := false, narrowed := true }
def FnExactCompileModelUptoSaid : Prop := fnExactCompileModelUptoRow.holds Try.pinned (OpenSpec.upto fnExactCompileModelSpec)

/-- 'laws.FnExactRunPlan', WHERE WHAT IT READS IS OF BULK AT MOST 1048576: true; the input reads as it did. -/
def fnExactRunPlanUptoRow : OpenClaim := { program := "ytnkmgeiehhonkaa", sum := "f8fbab2fa57d4ae82d8998a6f56470e0ab46233a0847c1c5b8af32514a732381", func := "loop.example/g01157/laws.FnExactRunPlan", spec := "fnExactRunPlan", inPlace := ["math.Float64frombits", "math.sqrt"], unfollowed := true, recurses := true, apart := false, narrowed := true }
def FnExactRunPlanUptoSaid : Prop := fnExactRunPlanUptoRow.holds Try.pinned (OpenSpec.upto fnExactRunPlanSpec)

/-- 'laws.FnExactStepParams', WHERE WHAT IT READS IS OF BULK AT MOST 1048576: true; the input reads as it did. -/
def fnExactStepParamsUptoRow : OpenClaim := { program := "ytnkmgeiehhonkaa", sum := "f8fbab2fa57d4ae82d8998a6f56470e0ab46233a0847c1c5b8af32514a732381", func := "loop.example/g01157/laws.FnExactStepParams", spec := "fnExactStepParams", inPlace := ["math.sqrt"], unfollowed := true, recurses := true, apart := false, narrowed := true }
def FnExactStepParamsUptoSaid : Prop := fnExactStepParamsUptoRow.holds Try.pinned (OpenSpec.upto fnExactStepParamsSpec)

end Rows
end Go.Proofs.Ytnkmgeiehhonkaa
