/-
  No cell of these rows narrows 'for every input' (looked for: loops, veiled, ifaces, maps, wideKeys, modest, calm, conditions, laid).
  DERIVED. THE GIVEN ROWS OF THIS SEAT. 12 by the template 'for every input the law returns true; each argument reads behind the call as it read before'; 0 by the template 'total and deterministic' (their statements: YtaklcmibpnpffaaTotals.lean).
  GIVEN WITH THE SEED: the statements are not yours to turn. If you find one false, say at which input.
  Laid BY PROGRAM, IN A SANDBOX (cutbox-rows.mjs): the forced cells as the released guide's own fill.sh prints them over the translation 537c57ea289bdb7f… (all of the seat's roots in one cut). By AI agents, Wed Nov 11 2026. No macro, syntax, notation, axiom, sorry.
-/
import Derived.Test.YtaklcmibpnpffaaChecked
import GoSem.Claim
import GoSem.ClaimJoined
import GoSem.ClaimMapViews
import Derived.JoinedTies
import Derived.KernelRfl
namespace Go.Proofs.Ytaklcmibpnpffaa
/- THE CELL 'sum', in the pinned program and in every row, IS THE sha256 OF THE DUMP (.gsa) THAT YtaklcmibpnpffaaProg.lean LOADS. Nothing in Lean hashes anything: it is a label: what it is worth is what the hold of that sum in a sandbox is worth. -/
noncomputable def Try.pinned : Pinned := { name := "ytaklcmibpnpffaa", sum := "537c57ea289bdb7f8c0391a6d125fa86c3532c3b5f55dfe226df12d9f3aa4b17", checked := Try.checked }
namespace Rows
def none {H : Type} : Left H := { results := [], args := [] }

/-- 'laws.FnExactPowerOf': WHATEVER THE INPUT: true; the input reads as it did. -/
def fnExactPowerOfSpec : ChangeSpec := { name := "fnExactPowerOf", fn := fun _ => fun
  | [d1, d2] => { results := [.lit (.bool true)], args := [d1, d2] }
  | _ => none }
def fnExactPowerOfRow : OpenClaim := { program := "ytaklcmibpnpffaa", sum := "537c57ea289bdb7f8c0391a6d125fa86c3532c3b5f55dfe226df12d9f3aa4b17", func := "loop.example/g01157/laws.FnExactPowerOf", spec := "fnExactPowerOf", apart := false }
def FnExactPowerOfSaid : Prop := fnExactPowerOfRow.holds Try.pinned (OpenSpec.ofChange fnExactPowerOfSpec)

/-- ITS FALSE NEIGHBOUR: 'it returns false'. Refute it at one input. -/
def fnExactPowerOfWrong : ChangeSpec := { name := "fnExactPowerOf", fn := fun _ => fun
  | [d1, d2] => { results := [.lit (.bool false)], args := [d1, d2] }
  | _ => none }
def FnExactPowerOfWrongFalsely : Prop := fnExactPowerOfRow.holds Try.pinned (OpenSpec.ofChange fnExactPowerOfWrong)

/-- 'laws.FnExactRateAt': WHATEVER THE INPUT: true; the input reads as it did. -/
def fnExactRateAtSpec : ChangeSpec := { name := "fnExactRateAt", fn := fun _ => fun
  | [d1, d2, d3, d4] => { results := [.lit (.bool true)], args := [d1, d2, d3, d4] }
  | _ => none }
def fnExactRateAtRow : OpenClaim := { program := "ytaklcmibpnpffaa", sum := "537c57ea289bdb7f8c0391a6d125fa86c3532c3b5f55dfe226df12d9f3aa4b17", func := "loop.example/g01157/laws.FnExactRateAt", spec := "fnExactRateAt", apart := false }
def FnExactRateAtSaid : Prop := fnExactRateAtRow.holds Try.pinned (OpenSpec.ofChange fnExactRateAtSpec)

/-- ITS FALSE NEIGHBOUR: 'it returns false'. Refute it at one input. -/
def fnExactRateAtWrong : ChangeSpec := { name := "fnExactRateAt", fn := fun _ => fun
  | [d1, d2, d3, d4] => { results := [.lit (.bool false)], args := [d1, d2, d3, d4] }
  | _ => none }
def FnExactRateAtWrongFalsely : Prop := fnExactRateAtRow.holds Try.pinned (OpenSpec.ofChange fnExactRateAtWrong)

/-- 'laws.FnExactGreatestOf': WHATEVER THE INPUT: true; the input reads as it did. -/
def fnExactGreatestOfSpec : ChangeSpec := { name := "fnExactGreatestOf", fn := fun _ => fun
  | [d] => { results := [.lit (.bool true)], args := [d] }
  | _ => none }
def fnExactGreatestOfRow : OpenClaim := { program := "ytaklcmibpnpffaa", sum := "537c57ea289bdb7f8c0391a6d125fa86c3532c3b5f55dfe226df12d9f3aa4b17", func := "loop.example/g01157/laws.FnExactGreatestOf", spec := "fnExactGreatestOf", apart := false }
def FnExactGreatestOfSaid : Prop := fnExactGreatestOfRow.holds Try.pinned (OpenSpec.ofChange fnExactGreatestOfSpec)

/-- ITS FALSE NEIGHBOUR: 'it returns false'. Refute it at one input. -/
def fnExactGreatestOfWrong : ChangeSpec := { name := "fnExactGreatestOf", fn := fun _ => fun
  | [d] => { results := [.lit (.bool false)], args := [d] }
  | _ => none }
def FnExactGreatestOfWrongFalsely : Prop := fnExactGreatestOfRow.holds Try.pinned (OpenSpec.ofChange fnExactGreatestOfWrong)

/-- 'laws.FnExactDecayParams': WHATEVER THE INPUT: true; the input reads as it did. -/
def fnExactDecayParamsSpec : ChangeSpec := { name := "fnExactDecayParams", fn := fun _ => fun
  | [d1, d2] => { results := [.lit (.bool true)], args := [d1, d2] }
  | _ => none }
def fnExactDecayParamsRow : OpenClaim := { program := "ytaklcmibpnpffaa", sum := "537c57ea289bdb7f8c0391a6d125fa86c3532c3b5f55dfe226df12d9f3aa4b17", func := "loop.example/g01157/laws.FnExactDecayParams", spec := "fnExactDecayParams", unfollowed := true, recurses := true, apart := false }
def FnExactDecayParamsSaid : Prop := fnExactDecayParamsRow.holds Try.pinned (OpenSpec.ofChange fnExactDecayParamsSpec)

/-- ITS FALSE NEIGHBOUR: 'it returns false'. Refute it at one input. -/
def fnExactDecayParamsWrong : ChangeSpec := { name := "fnExactDecayParams", fn := fun _ => fun
  | [d1, d2] => { results := [.lit (.bool false)], args := [d1, d2] }
  | _ => none }
def FnExactDecayParamsWrongFalsely : Prop := fnExactDecayParamsRow.holds Try.pinned (OpenSpec.ofChange fnExactDecayParamsWrong)

/-- 'laws.FnExactClipGradients': WHATEVER THE INPUT: true; the input reads as it did. -/
def fnExactClipGradientsSpec : ChangeSpec := { name := "fnExactClipGradients", fn := fun _ => fun
  | [d1, d2] => { results := [.lit (.bool true)], args := [d1, d2] }
  | _ => none }
def fnExactClipGradientsRow : OpenClaim := { program := "ytaklcmibpnpffaa", sum := "537c57ea289bdb7f8c0391a6d125fa86c3532c3b5f55dfe226df12d9f3aa4b17", func := "loop.example/g01157/laws.FnExactClipGradients", spec := "fnExactClipGradients", inPlace := ["math.sqrt"], unfollowed := true, recurses := true, apart := false }
def FnExactClipGradientsSaid : Prop := fnExactClipGradientsRow.holds Try.pinned (OpenSpec.ofChange fnExactClipGradientsSpec)

/-- ITS FALSE NEIGHBOUR: 'it returns false'. Refute it at one input. -/
def fnExactClipGradientsWrong : ChangeSpec := { name := "fnExactClipGradients", fn := fun _ => fun
  | [d1, d2] => { results := [.lit (.bool false)], args := [d1, d2] }
  | _ => none }
def FnExactClipGradientsWrongFalsely : Prop := fnExactClipGradientsRow.holds Try.pinned (OpenSpec.ofChange fnExactClipGradientsWrong)

/-- 'laws.FnExactLossSquares': WHATEVER THE INPUT: true; the input reads as it did. -/
def fnExactLossSquaresSpec : ChangeSpec := { name := "fnExactLossSquares", fn := fun _ => fun
  | [d1, d2] => { results := [.lit (.bool true)], args := [d1, d2] }
  | _ => none }
def fnExactLossSquaresRow : OpenClaim := { program := "ytaklcmibpnpffaa", sum := "537c57ea289bdb7f8c0391a6d125fa86c3532c3b5f55dfe226df12d9f3aa4b17", func := "loop.example/g01157/laws.FnExactLossSquares", spec := "fnExactLossSquares", unfollowed := true, recurses := true, apart := false }
def FnExactLossSquaresSaid : Prop := fnExactLossSquaresRow.holds Try.pinned (OpenSpec.ofChange fnExactLossSquaresSpec)

/-- ITS FALSE NEIGHBOUR: 'it returns false'. Refute it at one input. -/
def fnExactLossSquaresWrong : ChangeSpec := { name := "fnExactLossSquares", fn := fun _ => fun
  | [d1, d2] => { results := [.lit (.bool false)], args := [d1, d2] }
  | _ => none }
def FnExactLossSquaresWrongFalsely : Prop := fnExactLossSquaresRow.holds Try.pinned (OpenSpec.ofChange fnExactLossSquaresWrong)

/-- 'laws.FnExactLossAbsolute': WHATEVER THE INPUT: true; the input reads as it did. -/
def fnExactLossAbsoluteSpec : ChangeSpec := { name := "fnExactLossAbsolute", fn := fun _ => fun
  | [d1, d2] => { results := [.lit (.bool true)], args := [d1, d2] }
  | _ => none }
def fnExactLossAbsoluteRow : OpenClaim := { program := "ytaklcmibpnpffaa", sum := "537c57ea289bdb7f8c0391a6d125fa86c3532c3b5f55dfe226df12d9f3aa4b17", func := "loop.example/g01157/laws.FnExactLossAbsolute", spec := "fnExactLossAbsolute", inPlace := ["math.Float32bits", "math.Float32frombits"], unfollowed := true, recurses := true, apart := false }
def FnExactLossAbsoluteSaid : Prop := fnExactLossAbsoluteRow.holds Try.pinned (OpenSpec.ofChange fnExactLossAbsoluteSpec)

/-- ITS FALSE NEIGHBOUR: 'it returns false'. Refute it at one input. -/
def fnExactLossAbsoluteWrong : ChangeSpec := { name := "fnExactLossAbsolute", fn := fun _ => fun
  | [d1, d2] => { results := [.lit (.bool false)], args := [d1, d2] }
  | _ => none }
def FnExactLossAbsoluteWrongFalsely : Prop := fnExactLossAbsoluteRow.holds Try.pinned (OpenSpec.ofChange fnExactLossAbsoluteWrong)

/-- 'laws.FnExactLossHuber': WHATEVER THE INPUT: true; the input reads as it did. -/
def fnExactLossHuberSpec : ChangeSpec := { name := "fnExactLossHuber", fn := fun _ => fun
  | [d1, d2, d3] => { results := [.lit (.bool true)], args := [d1, d2, d3] }
  | _ => none }
def fnExactLossHuberRow : OpenClaim := { program := "ytaklcmibpnpffaa", sum := "537c57ea289bdb7f8c0391a6d125fa86c3532c3b5f55dfe226df12d9f3aa4b17", func := "loop.example/g01157/laws.FnExactLossHuber", spec := "fnExactLossHuber", inPlace := ["math.Float32bits", "math.Float32frombits"], unfollowed := true, recurses := true, apart := false }
def FnExactLossHuberSaid : Prop := fnExactLossHuberRow.holds Try.pinned (OpenSpec.ofChange fnExactLossHuberSpec)

/-- ITS FALSE NEIGHBOUR: 'it returns false'. Refute it at one input. -/
def fnExactLossHuberWrong : ChangeSpec := { name := "fnExactLossHuber", fn := fun _ => fun
  | [d1, d2, d3] => { results := [.lit (.bool false)], args := [d1, d2, d3] }
  | _ => none }
def FnExactLossHuberWrongFalsely : Prop := fnExactLossHuberRow.holds Try.pinned (OpenSpec.ofChange fnExactLossHuberWrong)

/-- 'laws.FnExactLossEntropy': WHATEVER THE INPUT: true; the input reads as it did. -/
def fnExactLossEntropySpec : ChangeSpec := { name := "fnExactLossEntropy", fn := fun _ => fun
  | [d1, d2] => { results := [.lit (.bool true)], args := [d1, d2] }
  | _ => none }
def fnExactLossEntropyRow : OpenClaim := { program := "ytaklcmibpnpffaa", sum := "537c57ea289bdb7f8c0391a6d125fa86c3532c3b5f55dfe226df12d9f3aa4b17", func := "loop.example/g01157/laws.FnExactLossEntropy", spec := "fnExactLossEntropy", inPlace := ["math.Float64frombits", "math.Float64bits"], unfollowed := true, recurses := true, apart := false }
def FnExactLossEntropySaid : Prop := fnExactLossEntropyRow.holds Try.pinned (OpenSpec.ofChange fnExactLossEntropySpec)

/-- ITS FALSE NEIGHBOUR: 'it returns false'. Refute it at one input. -/
def fnExactLossEntropyWrong : ChangeSpec := { name := "fnExactLossEntropy", fn := fun _ => fun
  | [d1, d2] => { results := [.lit (.bool false)], args := [d1, d2] }
  | _ => none }
def FnExactLossEntropyWrongFalsely : Prop := fnExactLossEntropyRow.holds Try.pinned (OpenSpec.ofChange fnExactLossEntropyWrong)

/-- 'laws.FnExactValidOptimizer': WHATEVER THE INPUT: true; the input reads as it did. -/
def fnExactValidOptimizerSpec : ChangeSpec := { name := "fnExactValidOptimizer", fn := fun _ => fun
  | [d] => { results := [.lit (.bool true)], args := [d] }
  | _ => none }
def fnExactValidOptimizerRow : OpenClaim := { program := "ytaklcmibpnpffaa", sum := "537c57ea289bdb7f8c0391a6d125fa86c3532c3b5f55dfe226df12d9f3aa4b17", func := "loop.example/g01157/laws.FnExactValidOptimizer", spec := "fnExactValidOptimizer", apart := false }
def FnExactValidOptimizerSaid : Prop := fnExactValidOptimizerRow.holds Try.pinned (OpenSpec.ofChange fnExactValidOptimizerSpec)

/-- ITS FALSE NEIGHBOUR: 'it returns false'. Refute it at one input. -/
def fnExactValidOptimizerWrong : ChangeSpec := { name := "fnExactValidOptimizer", fn := fun _ => fun
  | [d] => { results := [.lit (.bool false)], args := [d] }
  | _ => none }
def FnExactValidOptimizerWrongFalsely : Prop := fnExactValidOptimizerRow.holds Try.pinned (OpenSpec.ofChange fnExactValidOptimizerWrong)

/-- 'laws.FnExactEmptySlots': WHATEVER THE INPUT: true; the input reads as it did. -/
def fnExactEmptySlotsSpec : ChangeSpec := { name := "fnExactEmptySlots", fn := fun _ => fun
  | [d1, d2] => { results := [.lit (.bool true)], args := [d1, d2] }
  | _ => none }
def fnExactEmptySlotsRow : OpenClaim := { program := "ytaklcmibpnpffaa", sum := "537c57ea289bdb7f8c0391a6d125fa86c3532c3b5f55dfe226df12d9f3aa4b17", func := "loop.example/g01157/laws.FnExactEmptySlots", spec := "fnExactEmptySlots", unfollowed := true, recurses := true, apart := false }
def FnExactEmptySlotsSaid : Prop := fnExactEmptySlotsRow.holds Try.pinned (OpenSpec.ofChange fnExactEmptySlotsSpec)

/-- ITS FALSE NEIGHBOUR: 'it returns false'. Refute it at one input. -/
def fnExactEmptySlotsWrong : ChangeSpec := { name := "fnExactEmptySlots", fn := fun _ => fun
  | [d1, d2] => { results := [.lit (.bool false)], args := [d1, d2] }
  | _ => none }
def FnExactEmptySlotsWrongFalsely : Prop := fnExactEmptySlotsRow.holds Try.pinned (OpenSpec.ofChange fnExactEmptySlotsWrong)

/-- 'laws.FnExactRoundModel': WHATEVER THE INPUT: true; the input reads as it did. -/
def fnExactRoundModelSpec : ChangeSpec := { name := "fnExactRoundModel", fn := fun _ => fun
  | [d] => { results := [.lit (.bool true)], args := [d] }
  | _ => none }
def fnExactRoundModelRow : OpenClaim := { program := "ytaklcmibpnpffaa", sum := "537c57ea289bdb7f8c0391a6d125fa86c3532c3b5f55dfe226df12d9f3aa4b17", func := "loop.example/g01157/laws.FnExactRoundModel", spec := "fnExactRoundModel", inPlace := ["math.Float32bits", "math.Float32frombits"], unfollowed := true, recurses := true, apart := false }
def FnExactRoundModelSaid : Prop := fnExactRoundModelRow.holds Try.pinned (OpenSpec.ofChange fnExactRoundModelSpec)

/-- ITS FALSE NEIGHBOUR: 'it returns false'. Refute it at one input. -/
def fnExactRoundModelWrong : ChangeSpec := { name := "fnExactRoundModel", fn := fun _ => fun
  | [d] => { results := [.lit (.bool false)], args := [d] }
  | _ => none }
def FnExactRoundModelWrongFalsely : Prop := fnExactRoundModelRow.holds Try.pinned (OpenSpec.ofChange fnExactRoundModelWrong)

/- THE SECOND FORM. 'bulk': how many values and letters a reading holds, each counted each time it is reached (what is shared counts as often as it is met; a slice's spare places count too). A statement '..UptoSaid' is the law's where the arguments, and the package variables that the reading takes, are together of bulk at most 1048576: NARROWER than '..Said'. Prove '..Said' where nothing that the law and all that it calls make is longer than what came in: it says more and counts as full. Else prove '..UptoSaid'. A law counts once. -/
mutual
def uptoBulk {H : Type} : DataW H → Nat
  | .lit (.string bytes) => bytes.length + 1
  | .lit _ => 1
  | .nil => 1
  | .ptr d => uptoBulk d + 1
  | .slice elems spare => uptoBulkAll elems + uptoBulkAll spare + 1
  | .agg parts => uptoBulkAll parts + 1
  | .iface _ d => uptoBulk d + 1
  | .map entries => uptoBulkEntries entries + 1
  | .held _ => 1
def uptoBulkAll {H : Type} : List (DataW H) → Nat
  | [] => 0
  | d :: r => uptoBulk d + uptoBulkAll r
def uptoBulkEntries {H : Type} : List (Lit × DataW H) → Nat
  | [] => 0
  | x :: r => uptoBulkEntry x + uptoBulkEntries r
def uptoBulkEntry {H : Type} : Lit × DataW H → Nat
  | (.string bytes, d) => bytes.length + uptoBulk d + 1
  | (_, d) => uptoBulk d + 1
 end
def uptoSmall : (H : Type) → List (DataW H) → Bool := fun _ ds => decide (uptoBulkAll ds ≤ 1048576)
def OpenSpec.upto (s : _root_.Go.ChangeSpec) : _root_.Go.OpenSpec := { _root_.Go.OpenSpec.ofChange s with cond := some uptoSmall }

/-- 'laws.FnExactPowerOf', WHERE WHAT IT READS IS OF BULK AT MOST 1048576: true; the input reads as it did. -/
def fnExactPowerOfUptoRow : OpenClaim := { program := "ytaklcmibpnpffaa", sum := "537c57ea289bdb7f8c0391a6d125fa86c3532c3b5f55dfe226df12d9f3aa4b17", func := "loop.example/g01157/laws.FnExactPowerOf", spec := "fnExactPowerOf", apart := false, narrowed := true }
def FnExactPowerOfUptoSaid : Prop := fnExactPowerOfUptoRow.holds Try.pinned (OpenSpec.upto fnExactPowerOfSpec)

/-- 'laws.FnExactRateAt', WHERE WHAT IT READS IS OF BULK AT MOST 1048576: true; the input reads as it did. -/
def fnExactRateAtUptoRow : OpenClaim := { program := "ytaklcmibpnpffaa", sum := "537c57ea289bdb7f8c0391a6d125fa86c3532c3b5f55dfe226df12d9f3aa4b17", func := "loop.example/g01157/laws.FnExactRateAt", spec := "fnExactRateAt", apart := false, narrowed := true }
def FnExactRateAtUptoSaid : Prop := fnExactRateAtUptoRow.holds Try.pinned (OpenSpec.upto fnExactRateAtSpec)

/-- 'laws.FnExactGreatestOf', WHERE WHAT IT READS IS OF BULK AT MOST 1048576: true; the input reads as it did. -/
def fnExactGreatestOfUptoRow : OpenClaim := { program := "ytaklcmibpnpffaa", sum := "537c57ea289bdb7f8c0391a6d125fa86c3532c3b5f55dfe226df12d9f3aa4b17", func := "loop.example/g01157/laws.FnExactGreatestOf", spec := "fnExactGreatestOf", apart := false, narrowed := true }
def FnExactGreatestOfUptoSaid : Prop := fnExactGreatestOfUptoRow.holds Try.pinned (OpenSpec.upto fnExactGreatestOfSpec)

/-- 'laws.FnExactDecayParams', WHERE WHAT IT READS IS OF BULK AT MOST 1048576: true; the input reads as it did. -/
def fnExactDecayParamsUptoRow : OpenClaim := { program := "ytaklcmibpnpffaa", sum := "537c57ea289bdb7f8c0391a6d125fa86c3532c3b5f55dfe226df12d9f3aa4b17", func := "loop.example/g01157/laws.FnExactDecayParams", spec := "fnExactDecayParams", unfollowed := true, recurses := true, apart := false, narrowed := true }
def FnExactDecayParamsUptoSaid : Prop := fnExactDecayParamsUptoRow.holds Try.pinned (OpenSpec.upto fnExactDecayParamsSpec)

/-- 'laws.FnExactClipGradients', WHERE WHAT IT READS IS OF BULK AT MOST 1048576: true; the input reads as it did. -/
def fnExactClipGradientsUptoRow : OpenClaim := { program := "ytaklcmibpnpffaa", sum := "537c57ea289bdb7f8c0391a6d125fa86c3532c3b5f55dfe226df12d9f3aa4b17", func := "loop.example/g01157/laws.FnExactClipGradients", spec := "fnExactClipGradients", inPlace := ["math.sqrt"], unfollowed := true, recurses := true, apart := false, narrowed := true }
def FnExactClipGradientsUptoSaid : Prop := fnExactClipGradientsUptoRow.holds Try.pinned (OpenSpec.upto fnExactClipGradientsSpec)

/-- 'laws.FnExactLossSquares', WHERE WHAT IT READS IS OF BULK AT MOST 1048576: true; the input reads as it did. -/
def fnExactLossSquaresUptoRow : OpenClaim := { program := "ytaklcmibpnpffaa", sum := "537c57ea289bdb7f8c0391a6d125fa86c3532c3b5f55dfe226df12d9f3aa4b17", func := "loop.example/g01157/laws.FnExactLossSquares", spec := "fnExactLossSquares", unfollowed := true, recurses := true, apart := false, narrowed := true }
def FnExactLossSquaresUptoSaid : Prop := fnExactLossSquaresUptoRow.holds Try.pinned (OpenSpec.upto fnExactLossSquaresSpec)

/-- 'laws.FnExactLossAbsolute', WHERE WHAT IT READS IS OF BULK AT MOST 1048576: true; the input reads as it did. -/
def fnExactLossAbsoluteUptoRow : OpenClaim := { program := "ytaklcmibpnpffaa", sum := "537c57ea289bdb7f8c0391a6d125fa86c3532c3b5f55dfe226df12d9f3aa4b17", func := "loop.example/g01157/laws.FnExactLossAbsolute", spec := "fnExactLossAbsolute", inPlace := ["math.Float32bits", "math.Float32frombits"], unfollowed := true, recurses := true, apart := false, narrowed := true }
def FnExactLossAbsoluteUptoSaid : Prop := fnExactLossAbsoluteUptoRow.holds Try.pinned (OpenSpec.upto fnExactLossAbsoluteSpec)

/-- 'laws.FnExactLossHuber', WHERE WHAT IT READS IS OF BULK AT MOST 1048576: true; the input reads as it did. -/
def fnExactLossHuberUptoRow : OpenClaim := { program := "ytaklcmibpnpffaa", sum := "537c57ea289bdb7f8c0391a6d125fa86c3532c3b5f55dfe226df12d9f3aa4b17", func := "loop.example/g01157/laws.FnExactLossHuber", spec := "fnExactLossHuber", inPlace := ["math.Float32bits", "math.Float32frombits"], unfollowed := true, recurses := true, apart := false, narrowed := true }
def FnExactLossHuberUptoSaid : Prop := fnExactLossHuberUptoRow.holds Try.pinned (OpenSpec.upto fnExactLossHuberSpec)

/-- 'laws.FnExactLossEntropy', WHERE WHAT IT READS IS OF BULK AT MOST 1048576: true; the input reads as it did. -/
def fnExactLossEntropyUptoRow : OpenClaim := { program := "ytaklcmibpnpffaa", sum := "537c57ea289bdb7f8c0391a6d125fa86c3532c3b5f55dfe226df12d9f3aa4b17", func := "loop.example/g01157/laws.FnExactLossEntropy", spec := "fnExactLossEntropy", inPlace := ["math.Float64frombits", "math.Float64bits"], unfollowed := true, recurses := true, apart := false, narrowed := true }
def FnExactLossEntropyUptoSaid : Prop := fnExactLossEntropyUptoRow.holds Try.pinned (OpenSpec.upto fnExactLossEntropySpec)

/-- 'laws.FnExactValidOptimizer', WHERE WHAT IT READS IS OF BULK AT MOST 1048576: true; the input reads as it did. -/
def fnExactValidOptimizerUptoRow : OpenClaim := { program := "ytaklcmibpnpffaa", sum := "537c57ea289bdb7f8c0391a6d125fa86c3532c3b5f55dfe226df12d9f3aa4b17", func := "loop.example/g01157/laws.FnExactValidOptimizer", spec := "fnExactValidOptimizer", apart := false, narrowed := true }
def FnExactValidOptimizerUptoSaid : Prop := fnExactValidOptimizerUptoRow.holds Try.pinned (OpenSpec.upto fnExactValidOptimizerSpec)

/-- 'laws.FnExactEmptySlots', WHERE WHAT IT READS IS OF BULK AT MOST 1048576: true; the input reads as it did. -/
def fnExactEmptySlotsUptoRow : OpenClaim := { program := "ytaklcmibpnpffaa", sum := "537c57ea289bdb7f8c0391a6d125fa86c3532c3b5f55dfe226df12d9f3aa4b17", func := "loop.example/g01157/laws.FnExactEmptySlots", spec := "fnExactEmptySlots", unfollowed := true, recurses := true, apart := false, narrowed := true }
def FnExactEmptySlotsUptoSaid : Prop := fnExactEmptySlotsUptoRow.holds Try.pinned (OpenSpec.upto fnExactEmptySlotsSpec)

/-- 'laws.FnExactRoundModel', WHERE WHAT IT READS IS OF BULK AT MOST 1048576: true; the input reads as it did. -/
def fnExactRoundModelUptoRow : OpenClaim := { program := "ytaklcmibpnpffaa", sum := "537c57ea289bdb7f8c0391a6d125fa86c3532c3b5f55dfe226df12d9f3aa4b17", func := "loop.example/g01157/laws.FnExactRoundModel", spec := "fnExactRoundModel", inPlace := ["math.Float32bits", "math.Float32frombits"], unfollowed := true, recurses := true, apart := false, narrowed := true }
def FnExactRoundModelUptoSaid : Prop := fnExactRoundModelUptoRow.holds Try.pinned (OpenSpec.upto fnExactRoundModelSpec)

end Rows
end Go.Proofs.Ytaklcmibpnpffaa
