/-
  No cell of these rows narrows 'for every input' (looked for: loops, veiled, ifaces, maps, wideKeys, modest, calm, conditions, laid).
  DERIVED. THE GIVEN ROWS OF THIS SEAT. 12 by the template 'for every input the law returns true; each argument reads behind the call as it read before'; 0 by the template 'total and deterministic' (their statements: YtnjimhedcmjfbabTotals.lean).
  GIVEN WITH THE SEED: the statements are not yours to turn. If you find one false, say at which input.
  Laid BY PROGRAM, IN A SANDBOX (cutbox-rows.mjs): the forced cells as the released guide's own fill.sh prints them over the translation 7a5647c761dd4306… (all of the seat's roots in one cut). By AI agents, Wed Nov 11 2026. No macro, syntax, notation, axiom, sorry.
-/
import Derived.Test.YtnjimhedcmjfbabChecked
import GoSem.Claim
import GoSem.ClaimJoined
import GoSem.ClaimMapViews
import Derived.JoinedTies
import Derived.KernelRfl
namespace Go.Proofs.Ytnjimhedcmjfbab
/- THE CELL 'sum', in the pinned program and in every row, IS THE sha256 OF THE DUMP (.gsa) THAT YtnjimhedcmjfbabProg.lean LOADS. Nothing in Lean hashes anything: it is a label: what it is worth is what the hold of that sum in a sandbox is worth. -/
noncomputable def Try.pinned : Pinned := { name := "ytnjimhedcmjfbab", sum := "7a5647c761dd4306acb3e9bc7c1b7ca3bd05552b46c71312f3879f046cd56788", checked := Try.checked }
namespace Rows
def none {H : Type} : Left H := { results := [], args := [] }

/-- 'laws.FnExactNextUp': WHATEVER THE INPUT: true; the input reads as it did. -/
def fnExactNextUpSpec : ChangeSpec := { name := "fnExactNextUp", fn := fun _ => fun
  | [d] => { results := [.lit (.bool true)], args := [d] }
  | _ => none }
def fnExactNextUpRow : OpenClaim := { program := "ytnjimhedcmjfbab", sum := "7a5647c761dd4306acb3e9bc7c1b7ca3bd05552b46c71312f3879f046cd56788", func := "loop.example/g01157/laws.FnExactNextUp", spec := "fnExactNextUp", inPlace := ["math.Float32bits", "math.Float32frombits"], apart := false }
def FnExactNextUpSaid : Prop := fnExactNextUpRow.holds Try.pinned (OpenSpec.ofChange fnExactNextUpSpec)

/-- ITS FALSE NEIGHBOUR: 'it returns false'. Refute it at one input. -/
def fnExactNextUpWrong : ChangeSpec := { name := "fnExactNextUp", fn := fun _ => fun
  | [d] => { results := [.lit (.bool false)], args := [d] }
  | _ => none }
def FnExactNextUpWrongFalsely : Prop := fnExactNextUpRow.holds Try.pinned (OpenSpec.ofChange fnExactNextUpWrong)

/-- 'laws.FnExactNextDown': WHATEVER THE INPUT: true; the input reads as it did. -/
def fnExactNextDownSpec : ChangeSpec := { name := "fnExactNextDown", fn := fun _ => fun
  | [d] => { results := [.lit (.bool true)], args := [d] }
  | _ => none }
def fnExactNextDownRow : OpenClaim := { program := "ytnjimhedcmjfbab", sum := "7a5647c761dd4306acb3e9bc7c1b7ca3bd05552b46c71312f3879f046cd56788", func := "loop.example/g01157/laws.FnExactNextDown", spec := "fnExactNextDown", inPlace := ["math.Float32bits", "math.Float32frombits"], apart := false }
def FnExactNextDownSaid : Prop := fnExactNextDownRow.holds Try.pinned (OpenSpec.ofChange fnExactNextDownSpec)

/-- ITS FALSE NEIGHBOUR: 'it returns false'. Refute it at one input. -/
def fnExactNextDownWrong : ChangeSpec := { name := "fnExactNextDown", fn := fun _ => fun
  | [d] => { results := [.lit (.bool false)], args := [d] }
  | _ => none }
def FnExactNextDownWrongFalsely : Prop := fnExactNextDownRow.holds Try.pinned (OpenSpec.ofChange fnExactNextDownWrong)

/-- 'laws.FnExactSumNumbers': WHATEVER THE INPUT: true; the input reads as it did. -/
def fnExactSumNumbersSpec : ChangeSpec := { name := "fnExactSumNumbers", fn := fun _ => fun
  | [d] => { results := [.lit (.bool true)], args := [d] }
  | _ => none }
def fnExactSumNumbersRow : OpenClaim := { program := "ytnjimhedcmjfbab", sum := "7a5647c761dd4306acb3e9bc7c1b7ca3bd05552b46c71312f3879f046cd56788", func := "loop.example/g01157/laws.FnExactSumNumbers", spec := "fnExactSumNumbers", apart := false }
def FnExactSumNumbersSaid : Prop := fnExactSumNumbersRow.holds Try.pinned (OpenSpec.ofChange fnExactSumNumbersSpec)

/-- ITS FALSE NEIGHBOUR: 'it returns false'. Refute it at one input. -/
def fnExactSumNumbersWrong : ChangeSpec := { name := "fnExactSumNumbers", fn := fun _ => fun
  | [d] => { results := [.lit (.bool false)], args := [d] }
  | _ => none }
def FnExactSumNumbersWrongFalsely : Prop := fnExactSumNumbersRow.holds Try.pinned (OpenSpec.ofChange fnExactSumNumbersWrong)

/-- 'laws.FnExactSumPairs': WHATEVER THE INPUT: true; the input reads as it did. -/
def fnExactSumPairsSpec : ChangeSpec := { name := "fnExactSumPairs", fn := fun _ => fun
  | [d] => { results := [.lit (.bool true)], args := [d] }
  | _ => none }
def fnExactSumPairsRow : OpenClaim := { program := "ytnjimhedcmjfbab", sum := "7a5647c761dd4306acb3e9bc7c1b7ca3bd05552b46c71312f3879f046cd56788", func := "loop.example/g01157/laws.FnExactSumPairs", spec := "fnExactSumPairs", recurses := true, apart := false }
def FnExactSumPairsSaid : Prop := fnExactSumPairsRow.holds Try.pinned (OpenSpec.ofChange fnExactSumPairsSpec)

/-- ITS FALSE NEIGHBOUR: 'it returns false'. Refute it at one input. -/
def fnExactSumPairsWrong : ChangeSpec := { name := "fnExactSumPairs", fn := fun _ => fun
  | [d] => { results := [.lit (.bool false)], args := [d] }
  | _ => none }
def FnExactSumPairsWrongFalsely : Prop := fnExactSumPairsRow.holds Try.pinned (OpenSpec.ofChange fnExactSumPairsWrong)

/-- 'laws.FnExactSumCarried': WHATEVER THE INPUT: true; the input reads as it did. -/
def fnExactSumCarriedSpec : ChangeSpec := { name := "fnExactSumCarried", fn := fun _ => fun
  | [d] => { results := [.lit (.bool true)], args := [d] }
  | _ => none }
def fnExactSumCarriedRow : OpenClaim := { program := "ytnjimhedcmjfbab", sum := "7a5647c761dd4306acb3e9bc7c1b7ca3bd05552b46c71312f3879f046cd56788", func := "loop.example/g01157/laws.FnExactSumCarried", spec := "fnExactSumCarried", apart := false }
def FnExactSumCarriedSaid : Prop := fnExactSumCarriedRow.holds Try.pinned (OpenSpec.ofChange fnExactSumCarriedSpec)

/-- ITS FALSE NEIGHBOUR: 'it returns false'. Refute it at one input. -/
def fnExactSumCarriedWrong : ChangeSpec := { name := "fnExactSumCarried", fn := fun _ => fun
  | [d] => { results := [.lit (.bool false)], args := [d] }
  | _ => none }
def FnExactSumCarriedWrongFalsely : Prop := fnExactSumCarriedRow.holds Try.pinned (OpenSpec.ofChange fnExactSumCarriedWrong)

/-- 'laws.FnExactDotNumbers': WHATEVER THE INPUT: true; the input reads as it did. -/
def fnExactDotNumbersSpec : ChangeSpec := { name := "fnExactDotNumbers", fn := fun _ => fun
  | [d1, d2] => { results := [.lit (.bool true)], args := [d1, d2] }
  | _ => none }
def fnExactDotNumbersRow : OpenClaim := { program := "ytnjimhedcmjfbab", sum := "7a5647c761dd4306acb3e9bc7c1b7ca3bd05552b46c71312f3879f046cd56788", func := "loop.example/g01157/laws.FnExactDotNumbers", spec := "fnExactDotNumbers", apart := false }
def FnExactDotNumbersSaid : Prop := fnExactDotNumbersRow.holds Try.pinned (OpenSpec.ofChange fnExactDotNumbersSpec)

/-- ITS FALSE NEIGHBOUR: 'it returns false'. Refute it at one input. -/
def fnExactDotNumbersWrong : ChangeSpec := { name := "fnExactDotNumbers", fn := fun _ => fun
  | [d1, d2] => { results := [.lit (.bool false)], args := [d1, d2] }
  | _ => none }
def FnExactDotNumbersWrongFalsely : Prop := fnExactDotNumbersRow.holds Try.pinned (OpenSpec.ofChange fnExactDotNumbersWrong)

/-- 'laws.FnExactDotWide': WHATEVER THE INPUT: true; the input reads as it did. -/
def fnExactDotWideSpec : ChangeSpec := { name := "fnExactDotWide", fn := fun _ => fun
  | [d1, d2] => { results := [.lit (.bool true)], args := [d1, d2] }
  | _ => none }
def fnExactDotWideRow : OpenClaim := { program := "ytnjimhedcmjfbab", sum := "7a5647c761dd4306acb3e9bc7c1b7ca3bd05552b46c71312f3879f046cd56788", func := "loop.example/g01157/laws.FnExactDotWide", spec := "fnExactDotWide", apart := false }
def FnExactDotWideSaid : Prop := fnExactDotWideRow.holds Try.pinned (OpenSpec.ofChange fnExactDotWideSpec)

/-- ITS FALSE NEIGHBOUR: 'it returns false'. Refute it at one input. -/
def fnExactDotWideWrong : ChangeSpec := { name := "fnExactDotWide", fn := fun _ => fun
  | [d1, d2] => { results := [.lit (.bool false)], args := [d1, d2] }
  | _ => none }
def FnExactDotWideWrongFalsely : Prop := fnExactDotWideRow.holds Try.pinned (OpenSpec.ofChange fnExactDotWideWrong)

/-- 'laws.FnExactBfloatOf': WHATEVER THE INPUT: true; the input reads as it did. -/
def fnExactBfloatOfSpec : ChangeSpec := { name := "fnExactBfloatOf", fn := fun _ => fun
  | [d] => { results := [.lit (.bool true)], args := [d] }
  | _ => none }
def fnExactBfloatOfRow : OpenClaim := { program := "ytnjimhedcmjfbab", sum := "7a5647c761dd4306acb3e9bc7c1b7ca3bd05552b46c71312f3879f046cd56788", func := "loop.example/g01157/laws.FnExactBfloatOf", spec := "fnExactBfloatOf", inPlace := ["math.Float32bits", "math.Float32frombits"], apart := false }
def FnExactBfloatOfSaid : Prop := fnExactBfloatOfRow.holds Try.pinned (OpenSpec.ofChange fnExactBfloatOfSpec)

/-- ITS FALSE NEIGHBOUR: 'it returns false'. Refute it at one input. -/
def fnExactBfloatOfWrong : ChangeSpec := { name := "fnExactBfloatOf", fn := fun _ => fun
  | [d] => { results := [.lit (.bool false)], args := [d] }
  | _ => none }
def FnExactBfloatOfWrongFalsely : Prop := fnExactBfloatOfRow.holds Try.pinned (OpenSpec.ofChange fnExactBfloatOfWrong)

/-- 'laws.FnExactBfloatBy': WHATEVER THE INPUT: true; the input reads as it did. -/
def fnExactBfloatBySpec : ChangeSpec := { name := "fnExactBfloatBy", fn := fun _ => fun
  | [d1, d2] => { results := [.lit (.bool true)], args := [d1, d2] }
  | _ => none }
def fnExactBfloatByRow : OpenClaim := { program := "ytnjimhedcmjfbab", sum := "7a5647c761dd4306acb3e9bc7c1b7ca3bd05552b46c71312f3879f046cd56788", func := "loop.example/g01157/laws.FnExactBfloatBy", spec := "fnExactBfloatBy", inPlace := ["math.Float32bits", "math.Float32frombits"], apart := false }
def FnExactBfloatBySaid : Prop := fnExactBfloatByRow.holds Try.pinned (OpenSpec.ofChange fnExactBfloatBySpec)

/-- ITS FALSE NEIGHBOUR: 'it returns false'. Refute it at one input. -/
def fnExactBfloatByWrong : ChangeSpec := { name := "fnExactBfloatBy", fn := fun _ => fun
  | [d1, d2] => { results := [.lit (.bool false)], args := [d1, d2] }
  | _ => none }
def FnExactBfloatByWrongFalsely : Prop := fnExactBfloatByRow.holds Try.pinned (OpenSpec.ofChange fnExactBfloatByWrong)

/-- 'laws.FnExactEightOf': WHATEVER THE INPUT: true; the input reads as it did. -/
def fnExactEightOfSpec : ChangeSpec := { name := "fnExactEightOf", fn := fun _ => fun
  | [d1, d2] => { results := [.lit (.bool true)], args := [d1, d2] }
  | _ => none }
def fnExactEightOfRow : OpenClaim := { program := "ytnjimhedcmjfbab", sum := "7a5647c761dd4306acb3e9bc7c1b7ca3bd05552b46c71312f3879f046cd56788", func := "loop.example/g01157/laws.FnExactEightOf", spec := "fnExactEightOf", inPlace := ["math.Float32bits", "math.Float32frombits", "math.Float64frombits", "math.Float64bits"], apart := false }
def FnExactEightOfSaid : Prop := fnExactEightOfRow.holds Try.pinned (OpenSpec.ofChange fnExactEightOfSpec)

/-- ITS FALSE NEIGHBOUR: 'it returns false'. Refute it at one input. -/
def fnExactEightOfWrong : ChangeSpec := { name := "fnExactEightOf", fn := fun _ => fun
  | [d1, d2] => { results := [.lit (.bool false)], args := [d1, d2] }
  | _ => none }
def FnExactEightOfWrongFalsely : Prop := fnExactEightOfRow.holds Try.pinned (OpenSpec.ofChange fnExactEightOfWrong)

/-- 'laws.FnExactEightValue': WHATEVER THE INPUT: true; the input reads as it did. -/
def fnExactEightValueSpec : ChangeSpec := { name := "fnExactEightValue", fn := fun _ => fun
  | [d1, d2] => { results := [.lit (.bool true)], args := [d1, d2] }
  | _ => none }
def fnExactEightValueRow : OpenClaim := { program := "ytnjimhedcmjfbab", sum := "7a5647c761dd4306acb3e9bc7c1b7ca3bd05552b46c71312f3879f046cd56788", func := "loop.example/g01157/laws.FnExactEightValue", spec := "fnExactEightValue", inPlace := ["math.Float32frombits", "math.Float64frombits", "math.Float64bits"], apart := false }
def FnExactEightValueSaid : Prop := fnExactEightValueRow.holds Try.pinned (OpenSpec.ofChange fnExactEightValueSpec)

/-- ITS FALSE NEIGHBOUR: 'it returns false'. Refute it at one input. -/
def fnExactEightValueWrong : ChangeSpec := { name := "fnExactEightValue", fn := fun _ => fun
  | [d1, d2] => { results := [.lit (.bool false)], args := [d1, d2] }
  | _ => none }
def FnExactEightValueWrongFalsely : Prop := fnExactEightValueRow.holds Try.pinned (OpenSpec.ofChange fnExactEightValueWrong)

/-- 'laws.FnExactExpNumber': WHATEVER THE INPUT: true; the input reads as it did. -/
def fnExactExpNumberSpec : ChangeSpec := { name := "fnExactExpNumber", fn := fun _ => fun
  | [d] => { results := [.lit (.bool true)], args := [d] }
  | _ => none }
def fnExactExpNumberRow : OpenClaim := { program := "ytnjimhedcmjfbab", sum := "7a5647c761dd4306acb3e9bc7c1b7ca3bd05552b46c71312f3879f046cd56788", func := "loop.example/g01157/laws.FnExactExpNumber", spec := "fnExactExpNumber", inPlace := ["math.Float64frombits"], apart := false }
def FnExactExpNumberSaid : Prop := fnExactExpNumberRow.holds Try.pinned (OpenSpec.ofChange fnExactExpNumberSpec)

/-- ITS FALSE NEIGHBOUR: 'it returns false'. Refute it at one input. -/
def fnExactExpNumberWrong : ChangeSpec := { name := "fnExactExpNumber", fn := fun _ => fun
  | [d] => { results := [.lit (.bool false)], args := [d] }
  | _ => none }
def FnExactExpNumberWrongFalsely : Prop := fnExactExpNumberRow.holds Try.pinned (OpenSpec.ofChange fnExactExpNumberWrong)

/- THE SECOND FORM. 'bulk': how many values and letters a reading holds, each counted each time it is reached (what is shared counts as often as it is met; a slice's spare places count too). A statement '..UptoSaid' is the law's where the arguments, and the package variables that the reading takes, are together of bulk at most 1048576: NARROWER than '..Said'. Prove '..Said' where nothing that the law and all that it calls make is longer than what came in: it says more and counts as full. Else prove '..UptoSaid'. A law counts once. -/
mutual
def uptoBulk {H : Type} : DataW H → Nat
  | .lit (.string bytes) => bytes.length + 1
  | .lit _ => 1
  | .nil => 1
  | .ptr d => uptoBulk d + 1
  | .slice elems spare => uptoBulkAll elems + uptoBulkAll spare + 1
  | .agg parts => uptoBulkAll parts + 1
  | .iface _ d => uptoBulk d + 1
  | .map entries => uptoBulkEntries entries + 1
  | .held _ => 1
def uptoBulkAll {H : Type} : List (DataW H) → Nat
  | [] => 0
  | d :: r => uptoBulk d + uptoBulkAll r
def uptoBulkEntries {H : Type} : List (Lit × DataW H) → Nat
  | [] => 0
  | x :: r => uptoBulkEntry x + uptoBulkEntries r
def uptoBulkEntry {H : Type} : Lit × DataW H → Nat
  | (.string bytes, d) => bytes.length + uptoBulk d + 1
  | (_, d) => uptoBulk d + 1
 end
def uptoSmall : (H : Type) → List (DataW H) → Bool := fun _ ds => decide (uptoBulkAll ds ≤ 1048576)
def OpenSpec.upto (s : _root_.Go.ChangeSpec) : _root_.Go.OpenSpec := { _root_.Go.OpenSpec.ofChange s with cond := some uptoSmall }

/-- 'laws.FnExactNextUp', WHERE WHAT IT READS IS OF BULK AT MOST 1048576: true; the input reads as it did. -/
def fnExactNextUpUptoRow : OpenClaim := { program := "ytnjimhedcmjfbab", sum := "7a5647c761dd4306acb3e9bc7c1b7ca3bd05552b46c71312f3879f046cd56788", func := "loop.example/g01157/laws.FnExactNextUp", spec := "fnExactNextUp", inPlace := ["math.Float32bits", "math.Float32frombits"], apart := false, narrowed := true }
def FnExactNextUpUptoSaid : Prop := fnExactNextUpUptoRow.holds Try.pinned (OpenSpec.upto fnExactNextUpSpec)

/-- 'laws.FnExactNextDown', WHERE WHAT IT READS IS OF BULK AT MOST 1048576: true; the input reads as it did. -/
def fnExactNextDownUptoRow : OpenClaim := { program := "ytnjimhedcmjfbab", sum := "7a5647c761dd4306acb3e9bc7c1b7ca3bd05552b46c71312f3879f046cd56788", func := "loop.example/g01157/laws.FnExactNextDown", spec := "fnExactNextDown", inPlace := ["math.Float32bits", "math.Float32frombits"], apart := false, narrowed := true }
def FnExactNextDownUptoSaid : Prop := fnExactNextDownUptoRow.holds Try.pinned (OpenSpec.upto fnExactNextDownSpec)

/-- 'laws.FnExactSumNumbers', WHERE WHAT IT READS IS OF BULK AT MOST 1048576: true; the input reads as it did. -/
def fnExactSumNumbersUptoRow : OpenClaim := { program := "ytnjimhedcmjfbab", sum := "7a5647c761dd4306acb3e9bc7c1b7ca3bd05552b46c71312f3879f046cd56788", func := "loop.example/g01157/laws.FnExactSumNumbers", spec := "fnExactSumNumbers", apart := false, narrowed := true }
def FnExactSumNumbersUptoSaid : Prop := fnExactSumNumbersUptoRow.holds Try.pinned (OpenSpec.upto fnExactSumNumbersSpec)

/-- 'laws.FnExactSumPairs', WHERE WHAT IT READS IS OF BULK AT MOST 1048576: true; the input reads as it did. -/
def fnExactSumPairsUptoRow : OpenClaim := { program := "ytnjimhedcmjfbab", sum := "7a5647c761dd4306acb3e9bc7c1b7ca3bd05552b46c71312f3879f046cd56788", func := "loop.example/g01157/laws.FnExactSumPairs", spec := "fnExactSumPairs", recurses := true, apart := false, narrowed := true }
def FnExactSumPairsUptoSaid : Prop := fnExactSumPairsUptoRow.holds Try.pinned (OpenSpec.upto fnExactSumPairsSpec)

/-- 'laws.FnExactSumCarried', WHERE WHAT IT READS IS OF BULK AT MOST 1048576: true; the input reads as it did. -/
def fnExactSumCarriedUptoRow : OpenClaim := { program := "ytnjimhedcmjfbab", sum := "7a5647c761dd4306acb3e9bc7c1b7ca3bd05552b46c71312f3879f046cd56788", func := "loop.example/g01157/laws.FnExactSumCarried", spec := "fnExactSumCarried", apart := false, narrowed := true }
def FnExactSumCarriedUptoSaid : Prop := fnExactSumCarriedUptoRow.holds Try.pinned (OpenSpec.upto fnExactSumCarriedSpec)

/-- 'laws.FnExactDotNumbers', WHERE WHAT IT READS IS OF BULK AT MOST 1048576: true; the input reads as it did. -/
def fnExactDotNumbersUptoRow : OpenClaim := { program := "ytnjimhedcmjfbab", sum := "7a5647c761dd4306acb3e9bc7c1b7ca3bd05552b46c71312f3879f046cd56788", func := "loop.example/g01157/laws.FnExactDotNumbers", spec := "fnExactDotNumbers", apart := false, narrowed := true }
def FnExactDotNumbersUptoSaid : Prop := fnExactDotNumbersUptoRow.holds Try.pinned (OpenSpec.upto fnExactDotNumbersSpec)

/-- 'laws.FnExactDotWide', WHERE WHAT IT READS IS OF BULK AT MOST 1048576: true; the input reads as it did. -/
def fnExactDotWideUptoRow : OpenClaim := { program := "ytnjimhedcmjfbab", sum := "7a5647c761dd4306acb3e9bc7c1b7ca3bd05552b46c71312f3879f046cd56788", func := "loop.example/g01157/laws.FnExactDotWide", spec := "fnExactDotWide", apart := false, narrowed := true }
def FnExactDotWideUptoSaid : Prop := fnExactDotWideUptoRow.holds Try.pinned (OpenSpec.upto fnExactDotWideSpec)

/-- 'laws.FnExactBfloatOf', WHERE WHAT IT READS IS OF BULK AT MOST 1048576: true; the input reads as it did. -/
def fnExactBfloatOfUptoRow : OpenClaim := { program := "ytnjimhedcmjfbab", sum := "7a5647c761dd4306acb3e9bc7c1b7ca3bd05552b46c71312f3879f046cd56788", func := "loop.example/g01157/laws.FnExactBfloatOf", spec := "fnExactBfloatOf", inPlace := ["math.Float32bits", "math.Float32frombits"], apart := false, narrowed := true }
def FnExactBfloatOfUptoSaid : Prop := fnExactBfloatOfUptoRow.holds Try.pinned (OpenSpec.upto fnExactBfloatOfSpec)

/-- 'laws.FnExactBfloatBy', WHERE WHAT IT READS IS OF BULK AT MOST 1048576: true; the input reads as it did. -/
def fnExactBfloatByUptoRow : OpenClaim := { program := "ytnjimhedcmjfbab", sum := "7a5647c761dd4306acb3e9bc7c1b7ca3bd05552b46c71312f3879f046cd56788", func := "loop.example/g01157/laws.FnExactBfloatBy", spec := "fnExactBfloatBy", inPlace := ["math.Float32bits", "math.Float32frombits"], apart := false, narrowed := true }
def FnExactBfloatByUptoSaid : Prop := fnExactBfloatByUptoRow.holds Try.pinned (OpenSpec.upto fnExactBfloatBySpec)

/-- 'laws.FnExactEightOf', WHERE WHAT IT READS IS OF BULK AT MOST 1048576: true; the input reads as it did. -/
def fnExactEightOfUptoRow : OpenClaim := { program := "ytnjimhedcmjfbab", sum := "7a5647c761dd4306acb3e9bc7c1b7ca3bd05552b46c71312f3879f046cd56788", func := "loop.example/g01157/laws.FnExactEightOf", spec := "fnExactEightOf", inPlace := ["math.Float32bits", "math.Float32frombits", "math.Float64frombits", "math.Float64bits"], apart := false, narrowed := true }
def FnExactEightOfUptoSaid : Prop := fnExactEightOfUptoRow.holds Try.pinned (OpenSpec.upto fnExactEightOfSpec)

/-- 'laws.FnExactEightValue', WHERE WHAT IT READS IS OF BULK AT MOST 1048576: true; the input reads as it did. -/
def fnExactEightValueUptoRow : OpenClaim := { program := "ytnjimhedcmjfbab", sum := "7a5647c761dd4306acb3e9bc7c1b7ca3bd05552b46c71312f3879f046cd56788", func := "loop.example/g01157/laws.FnExactEightValue", spec := "fnExactEightValue", inPlace := ["math.Float32frombits", "math.Float64frombits", "math.Float64bits"], apart := false, narrowed := true }
def FnExactEightValueUptoSaid : Prop := fnExactEightValueUptoRow.holds Try.pinned (OpenSpec.upto fnExactEightValueSpec)

/-- 'laws.FnExactExpNumber', WHERE WHAT IT READS IS OF BULK AT MOST 1048576: true; the input reads as it did. -/
def fnExactExpNumberUptoRow : OpenClaim := { program := "ytnjimhedcmjfbab", sum := "7a5647c761dd4306acb3e9bc7c1b7ca3bd05552b46c71312f3879f046cd56788", func := "loop.example/g01157/laws.FnExactExpNumber", spec := "fnExactExpNumber", inPlace := ["math.Float64frombits"], apart := false, narrowed := true }
def FnExactExpNumberUptoSaid : Prop := fnExactExpNumberUptoRow.holds Try.pinned (OpenSpec.upto fnExactExpNumberSpec)

end Rows
end Go.Proofs.Ytnjimhedcmjfbab
