/-
  No cell of these rows narrows 'for every input' (looked for: loops, veiled, ifaces, maps, wideKeys, modest, calm, conditions, laid).
  DERIVED. THE GIVEN ROWS OF THIS SEAT. 10 by the template 'for every input the law returns true; each argument reads behind the call as it read before'; 0 by the template 'total and deterministic' (their statements: YtkpcjjnaocdelaaTotals.lean).
  GIVEN WITH THE SEED: the statements are not yours to turn. If you find one false, say at which input.
  Laid BY PROGRAM, IN A SANDBOX (cutbox-rows.mjs): the forced cells as the released guide's own fill.sh prints them over the translation 33ba5ef29cee5408… (all of the seat's roots in one cut). By AI agents, Wed Nov 11 2026. No macro, syntax, notation, axiom, sorry.
-/
import Derived.Test.YtkpcjjnaocdelaaChecked
import GoSem.Claim
import GoSem.ClaimJoined
import GoSem.ClaimMapViews
import Derived.JoinedTies
import Derived.KernelRfl
namespace Go.Proofs.Ytkpcjjnaocdelaa
/- THE CELL 'sum', in the pinned program and in every row, IS THE sha256 OF THE DUMP (.gsa) THAT YtkpcjjnaocdelaaProg.lean LOADS. Nothing in Lean hashes anything: it is a label: what it is worth is what the hold of that sum in a sandbox is worth. -/
noncomputable def Try.pinned : Pinned := { name := "ytkpcjjnaocdelaa", sum := "33ba5ef29cee5408895e8410efc356557408142019f88c46728f9b6076b498f1", checked := Try.checked }
namespace Rows
def none {H : Type} : Left H := { results := [], args := [] }

/-- 'laws.FnExactValidPlan': WHATEVER THE INPUT: true; the input reads as it did. -/
def fnExactValidPlanSpec : ChangeSpec := { name := "fnExactValidPlan", fn := fun _ => fun
  | [d] => { results := [.lit (.bool true)], args := [d] }
  | _ => none }
def fnExactValidPlanRow : OpenClaim := { program := "ytkpcjjnaocdelaa", sum := "33ba5ef29cee5408895e8410efc356557408142019f88c46728f9b6076b498f1", func := "loop.example/g01157/laws.FnExactValidPlan", spec := "fnExactValidPlan", unfollowed := true, recurses := true, apart := false }
def FnExactValidPlanSaid : Prop := fnExactValidPlanRow.holds Try.pinned (OpenSpec.ofChange fnExactValidPlanSpec)

/-- ITS FALSE NEIGHBOUR: 'it returns false'. Refute it at one input. -/
def fnExactValidPlanWrong : ChangeSpec := { name := "fnExactValidPlan", fn := fun _ => fun
  | [d] => { results := [.lit (.bool false)], args := [d] }
  | _ => none }
def FnExactValidPlanWrongFalsely : Prop := fnExactValidPlanRow.holds Try.pinned (OpenSpec.ofChange fnExactValidPlanWrong)

/-- 'laws.FnExactCompileModel': WHATEVER THE INPUT: true; the input reads as it did. -/
def fnExactCompileModelSpec : ChangeSpec := { name := "fnExactCompileModel", fn := fun _ => fun
  | [d] => { results := [.lit (.bool true)], args := [d] }
  | _ => none }
def fnExactCompileModelRow : OpenClaim := { program := "ytkpcjjnaocdelaa", sum := "33ba5ef29cee5408895e8410efc356557408142019f88c46728f9b6076b498f1", func := "loop.example/g01157/laws.FnExactCompileModel", spec := "fnExactCompileModel", unfollowed := true, recurses := true, apart := false }
def FnExactCompileModelSaid : Prop := fnExactCompileModelRow.holds Try.pinned (OpenSpec.ofChange fnExactCompileModelSpec)

/-- ITS FALSE NEIGHBOUR: 'it returns false'. Refute it at one input. -/
def fnExactCompileModelWrong : ChangeSpec := { name := "fnExactCompileModel", fn := fun _ => fun
  | [d] => { results := [.lit (.bool false)], args := [d] }
  | _ => none }
def FnExactCompileModelWrongFalsely : Prop := fnExactCompileModelRow.holds Try.pinned (OpenSpec.ofChange fnExactCompileModelWrong)

/-- 'laws.FnExactRunPlan': WHATEVER THE INPUT: true; the input reads as it did. -/
def fnExactRunPlanSpec : ChangeSpec := { name := "fnExactRunPlan", fn := fun _ => fun
  | [d1, d2] => { results := [.lit (.bool true)], args := [d1, d2] }
  | _ => none }
def fnExactRunPlanRow : OpenClaim := { program := "ytkpcjjnaocdelaa", sum := "33ba5ef29cee5408895e8410efc356557408142019f88c46728f9b6076b498f1", func := "loop.example/g01157/laws.FnExactRunPlan", spec := "fnExactRunPlan", inPlace := ["math.Float64frombits", "math.sqrt"], unfollowed := true, recurses := true, apart := false }
def FnExactRunPlanSaid : Prop := fnExactRunPlanRow.holds Try.pinned (OpenSpec.ofChange fnExactRunPlanSpec)

/-- ITS FALSE NEIGHBOUR: 'it returns false'. Refute it at one input. -/
def fnExactRunPlanWrong : ChangeSpec := { name := "fnExactRunPlan", fn := fun _ => fun
  | [d1, d2] => { results := [.lit (.bool false)], args := [d1, d2] }
  | _ => none }
def FnExactRunPlanWrongFalsely : Prop := fnExactRunPlanRow.holds Try.pinned (OpenSpec.ofChange fnExactRunPlanWrong)

/-- 'laws.FnExactPlanProducts': WHATEVER THE INPUT: true; the input reads as it did. -/
def fnExactPlanProductsSpec : ChangeSpec := { name := "fnExactPlanProducts", fn := fun _ => fun
  | [d] => { results := [.lit (.bool true)], args := [d] }
  | _ => none }
def fnExactPlanProductsRow : OpenClaim := { program := "ytkpcjjnaocdelaa", sum := "33ba5ef29cee5408895e8410efc356557408142019f88c46728f9b6076b498f1", func := "loop.example/g01157/laws.FnExactPlanProducts", spec := "fnExactPlanProducts", unfollowed := true, recurses := true, apart := false }
def FnExactPlanProductsSaid : Prop := fnExactPlanProductsRow.holds Try.pinned (OpenSpec.ofChange fnExactPlanProductsSpec)

/-- ITS FALSE NEIGHBOUR: 'it returns false'. Refute it at one input. -/
def fnExactPlanProductsWrong : ChangeSpec := { name := "fnExactPlanProducts", fn := fun _ => fun
  | [d] => { results := [.lit (.bool false)], args := [d] }
  | _ => none }
def FnExactPlanProductsWrongFalsely : Prop := fnExactPlanProductsRow.holds Try.pinned (OpenSpec.ofChange fnExactPlanProductsWrong)

/-- 'laws.FnExactPlanRoom': WHATEVER THE INPUT: true; the input reads as it did. -/
def fnExactPlanRoomSpec : ChangeSpec := { name := "fnExactPlanRoom", fn := fun _ => fun
  | [d] => { results := [.lit (.bool true)], args := [d] }
  | _ => none }
def fnExactPlanRoomRow : OpenClaim := { program := "ytkpcjjnaocdelaa", sum := "33ba5ef29cee5408895e8410efc356557408142019f88c46728f9b6076b498f1", func := "loop.example/g01157/laws.FnExactPlanRoom", spec := "fnExactPlanRoom", unfollowed := true, recurses := true, apart := false }
def FnExactPlanRoomSaid : Prop := fnExactPlanRoomRow.holds Try.pinned (OpenSpec.ofChange fnExactPlanRoomSpec)

/-- ITS FALSE NEIGHBOUR: 'it returns false'. Refute it at one input. -/
def fnExactPlanRoomWrong : ChangeSpec := { name := "fnExactPlanRoom", fn := fun _ => fun
  | [d] => { results := [.lit (.bool false)], args := [d] }
  | _ => none }
def FnExactPlanRoomWrongFalsely : Prop := fnExactPlanRoomRow.holds Try.pinned (OpenSpec.ofChange fnExactPlanRoomWrong)

/-- 'laws.FnExactFuseLinear': WHATEVER THE INPUT: true; the input reads as it did. -/
def fnExactFuseLinearSpec : ChangeSpec := { name := "fnExactFuseLinear", fn := fun _ => fun
  | [d1, d2] => { results := [.lit (.bool true)], args := [d1, d2] }
  | _ => none }
def fnExactFuseLinearRow : OpenClaim := { program := "ytkpcjjnaocdelaa", sum := "33ba5ef29cee5408895e8410efc356557408142019f88c46728f9b6076b498f1", func := "loop.example/g01157/laws.FnExactFuseLinear", spec := "fnExactFuseLinear", unfollowed := true, recurses := true, apart := false }
def FnExactFuseLinearSaid : Prop := fnExactFuseLinearRow.holds Try.pinned (OpenSpec.ofChange fnExactFuseLinearSpec)

/-- ITS FALSE NEIGHBOUR: 'it returns false'. Refute it at one input. -/
def fnExactFuseLinearWrong : ChangeSpec := { name := "fnExactFuseLinear", fn := fun _ => fun
  | [d1, d2] => { results := [.lit (.bool false)], args := [d1, d2] }
  | _ => none }
def FnExactFuseLinearWrongFalsely : Prop := fnExactFuseLinearRow.holds Try.pinned (OpenSpec.ofChange fnExactFuseLinearWrong)

/-- 'laws.FnExactIsWhole': WHATEVER THE INPUT: true; the input reads as it did. -/
def fnExactIsWholeSpec : ChangeSpec := { name := "fnExactIsWhole", fn := fun _ => fun
  | [d1, d2] => { results := [.lit (.bool true)], args := [d1, d2] }
  | _ => none }
def fnExactIsWholeRow : OpenClaim := { program := "ytkpcjjnaocdelaa", sum := "33ba5ef29cee5408895e8410efc356557408142019f88c46728f9b6076b498f1", func := "loop.example/g01157/laws.FnExactIsWhole", spec := "fnExactIsWhole", inPlace := ["math.archTrunc", "math.Float64bits", "math.Float64frombits"], unfollowed := true, recurses := true, apart := false }
def FnExactIsWholeSaid : Prop := fnExactIsWholeRow.holds Try.pinned (OpenSpec.ofChange fnExactIsWholeSpec)

/-- ITS FALSE NEIGHBOUR: 'it returns false'. Refute it at one input. -/
def fnExactIsWholeWrong : ChangeSpec := { name := "fnExactIsWhole", fn := fun _ => fun
  | [d1, d2] => { results := [.lit (.bool false)], args := [d1, d2] }
  | _ => none }
def FnExactIsWholeWrongFalsely : Prop := fnExactIsWholeRow.holds Try.pinned (OpenSpec.ofChange fnExactIsWholeWrong)

/-- 'laws.FnExactSplitModel': WHATEVER THE INPUT: true; the input reads as it did. -/
def fnExactSplitModelSpec : ChangeSpec := { name := "fnExactSplitModel", fn := fun _ => fun
  | [d1, d2] => { results := [.lit (.bool true)], args := [d1, d2] }
  | _ => none }
def fnExactSplitModelRow : OpenClaim := { program := "ytkpcjjnaocdelaa", sum := "33ba5ef29cee5408895e8410efc356557408142019f88c46728f9b6076b498f1", func := "loop.example/g01157/laws.FnExactSplitModel", spec := "fnExactSplitModel", unfollowed := true, recurses := true, apart := false }
def FnExactSplitModelSaid : Prop := fnExactSplitModelRow.holds Try.pinned (OpenSpec.ofChange fnExactSplitModelSpec)

/-- ITS FALSE NEIGHBOUR: 'it returns false'. Refute it at one input. -/
def fnExactSplitModelWrong : ChangeSpec := { name := "fnExactSplitModel", fn := fun _ => fun
  | [d1, d2] => { results := [.lit (.bool false)], args := [d1, d2] }
  | _ => none }
def FnExactSplitModelWrongFalsely : Prop := fnExactSplitModelRow.holds Try.pinned (OpenSpec.ofChange fnExactSplitModelWrong)

/-- 'laws.FnExactJoinModels': WHATEVER THE INPUT: true; the input reads as it did. -/
def fnExactJoinModelsSpec : ChangeSpec := { name := "fnExactJoinModels", fn := fun _ => fun
  | [d1, d2] => { results := [.lit (.bool true)], args := [d1, d2] }
  | _ => none }
def fnExactJoinModelsRow : OpenClaim := { program := "ytkpcjjnaocdelaa", sum := "33ba5ef29cee5408895e8410efc356557408142019f88c46728f9b6076b498f1", func := "loop.example/g01157/laws.FnExactJoinModels", spec := "fnExactJoinModels", unfollowed := true, recurses := true, apart := false }
def FnExactJoinModelsSaid : Prop := fnExactJoinModelsRow.holds Try.pinned (OpenSpec.ofChange fnExactJoinModelsSpec)

/-- ITS FALSE NEIGHBOUR: 'it returns false'. Refute it at one input. -/
def fnExactJoinModelsWrong : ChangeSpec := { name := "fnExactJoinModels", fn := fun _ => fun
  | [d1, d2] => { results := [.lit (.bool false)], args := [d1, d2] }
  | _ => none }
def FnExactJoinModelsWrongFalsely : Prop := fnExactJoinModelsRow.holds Try.pinned (OpenSpec.ofChange fnExactJoinModelsWrong)

/-- 'laws.FnExactRunLayer': WHATEVER THE INPUT: true; the input reads as it did. -/
def fnExactRunLayerSpec : ChangeSpec := { name := "fnExactRunLayer", fn := fun _ => fun
  | [d1, d2] => { results := [.lit (.bool true)], args := [d1, d2] }
  | _ => none }
def fnExactRunLayerRow : OpenClaim := { program := "ytkpcjjnaocdelaa", sum := "33ba5ef29cee5408895e8410efc356557408142019f88c46728f9b6076b498f1", func := "loop.example/g01157/laws.FnExactRunLayer", spec := "fnExactRunLayer", inPlace := ["math.Float64frombits", "math.sqrt"], unfollowed := true, recurses := true, apart := false }
def FnExactRunLayerSaid : Prop := fnExactRunLayerRow.holds Try.pinned (OpenSpec.ofChange fnExactRunLayerSpec)

/-- ITS FALSE NEIGHBOUR: 'it returns false'. Refute it at one input. -/
def fnExactRunLayerWrong : ChangeSpec := { name := "fnExactRunLayer", fn := fun _ => fun
  | [d1, d2] => { results := [.lit (.bool false)], args := [d1, d2] }
  | _ => none }
def FnExactRunLayerWrongFalsely : Prop := fnExactRunLayerRow.holds Try.pinned (OpenSpec.ofChange fnExactRunLayerWrong)

/- THE SECOND FORM. 'bulk': how many values and letters a reading holds, each counted each time it is reached (what is shared counts as often as it is met; a slice's spare places count too). A statement '..UptoSaid' is the law's where the arguments, and the package variables that the reading takes, are together of bulk at most 1048576: NARROWER than '..Said'. Prove '..Said' where nothing that the law and all that it calls make is longer than what came in: it says more and counts as full. Else prove '..UptoSaid'. A law counts once. -/
mutual
def uptoBulk {H : Type} : DataW H → Nat
  | .lit (.string bytes) => bytes.length + 1
  | .lit _ => 1
  | .nil => 1
  | .ptr d => uptoBulk d + 1
  | .slice elems spare => uptoBulkAll elems + uptoBulkAll spare + 1
  | .agg parts => uptoBulkAll parts + 1
  | .iface _ d => uptoBulk d + 1
  | .map entries => uptoBulkEntries entries + 1
  | .held _ => 1
def uptoBulkAll {H : Type} : List (DataW H) → Nat
  | [] => 0
  | d :: r => uptoBulk d + uptoBulkAll r
def uptoBulkEntries {H : Type} : List (Lit × DataW H) → Nat
  | [] => 0
  | x :: r => uptoBulkEntry x + uptoBulkEntries r
def uptoBulkEntry {H : Type} : Lit × DataW H → Nat
  | (.string bytes, d) => bytes.length + uptoBulk d + 1
  | (_, d) => uptoBulk d + 1
 end
def uptoSmall : (H : Type) → List (DataW H) → Bool := fun _ ds => decide (uptoBulkAll ds ≤ 1048576)
def OpenSpec.upto (s : _root_.Go.ChangeSpec) : _root_.Go.OpenSpec := { _root_.Go.OpenSpec.ofChange s with cond := some uptoSmall }

/-- 'laws.FnExactValidPlan', WHERE WHAT IT READS IS OF BULK AT MOST 1048576: true; the input reads as it did. -/
def fnExactValidPlanUptoRow : OpenClaim := { program := "ytkpcjjnaocdelaa", sum := "33ba5ef29cee5408895e8410efc356557408142019f88c46728f9b6076b498f1", func := "loop.example/g01157/laws.FnExactValidPlan", spec := "fnExactValidPlan", unfollowed := true, recurses := true, apart := false, narrowed := true }
def FnExactValidPlanUptoSaid : Prop := fnExactValidPlanUptoRow.holds Try.pinned (OpenSpec.upto fnExactValidPlanSpec)

/-- 'laws.FnExactCompileModel', WHERE WHAT IT READS IS OF BULK AT MOST 1048576: true; the input reads as it did. -/
def fnExactCompileModelUptoRow : OpenClaim := { program := "ytkpcjjnaocdelaa", sum := "33ba5ef29cee5408895e8410efc356557408142019f88c46728f9b6076b498f1", func := "loop.example/g01157/laws.FnExactCompileModel", spec := "fnExactCompileModel", unfollowed := true, recurses := true, apart := false, narrowed := true }
def FnExactCompileModelUptoSaid : Prop := fnExactCompileModelUptoRow.holds Try.pinned (OpenSpec.upto fnExactCompileModelSpec)

/-- 'laws.FnExactRunPlan', WHERE WHAT IT READS IS OF BULK AT MOST 1048576: true; the input reads as it did. -/
def fnExactRunPlanUptoRow : OpenClaim := { program := "ytkpcjjnaocdelaa", sum := "33ba5ef29cee5408895e8410efc356557408142019f88c46728f9b6076b498f1", func := "loop.example/g01157/laws.FnExactRunPlan", spec := "fnExactRunPlan", inPlace := ["math.Float64frombits", "math.sqrt"], unfollowed := true, recurses := true, apart := false, narrowed := true }
def FnExactRunPlanUptoSaid : Prop := fnExactRunPlanUptoRow.holds Try.pinned (OpenSpec.upto fnExactRunPlanSpec)

/-- 'laws.FnExactPlanProducts', WHERE WHAT IT READS IS OF BULK AT MOST 1048576: true; the input reads as it did. -/
def fnExactPlanProductsUptoRow : OpenClaim := { program := "ytkpcjjnaocdelaa", sum := "33ba5ef29cee5408895e8410efc356557408142019f88c46728f9b6076b498f1", func := "loop.example/g01157/laws.FnExactPlanProducts", spec := "fnExactPlanProducts", unfollowed := true, recurses := true, apart := false, narrowed := true }
def FnExactPlanProductsUptoSaid : Prop := fnExactPlanProductsUptoRow.holds Try.pinned (OpenSpec.upto fnExactPlanProductsSpec)

/-- 'laws.FnExactPlanRoom', WHERE WHAT IT READS IS OF BULK AT MOST 1048576: true; the input reads as it did. -/
def fnExactPlanRoomUptoRow : OpenClaim := { program := "ytkpcjjnaocdelaa", sum := "33ba5ef29cee5408895e8410efc356557408142019f88c46728f9b6076b498f1", func := "loop.example/g01157/laws.FnExactPlanRoom", spec := "fnExactPlanRoom", unfollowed := true, recurses := true, apart := false, narrowed := true }
def FnExactPlanRoomUptoSaid : Prop := fnExactPlanRoomUptoRow.holds Try.pinned (OpenSpec.upto fnExactPlanRoomSpec)

/-- 'laws.FnExactFuseLinear', WHERE WHAT IT READS IS OF BULK AT MOST 1048576: true; the input reads as it did. -/
def fnExactFuseLinearUptoRow : OpenClaim := { program := "ytkpcjjnaocdelaa", sum := "33ba5ef29cee5408895e8410efc356557408142019f88c46728f9b6076b498f1", func := "loop.example/g01157/laws.FnExactFuseLinear", spec := "fnExactFuseLinear", unfollowed := true, recurses := true, apart := false, narrowed := true }
def FnExactFuseLinearUptoSaid : Prop := fnExactFuseLinearUptoRow.holds Try.pinned (OpenSpec.upto fnExactFuseLinearSpec)

/-- 'laws.FnExactIsWhole', WHERE WHAT IT READS IS OF BULK AT MOST 1048576: true; the input reads as it did. -/
def fnExactIsWholeUptoRow : OpenClaim := { program := "ytkpcjjnaocdelaa", sum := "33ba5ef29cee5408895e8410efc356557408142019f88c46728f9b6076b498f1", func := "loop.example/g01157/laws.FnExactIsWhole", spec := "fnExactIsWhole", inPlace := ["math.archTrunc", "math.Float64bits", "math.Float64frombits"], unfollowed := true, recurses := true, apart := false, narrowed := true }
def FnExactIsWholeUptoSaid : Prop := fnExactIsWholeUptoRow.holds Try.pinned (OpenSpec.upto fnExactIsWholeSpec)

/-- 'laws.FnExactSplitModel', WHERE WHAT IT READS IS OF BULK AT MOST 1048576: true; the input reads as it did. -/
def fnExactSplitModelUptoRow : OpenClaim := { program := "ytkpcjjnaocdelaa", sum := "33ba5ef29cee5408895e8410efc356557408142019f88c46728f9b6076b498f1", func := "loop.example/g01157/laws.FnExactSplitModel", spec := "fnExactSplitModel", unfollowed := true, recurses := true, apart := false, narrowed := true }
def FnExactSplitModelUptoSaid : Prop := fnExactSplitModelUptoRow.holds Try.pinned (OpenSpec.upto fnExactSplitModelSpec)

/-- 'laws.FnExactJoinModels', WHERE WHAT IT READS IS OF BULK AT MOST 1048576: true; the input reads as it did. -/
def fnExactJoinModelsUptoRow : OpenClaim := { program := "ytkpcjjnaocdelaa", sum := "33ba5ef29cee5408895e8410efc356557408142019f88c46728f9b6076b498f1", func := "loop.example/g01157/laws.FnExactJoinModels", spec := "fnExactJoinModels", unfollowed := true, recurses := true, apart := false, narrowed := true }
def FnExactJoinModelsUptoSaid : Prop := fnExactJoinModelsUptoRow.holds Try.pinned (OpenSpec.upto fnExactJoinModelsSpec)

/-- 'laws.FnExactRunLayer', WHERE WHAT IT READS IS OF BULK AT MOST 1048576: true; the input reads as it did. -/
def fnExactRunLayerUptoRow : OpenClaim := { program := "ytkpcjjnaocdelaa", sum := "33ba5ef29cee5408895e8410efc356557408142019f88c46728f9b6076b498f1", func := "loop.example/g01157/laws.FnExactRunLayer", spec := "fnExactRunLayer", inPlace := ["math.Float64frombits", "math.sqrt"], unfollowed := true, recurses := true, apart := false, narrowed := true }
def FnExactRunLayerUptoSaid : Prop := fnExactRunLayerUptoRow.holds Try.pinned (OpenSpec.upto fnExactRunLayerSpec)

end Rows
end Go.Proofs.Ytkpcjjnaocdelaa
