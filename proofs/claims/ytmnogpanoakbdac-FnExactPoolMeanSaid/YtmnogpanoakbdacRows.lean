/-
  No cell of these rows narrows 'for every input' (looked for: loops, veiled, ifaces, maps, wideKeys, modest, calm, conditions, laid).
  DERIVED. THE GIVEN ROWS OF THIS SEAT. 12 by the template 'for every input the law returns true; each argument reads behind the call as it read before'; 0 by the template 'total and deterministic' (their statements: YtmnogpanoakbdacTotals.lean).
  GIVEN WITH THE SEED: the statements are not yours to turn. If you find one false, say at which input.
  Laid BY PROGRAM, IN A SANDBOX (cutbox-rows.mjs): the forced cells as the released guide's own fill.sh prints them over the translation c1a204e02784eca0… (all of the seat's roots in one cut). By AI agents, Wed Nov 11 2026. No macro, syntax, notation, axiom, sorry.
-/
import Derived.Test.YtmnogpanoakbdacChecked
import GoSem.Claim
import GoSem.ClaimJoined
import GoSem.ClaimMapViews
import Derived.JoinedTies
import Derived.KernelRfl
namespace Go.Proofs.Ytmnogpanoakbdac
/- THE CELL 'sum', in the pinned program and in every row, IS THE sha256 OF THE DUMP (.gsa) THAT YtmnogpanoakbdacProg.lean LOADS. Nothing in Lean hashes anything: it is a label: what it is worth is what the hold of that sum in a sandbox is worth. -/
noncomputable def Try.pinned : Pinned := { name := "ytmnogpanoakbdac", sum := "c1a204e02784eca079600f37e98238127ca345933ddd65f1eb359fb810f1900a", checked := Try.checked }
namespace Rows
def none {H : Type} : Left H := { results := [], args := [] }

/-- 'laws.FnExactPoolMean': WHATEVER THE INPUT: true; the input reads as it did. -/
def fnExactPoolMeanSpec : ChangeSpec := { name := "fnExactPoolMean", fn := fun _ => fun
  | [d1, d2] => { results := [.lit (.bool true)], args := [d1, d2] }
  | _ => none }
def fnExactPoolMeanRow : OpenClaim := { program := "ytmnogpanoakbdac", sum := "c1a204e02784eca079600f37e98238127ca345933ddd65f1eb359fb810f1900a", func := "loop.example/g01157/laws.FnExactPoolMean", spec := "fnExactPoolMean", unfollowed := true, recurses := true, apart := false }
def FnExactPoolMeanSaid : Prop := fnExactPoolMeanRow.holds Try.pinned (OpenSpec.ofChange fnExactPoolMeanSpec)

/-- ITS FALSE NEIGHBOUR: 'it returns false'. Refute it at one input. -/
def fnExactPoolMeanWrong : ChangeSpec := { name := "fnExactPoolMean", fn := fun _ => fun
  | [d1, d2] => { results := [.lit (.bool false)], args := [d1, d2] }
  | _ => none }
def FnExactPoolMeanWrongFalsely : Prop := fnExactPoolMeanRow.holds Try.pinned (OpenSpec.ofChange fnExactPoolMeanWrong)

/-- 'laws.FnExactAttendRows': WHATEVER THE INPUT: true; the input reads as it did. -/
def fnExactAttendRowsSpec : ChangeSpec := { name := "fnExactAttendRows", fn := fun _ => fun
  | [d1, d2, d3, d4] => { results := [.lit (.bool true)], args := [d1, d2, d3, d4] }
  | _ => none }
def fnExactAttendRowsRow : OpenClaim := { program := "ytmnogpanoakbdac", sum := "c1a204e02784eca079600f37e98238127ca345933ddd65f1eb359fb810f1900a", func := "loop.example/g01157/laws.FnExactAttendRows", spec := "fnExactAttendRows", inPlace := ["math.sqrt", "math.Float64frombits"], unfollowed := true, recurses := true, apart := false }
def FnExactAttendRowsSaid : Prop := fnExactAttendRowsRow.holds Try.pinned (OpenSpec.ofChange fnExactAttendRowsSpec)

/-- ITS FALSE NEIGHBOUR: 'it returns false'. Refute it at one input. -/
def fnExactAttendRowsWrong : ChangeSpec := { name := "fnExactAttendRows", fn := fun _ => fun
  | [d1, d2, d3, d4] => { results := [.lit (.bool false)], args := [d1, d2, d3, d4] }
  | _ => none }
def FnExactAttendRowsWrongFalsely : Prop := fnExactAttendRowsRow.holds Try.pinned (OpenSpec.ofChange fnExactAttendRowsWrong)

/-- 'laws.FnRowsAlone': WHATEVER THE INPUT: true; the input reads as it did. -/
def fnRowsAloneSpec : ChangeSpec := { name := "fnRowsAlone", fn := fun _ => fun
  | [d1, d2] => { results := [.lit (.bool true)], args := [d1, d2] }
  | _ => none }
def fnRowsAloneRow : OpenClaim := { program := "ytmnogpanoakbdac", sum := "c1a204e02784eca079600f37e98238127ca345933ddd65f1eb359fb810f1900a", func := "loop.example/g01157/laws.FnRowsAlone", spec := "fnRowsAlone", inPlace := ["math.Float32frombits", "math.Float32bits"], unfollowed := true, recurses := true, apart := false }
def FnRowsAloneSaid : Prop := fnRowsAloneRow.holds Try.pinned (OpenSpec.ofChange fnRowsAloneSpec)

/-- ITS FALSE NEIGHBOUR: 'it returns false'. Refute it at one input. -/
def fnRowsAloneWrong : ChangeSpec := { name := "fnRowsAlone", fn := fun _ => fun
  | [d1, d2] => { results := [.lit (.bool false)], args := [d1, d2] }
  | _ => none }
def FnRowsAloneWrongFalsely : Prop := fnRowsAloneRow.holds Try.pinned (OpenSpec.ofChange fnRowsAloneWrong)

/-- 'laws.FnShares': WHATEVER THE INPUT: true; the input reads as it did. -/
def fnSharesSpec : ChangeSpec := { name := "fnShares", fn := fun _ => fun
  | [d1, d2] => { results := [.lit (.bool true)], args := [d1, d2] }
  | _ => none }
def fnSharesRow : OpenClaim := { program := "ytmnogpanoakbdac", sum := "c1a204e02784eca079600f37e98238127ca345933ddd65f1eb359fb810f1900a", func := "loop.example/g01157/laws.FnShares", spec := "fnShares", unfollowed := true, recurses := true, apart := false }
def FnSharesSaid : Prop := fnSharesRow.holds Try.pinned (OpenSpec.ofChange fnSharesSpec)

/-- ITS FALSE NEIGHBOUR: 'it returns false'. Refute it at one input. -/
def fnSharesWrong : ChangeSpec := { name := "fnShares", fn := fun _ => fun
  | [d1, d2] => { results := [.lit (.bool false)], args := [d1, d2] }
  | _ => none }
def FnSharesWrongFalsely : Prop := fnSharesRow.holds Try.pinned (OpenSpec.ofChange fnSharesWrong)

/-- 'laws.FnForms': WHATEVER THE INPUT: true; the input reads as it did. -/
def fnFormsSpec : ChangeSpec := { name := "fnForms", fn := fun _ => fun
  | [d1, d2] => { results := [.lit (.bool true)], args := [d1, d2] }
  | _ => none }
def fnFormsRow : OpenClaim := { program := "ytmnogpanoakbdac", sum := "c1a204e02784eca079600f37e98238127ca345933ddd65f1eb359fb810f1900a", func := "loop.example/g01157/laws.FnForms", spec := "fnForms", inPlace := ["math.Float32frombits", "math.Float32bits", "math.sqrt", "math.Float64frombits"], unfollowed := true, recurses := true, apart := false }
def FnFormsSaid : Prop := fnFormsRow.holds Try.pinned (OpenSpec.ofChange fnFormsSpec)

/-- ITS FALSE NEIGHBOUR: 'it returns false'. Refute it at one input. -/
def fnFormsWrong : ChangeSpec := { name := "fnForms", fn := fun _ => fun
  | [d1, d2] => { results := [.lit (.bool false)], args := [d1, d2] }
  | _ => none }
def FnFormsWrongFalsely : Prop := fnFormsRow.holds Try.pinned (OpenSpec.ofChange fnFormsWrong)

/-- 'laws.FnProducts': WHATEVER THE INPUT: true; the input reads as it did. -/
def fnProductsSpec : ChangeSpec := { name := "fnProducts", fn := fun _ => fun
  | [d1, d2] => { results := [.lit (.bool true)], args := [d1, d2] }
  | _ => none }
def fnProductsRow : OpenClaim := { program := "ytmnogpanoakbdac", sum := "c1a204e02784eca079600f37e98238127ca345933ddd65f1eb359fb810f1900a", func := "loop.example/g01157/laws.FnProducts", spec := "fnProducts", inPlace := ["math.Float32frombits", "math.Float32bits"], unfollowed := true, recurses := true, apart := false }
def FnProductsSaid : Prop := fnProductsRow.holds Try.pinned (OpenSpec.ofChange fnProductsSpec)

/-- ITS FALSE NEIGHBOUR: 'it returns false'. Refute it at one input. -/
def fnProductsWrong : ChangeSpec := { name := "fnProducts", fn := fun _ => fun
  | [d1, d2] => { results := [.lit (.bool false)], args := [d1, d2] }
  | _ => none }
def FnProductsWrongFalsely : Prop := fnProductsRow.holds Try.pinned (OpenSpec.ofChange fnProductsWrong)

/-- 'laws.FnExactProducts': WHATEVER THE INPUT: true; the input reads as it did. -/
def fnExactProductsSpec : ChangeSpec := { name := "fnExactProducts", fn := fun _ => fun
  | [d1, d2] => { results := [.lit (.bool true)], args := [d1, d2] }
  | _ => none }
def fnExactProductsRow : OpenClaim := { program := "ytmnogpanoakbdac", sum := "c1a204e02784eca079600f37e98238127ca345933ddd65f1eb359fb810f1900a", func := "loop.example/g01157/laws.FnExactProducts", spec := "fnExactProducts", inPlace := ["math.Float32bits", "math.Float64bits", "math.Float64frombits"], unfollowed := true, recurses := true, apart := false }
def FnExactProductsSaid : Prop := fnExactProductsRow.holds Try.pinned (OpenSpec.ofChange fnExactProductsSpec)

/-- ITS FALSE NEIGHBOUR: 'it returns false'. Refute it at one input. -/
def fnExactProductsWrong : ChangeSpec := { name := "fnExactProducts", fn := fun _ => fun
  | [d1, d2] => { results := [.lit (.bool false)], args := [d1, d2] }
  | _ => none }
def FnExactProductsWrongFalsely : Prop := fnExactProductsRow.holds Try.pinned (OpenSpec.ofChange fnExactProductsWrong)

/-- 'laws.FnParts': WHATEVER THE INPUT: true; the input reads as it did. -/
def fnPartsSpec : ChangeSpec := { name := "fnParts", fn := fun _ => fun
  | [d1, d2] => { results := [.lit (.bool true)], args := [d1, d2] }
  | _ => none }
def fnPartsRow : OpenClaim := { program := "ytmnogpanoakbdac", sum := "c1a204e02784eca079600f37e98238127ca345933ddd65f1eb359fb810f1900a", func := "loop.example/g01157/laws.FnParts", spec := "fnParts", inPlace := ["math.Float32frombits", "math.Float32bits"], unfollowed := true, recurses := true, apart := false }
def FnPartsSaid : Prop := fnPartsRow.holds Try.pinned (OpenSpec.ofChange fnPartsSpec)

/-- ITS FALSE NEIGHBOUR: 'it returns false'. Refute it at one input. -/
def fnPartsWrong : ChangeSpec := { name := "fnParts", fn := fun _ => fun
  | [d1, d2] => { results := [.lit (.bool false)], args := [d1, d2] }
  | _ => none }
def FnPartsWrongFalsely : Prop := fnPartsRow.holds Try.pinned (OpenSpec.ofChange fnPartsWrong)

/-- 'laws.FnNarrowed': WHATEVER THE INPUT: true; the input reads as it did. -/
def fnNarrowedSpec : ChangeSpec := { name := "fnNarrowed", fn := fun _ => fun
  | [d1, d2] => { results := [.lit (.bool true)], args := [d1, d2] }
  | _ => none }
def fnNarrowedRow : OpenClaim := { program := "ytmnogpanoakbdac", sum := "c1a204e02784eca079600f37e98238127ca345933ddd65f1eb359fb810f1900a", func := "loop.example/g01157/laws.FnNarrowed", spec := "fnNarrowed", inPlace := ["math.Float32frombits", "math.Float32bits", "math.Float64bits"], apart := false }
def FnNarrowedSaid : Prop := fnNarrowedRow.holds Try.pinned (OpenSpec.ofChange fnNarrowedSpec)

/-- ITS FALSE NEIGHBOUR: 'it returns false'. Refute it at one input. -/
def fnNarrowedWrong : ChangeSpec := { name := "fnNarrowed", fn := fun _ => fun
  | [d1, d2] => { results := [.lit (.bool false)], args := [d1, d2] }
  | _ => none }
def FnNarrowedWrongFalsely : Prop := fnNarrowedRow.holds Try.pinned (OpenSpec.ofChange fnNarrowedWrong)

/-- 'laws.FnSums': WHATEVER THE INPUT: true; the input reads as it did. -/
def fnSumsSpec : ChangeSpec := { name := "fnSums", fn := fun _ => fun
  | [d1, d2] => { results := [.lit (.bool true)], args := [d1, d2] }
  | _ => none }
def fnSumsRow : OpenClaim := { program := "ytmnogpanoakbdac", sum := "c1a204e02784eca079600f37e98238127ca345933ddd65f1eb359fb810f1900a", func := "loop.example/g01157/laws.FnSums", spec := "fnSums", inPlace := ["math.Float32frombits", "math.Float32bits"], recurses := true, apart := false }
def FnSumsSaid : Prop := fnSumsRow.holds Try.pinned (OpenSpec.ofChange fnSumsSpec)

/-- ITS FALSE NEIGHBOUR: 'it returns false'. Refute it at one input. -/
def fnSumsWrong : ChangeSpec := { name := "fnSums", fn := fun _ => fun
  | [d1, d2] => { results := [.lit (.bool false)], args := [d1, d2] }
  | _ => none }
def FnSumsWrongFalsely : Prop := fnSumsRow.holds Try.pinned (OpenSpec.ofChange fnSumsWrong)

/-- 'laws.FnExactEightOf': WHATEVER THE INPUT: true; the input reads as it did. -/
def fnExactEightOfSpec : ChangeSpec := { name := "fnExactEightOf", fn := fun _ => fun
  | [d1, d2] => { results := [.lit (.bool true)], args := [d1, d2] }
  | _ => none }
def fnExactEightOfRow : OpenClaim := { program := "ytmnogpanoakbdac", sum := "c1a204e02784eca079600f37e98238127ca345933ddd65f1eb359fb810f1900a", func := "loop.example/g01157/laws.FnExactEightOf", spec := "fnExactEightOf", inPlace := ["math.Float32bits", "math.Float32frombits", "math.Float64frombits", "math.Float64bits"], apart := false }
def FnExactEightOfSaid : Prop := fnExactEightOfRow.holds Try.pinned (OpenSpec.ofChange fnExactEightOfSpec)

/-- ITS FALSE NEIGHBOUR: 'it returns false'. Refute it at one input. -/
def fnExactEightOfWrong : ChangeSpec := { name := "fnExactEightOf", fn := fun _ => fun
  | [d1, d2] => { results := [.lit (.bool false)], args := [d1, d2] }
  | _ => none }
def FnExactEightOfWrongFalsely : Prop := fnExactEightOfRow.holds Try.pinned (OpenSpec.ofChange fnExactEightOfWrong)

/-- 'laws.FnExactEightValue': WHATEVER THE INPUT: true; the input reads as it did. -/
def fnExactEightValueSpec : ChangeSpec := { name := "fnExactEightValue", fn := fun _ => fun
  | [d1, d2] => { results := [.lit (.bool true)], args := [d1, d2] }
  | _ => none }
def fnExactEightValueRow : OpenClaim := { program := "ytmnogpanoakbdac", sum := "c1a204e02784eca079600f37e98238127ca345933ddd65f1eb359fb810f1900a", func := "loop.example/g01157/laws.FnExactEightValue", spec := "fnExactEightValue", inPlace := ["math.Float32frombits", "math.Float64frombits", "math.Float64bits"], apart := false }
def FnExactEightValueSaid : Prop := fnExactEightValueRow.holds Try.pinned (OpenSpec.ofChange fnExactEightValueSpec)

/-- ITS FALSE NEIGHBOUR: 'it returns false'. Refute it at one input. -/
def fnExactEightValueWrong : ChangeSpec := { name := "fnExactEightValue", fn := fun _ => fun
  | [d1, d2] => { results := [.lit (.bool false)], args := [d1, d2] }
  | _ => none }
def FnExactEightValueWrongFalsely : Prop := fnExactEightValueRow.holds Try.pinned (OpenSpec.ofChange fnExactEightValueWrong)

/- THE SECOND FORM. 'bulk': how many values and letters a reading holds, each counted each time it is reached (what is shared counts as often as it is met; a slice's spare places count too). A statement '..UptoSaid' is the law's where the arguments, and the package variables that the reading takes, are together of bulk at most 1048576: NARROWER than '..Said'. Prove '..Said' where nothing that the law and all that it calls make is longer than what came in: it says more and counts as full. Else prove '..UptoSaid'. A law counts once. -/
mutual
def uptoBulk {H : Type} : DataW H → Nat
  | .lit (.string bytes) => bytes.length + 1
  | .lit _ => 1
  | .nil => 1
  | .ptr d => uptoBulk d + 1
  | .slice elems spare => uptoBulkAll elems + uptoBulkAll spare + 1
  | .agg parts => uptoBulkAll parts + 1
  | .iface _ d => uptoBulk d + 1
  | .map entries => uptoBulkEntries entries + 1
  | .held _ => 1
def uptoBulkAll {H : Type} : List (DataW H) → Nat
  | [] => 0
  | d :: r => uptoBulk d + uptoBulkAll r
def uptoBulkEntries {H : Type} : List (Lit × DataW H) → Nat
  | [] => 0
  | x :: r => uptoBulkEntry x + uptoBulkEntries r
def uptoBulkEntry {H : Type} : Lit × DataW H → Nat
  | (.string bytes, d) => bytes.length + uptoBulk d + 1
  | (_, d) => uptoBulk d + 1
 end
def uptoSmall : (H : Type) → List (DataW H) → Bool := fun _ ds => decide (uptoBulkAll ds ≤ 1048576)
def OpenSpec.upto (s : _root_.Go.ChangeSpec) : _root_.Go.OpenSpec := { _root_.Go.OpenSpec.ofChange s with cond := some uptoSmall }

/-- 'laws.FnExactPoolMean', WHERE WHAT IT READS IS OF BULK AT MOST 1048576: true; the input reads as it did. -/
def fnExactPoolMeanUptoRow : OpenClaim := { program := "ytmnogpanoakbdac", sum := "c1a204e02784eca079600f37e98238127ca345933ddd65f1eb359fb810f1900a", func := "loop.example/g01157/laws.FnExactPoolMean", spec := "fnExactPoolMean", unfollowed := true, recurses := true, apart := false, narrowed := true }
def FnExactPoolMeanUptoSaid : Prop := fnExactPoolMeanUptoRow.holds Try.pinned (OpenSpec.upto fnExactPoolMeanSpec)

/-- 'laws.FnExactAttendRows', WHERE WHAT IT READS IS OF BULK AT MOST 1048576: true; the input reads as it did. -/
def fnExactAttendRowsUptoRow : OpenClaim := { program := "ytmnogpanoakbdac", sum := "c1a204e02784eca079600f37e98238127ca345933ddd65f1eb359fb810f1900a", func := "loop.example/g01157/laws.FnExactAttendRows", spec := "fnExactAttendRows", inPlace := ["math.sqrt", "math.Float64frombits"], unfollowed := true, recurses := true, apart := false, narrowed := true }
def FnExactAttendRowsUptoSaid : Prop := fnExactAttendRowsUptoRow.holds Try.pinned (OpenSpec.upto fnExactAttendRowsSpec)

/-- 'laws.FnRowsAlone', WHERE WHAT IT READS IS OF BULK AT MOST 1048576: true; the input reads as it did. -/
def fnRowsAloneUptoRow : OpenClaim := { program := "ytmnogpanoakbdac", sum := "c1a204e02784eca079600f37e98238127ca345933ddd65f1eb359fb810f1900a", func := "loop.example/g01157/laws.FnRowsAlone", spec := "fnRowsAlone", inPlace := ["math.Float32frombits", "math.Float32bits"], unfollowed := true, recurses := true, apart := false, narrowed := true }
def FnRowsAloneUptoSaid : Prop := fnRowsAloneUptoRow.holds Try.pinned (OpenSpec.upto fnRowsAloneSpec)

/-- 'laws.FnShares', WHERE WHAT IT READS IS OF BULK AT MOST 1048576: true; the input reads as it did. -/
def fnSharesUptoRow : OpenClaim := { program := "ytmnogpanoakbdac", sum := "c1a204e02784eca079600f37e98238127ca345933ddd65f1eb359fb810f1900a", func := "loop.example/g01157/laws.FnShares", spec := "fnShares", unfollowed := true, recurses := true, apart := false, narrowed := true }
def FnSharesUptoSaid : Prop := fnSharesUptoRow.holds Try.pinned (OpenSpec.upto fnSharesSpec)

/-- 'laws.FnForms', WHERE WHAT IT READS IS OF BULK AT MOST 1048576: true; the input reads as it did. -/
def fnFormsUptoRow : OpenClaim := { program := "ytmnogpanoakbdac", sum := "c1a204e02784eca079600f37e98238127ca345933ddd65f1eb359fb810f1900a", func := "loop.example/g01157/laws.FnForms", spec := "fnForms", inPlace := ["math.Float32frombits", "math.Float32bits", "math.sqrt", "math.Float64frombits"], unfollowed := true, recurses := true, apart := false, narrowed := true }
def FnFormsUptoSaid : Prop := fnFormsUptoRow.holds Try.pinned (OpenSpec.upto fnFormsSpec)

/-- 'laws.FnProducts', WHERE WHAT IT READS IS OF BULK AT MOST 1048576: true; the input reads as it did. -/
def fnProductsUptoRow : OpenClaim := { program := "ytmnogpanoakbdac", sum := "c1a204e02784eca079600f37e98238127ca345933ddd65f1eb359fb810f1900a", func := "loop.example/g01157/laws.FnProducts", spec := "fnProducts", inPlace := ["math.Float32frombits", "math.Float32bits"], unfollowed := true, recurses := true, apart := false, narrowed := true }
def FnProductsUptoSaid : Prop := fnProductsUptoRow.holds Try.pinned (OpenSpec.upto fnProductsSpec)

/-- 'laws.FnExactProducts', WHERE WHAT IT READS IS OF BULK AT MOST 1048576: true; the input reads as it did. -/
def fnExactProductsUptoRow : OpenClaim := { program := "ytmnogpanoakbdac", sum := "c1a204e02784eca079600f37e98238127ca345933ddd65f1eb359fb810f1900a", func := "loop.example/g01157/laws.FnExactProducts", spec := "fnExactProducts", inPlace := ["math.Float32bits", "math.Float64bits", "math.Float64frombits"], unfollowed := true, recurses := true, apart := false, narrowed := true }
def FnExactProductsUptoSaid : Prop := fnExactProductsUptoRow.holds Try.pinned (OpenSpec.upto fnExactProductsSpec)

/-- 'laws.FnParts', WHERE WHAT IT READS IS OF BULK AT MOST 1048576: true; the input reads as it did. -/
def fnPartsUptoRow : OpenClaim := { program := "ytmnogpanoakbdac", sum := "c1a204e02784eca079600f37e98238127ca345933ddd65f1eb359fb810f1900a", func := "loop.example/g01157/laws.FnParts", spec := "fnParts", inPlace := ["math.Float32frombits", "math.Float32bits"], unfollowed := true, recurses := true, apart := false, narrowed := true }
def FnPartsUptoSaid : Prop := fnPartsUptoRow.holds Try.pinned (OpenSpec.upto fnPartsSpec)

/-- 'laws.FnNarrowed', WHERE WHAT IT READS IS OF BULK AT MOST 1048576: true; the input reads as it did. -/
def fnNarrowedUptoRow : OpenClaim := { program := "ytmnogpanoakbdac", sum := "c1a204e02784eca079600f37e98238127ca345933ddd65f1eb359fb810f1900a", func := "loop.example/g01157/laws.FnNarrowed", spec := "fnNarrowed", inPlace := ["math.Float32frombits", "math.Float32bits", "math.Float64bits"], apart := false, narrowed := true }
def FnNarrowedUptoSaid : Prop := fnNarrowedUptoRow.holds Try.pinned (OpenSpec.upto fnNarrowedSpec)

/-- 'laws.FnSums', WHERE WHAT IT READS IS OF BULK AT MOST 1048576: true; the input reads as it did. -/
def fnSumsUptoRow : OpenClaim := { program := "ytmnogpanoakbdac", sum := "c1a204e02784eca079600f37e98238127ca345933ddd65f1eb359fb810f1900a", func := "loop.example/g01157/laws.FnSums", spec := "fnSums", inPlace := ["math.Float32frombits", "math.Float32bits"], recurses := true, apart := false, narrowed := true }
def FnSumsUptoSaid : Prop := fnSumsUptoRow.holds Try.pinned (OpenSpec.upto fnSumsSpec)

/-- 'laws.FnExactEightOf', WHERE WHAT IT READS IS OF BULK AT MOST 1048576: true; the input reads as it did. -/
def fnExactEightOfUptoRow : OpenClaim := { program := "ytmnogpanoakbdac", sum := "c1a204e02784eca079600f37e98238127ca345933ddd65f1eb359fb810f1900a", func := "loop.example/g01157/laws.FnExactEightOf", spec := "fnExactEightOf", inPlace := ["math.Float32bits", "math.Float32frombits", "math.Float64frombits", "math.Float64bits"], apart := false, narrowed := true }
def FnExactEightOfUptoSaid : Prop := fnExactEightOfUptoRow.holds Try.pinned (OpenSpec.upto fnExactEightOfSpec)

/-- 'laws.FnExactEightValue', WHERE WHAT IT READS IS OF BULK AT MOST 1048576: true; the input reads as it did. -/
def fnExactEightValueUptoRow : OpenClaim := { program := "ytmnogpanoakbdac", sum := "c1a204e02784eca079600f37e98238127ca345933ddd65f1eb359fb810f1900a", func := "loop.example/g01157/laws.FnExactEightValue", spec := "fnExactEightValue", inPlace := ["math.Float32frombits", "math.Float64frombits", "math.Float64bits"], apart := false, narrowed := true }
def FnExactEightValueUptoSaid : Prop := fnExactEightValueUptoRow.holds Try.pinned (OpenSpec.upto fnExactEightValueSpec)

end Rows
end Go.Proofs.Ytmnogpanoakbdac
