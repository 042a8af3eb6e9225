/-
  NARROWER THAN 'FOR EVERY INPUT', by the rows' own cells (each row's printed sentence says how): FnExactBytesNumbers: ifaces, laid · FnNumberBytes: ifaces, laid · FnExactEntriesOf: ifaces, laid.
  DERIVED. THE GIVEN ROWS OF THIS SEAT. 3 by the template 'for every input the law returns true; each argument reads behind the call as it read before'; 0 by the template 'total and deterministic' (their statements: YtpfbhckmpkiijaaDoorTotals.lean).
  GIVEN WITH THE SEED: the statements are not yours to turn. If you find one false, say at which input.
  Laid BY PROGRAM, IN A SANDBOX (cutbox-rows.mjs): the forced cells as the released guide's own fill.sh prints them over the translation 0b07a74ff4a5e8a5… (all of the seat's roots in one cut). By AI agents, Wed Nov 11 2026. No macro, syntax, notation, axiom, sorry.
-/
import Derived.Test.YtpfbhckmpkiijaaDoorChecked
import GoSem.Claim
import GoSem.ClaimJoined
import GoSem.ClaimMapViews
import Derived.JoinedTies
import Derived.KernelRfl
namespace Go.Proofs.YtpfbhckmpkiijaaDoor
/- THE CELL 'sum', in the pinned program and in every row, IS THE sha256 OF THE DUMP (.gsa) THAT YtpfbhckmpkiijaaDoorProg.lean LOADS. Nothing in Lean hashes anything: it is a label: what it is worth is what the hold of that sum in a sandbox is worth. -/
noncomputable def Tryd.pinned : Pinned := { name := "ytpfbhckmpkiijaadoor", sum := "0b07a74ff4a5e8a5a1506e385b2306d7966c197c2cab746c4dcac32ba110247e", checked := Tryd.checked }
namespace Rows
def none {H : Type} : Left H := { results := [], args := [] }

/- WHAT THE LISTED PACKAGE-LEVEL VARIABLES READ AS WHEN THE CALL BEGINS. Each datum BY PROGRAM (the guide's laid-datum.mjs) off the statement by which the dump's own 'gosem.cut.vars' lays the variable. In a bare row this is a premise. The card (YtpfbhckmpkiijaaDoorCards.lean) ties it to the program's text. -/
def laid_bytes_ErrTooLarge {H : Type} : DataW H := .iface "*errors.errorString" (.ptr (.agg [.lit (.string [98, 121, 116, 101, 115, 46, 66, 117, 102, 102, 101, 114, 58, 32, 116, 111, 111, 32, 108, 97, 114, 103, 101])]))
def laid_loop_example_g01157_impl_errMany {H : Type} : DataW H := .iface "*errors.errorString" (.ptr (.agg [.lit (.string [116, 104, 101, 114, 101, 32, 97, 114, 101, 32, 116, 111, 111, 32, 109, 97, 110, 121, 32, 98, 121, 116, 101, 115])]))
def laid_loop_example_g01157_impl_errCut {H : Type} : DataW H := .iface "*errors.errorString" (.ptr (.agg [.lit (.string [116, 104, 101, 32, 98, 121, 116, 101, 115, 32, 97, 114, 101, 32, 99, 117, 116])]))
def laid_loop_example_g01157_impl_errLong {H : Type} : DataW H := .iface "*errors.errorString" (.ptr (.agg [.lit (.string [97, 110, 32, 101, 110, 116, 114, 121, 32, 105, 115, 32, 116, 111, 111, 32, 108, 111, 110, 103])]))

/-- 'laws.FnExactBytesNumbers': WHATEVER THE INPUT: true; the input reads as it did. -/
def fnExactBytesNumbersSpec : ChangeSpec := { name := "fnExactBytesNumbers", vars := ["loop.example/g01157/impl.errMany", "loop.example/g01157/impl.errCut"], fn := fun _ => fun
  | [d, g1, g2] => { results := [.lit (.bool true)], args := [d], vars := [g1, g2] }
  | _ => none }
def fnExactBytesNumbersRow : OpenClaim := { program := "ytpfbhckmpkiijaadoor", sum := "0b07a74ff4a5e8a5a1506e385b2306d7966c197c2cab746c4dcac32ba110247e", func := "loop.example/g01157/laws.FnExactBytesNumbers", spec := "fnExactBytesNumbers", inPlace := ["math.Float32frombits", "math.Float32bits"], unfollowed := true, recurses := true, named := ["loop.example/g01157/impl.errMany", "loop.example/g01157/impl.errCut", "bytes.ErrTooLarge"], ifaces := true, apart := false, laid := [("bytes.ErrTooLarge", laid_bytes_ErrTooLarge), ("loop.example/g01157/impl.errMany", laid_loop_example_g01157_impl_errMany), ("loop.example/g01157/impl.errCut", laid_loop_example_g01157_impl_errCut)] }
def FnExactBytesNumbersSaid : Prop := fnExactBytesNumbersRow.holds Tryd.pinned (OpenSpec.ofChange fnExactBytesNumbersSpec)

/-- ITS FALSE NEIGHBOUR: 'it returns false'. Refute it at one input. -/
def fnExactBytesNumbersWrong : ChangeSpec := { name := "fnExactBytesNumbers", vars := ["loop.example/g01157/impl.errMany", "loop.example/g01157/impl.errCut"], fn := fun _ => fun
  | [d, g1, g2] => { results := [.lit (.bool false)], args := [d], vars := [g1, g2] }
  | _ => none }
def FnExactBytesNumbersWrongFalsely : Prop := fnExactBytesNumbersRow.holds Tryd.pinned (OpenSpec.ofChange fnExactBytesNumbersWrong)

/-- 'laws.FnNumberBytes': WHATEVER THE INPUT: true; the input reads as it did. -/
def fnNumberBytesSpec : ChangeSpec := { name := "fnNumberBytes", vars := ["loop.example/g01157/impl.errMany", "loop.example/g01157/impl.errCut"], fn := fun _ => fun
  | [d1, d2, g1, g2] => { results := [.lit (.bool true)], args := [d1, d2], vars := [g1, g2] }
  | _ => none }
def fnNumberBytesRow : OpenClaim := { program := "ytpfbhckmpkiijaadoor", sum := "0b07a74ff4a5e8a5a1506e385b2306d7966c197c2cab746c4dcac32ba110247e", func := "loop.example/g01157/laws.FnNumberBytes", spec := "fnNumberBytes", inPlace := ["math.Float32frombits", "math.Float32bits"], unfollowed := true, recurses := true, named := ["bytes.ErrTooLarge", "loop.example/g01157/impl.errMany", "loop.example/g01157/impl.errCut"], ifaces := true, apart := false, laid := [("bytes.ErrTooLarge", laid_bytes_ErrTooLarge), ("loop.example/g01157/impl.errMany", laid_loop_example_g01157_impl_errMany), ("loop.example/g01157/impl.errCut", laid_loop_example_g01157_impl_errCut)] }
def FnNumberBytesSaid : Prop := fnNumberBytesRow.holds Tryd.pinned (OpenSpec.ofChange fnNumberBytesSpec)

/-- ITS FALSE NEIGHBOUR: 'it returns false'. Refute it at one input. -/
def fnNumberBytesWrong : ChangeSpec := { name := "fnNumberBytes", vars := ["loop.example/g01157/impl.errMany", "loop.example/g01157/impl.errCut"], fn := fun _ => fun
  | [d1, d2, g1, g2] => { results := [.lit (.bool false)], args := [d1, d2], vars := [g1, g2] }
  | _ => none }
def FnNumberBytesWrongFalsely : Prop := fnNumberBytesRow.holds Tryd.pinned (OpenSpec.ofChange fnNumberBytesWrong)

/-- 'laws.FnExactEntriesOf': WHATEVER THE INPUT: true; the input reads as it did. -/
def fnExactEntriesOfSpec : ChangeSpec := { name := "fnExactEntriesOf", vars := ["loop.example/g01157/impl.errMany", "loop.example/g01157/impl.errLong", "loop.example/g01157/impl.errCut"], fn := fun _ => fun
  | [d, g1, g2, g3] => { results := [.lit (.bool true)], args := [d], vars := [g1, g2, g3] }
  | _ => none }
def fnExactEntriesOfRow : OpenClaim := { program := "ytpfbhckmpkiijaadoor", sum := "0b07a74ff4a5e8a5a1506e385b2306d7966c197c2cab746c4dcac32ba110247e", func := "loop.example/g01157/laws.FnExactEntriesOf", spec := "fnExactEntriesOf", inPlace := ["internal/reflectlite.TypeOf"], unfollowed := true, recurses := true, named := ["loop.example/g01157/impl.errMany", "loop.example/g01157/impl.errLong", "loop.example/g01157/impl.errCut"], ifaces := true, apart := false, laid := [("loop.example/g01157/impl.errMany", laid_loop_example_g01157_impl_errMany), ("loop.example/g01157/impl.errCut", laid_loop_example_g01157_impl_errCut), ("loop.example/g01157/impl.errLong", laid_loop_example_g01157_impl_errLong)] }
def FnExactEntriesOfSaid : Prop := fnExactEntriesOfRow.holds Tryd.pinned (OpenSpec.ofChange fnExactEntriesOfSpec)

/-- ITS FALSE NEIGHBOUR: 'it returns false'. Refute it at one input. -/
def fnExactEntriesOfWrong : ChangeSpec := { name := "fnExactEntriesOf", vars := ["loop.example/g01157/impl.errMany", "loop.example/g01157/impl.errLong", "loop.example/g01157/impl.errCut"], fn := fun _ => fun
  | [d, g1, g2, g3] => { results := [.lit (.bool false)], args := [d], vars := [g1, g2, g3] }
  | _ => none }
def FnExactEntriesOfWrongFalsely : Prop := fnExactEntriesOfRow.holds Tryd.pinned (OpenSpec.ofChange fnExactEntriesOfWrong)

/- THE SECOND FORM. 'bulk': how many values and letters a reading holds, each counted each time it is reached (what is shared counts as often as it is met; a slice's spare places count too). A statement '..UptoSaid' is the law's where the arguments, and the package variables that the reading takes, are together of bulk at most 1048576: NARROWER than '..Said'. Prove '..Said' where nothing that the law and all that it calls make is longer than what came in: it says more and counts as full. Else prove '..UptoSaid'. A law counts once. -/
mutual
def uptoBulk {H : Type} : DataW H → Nat
  | .lit (.string bytes) => bytes.length + 1
  | .lit _ => 1
  | .nil => 1
  | .ptr d => uptoBulk d + 1
  | .slice elems spare => uptoBulkAll elems + uptoBulkAll spare + 1
  | .agg parts => uptoBulkAll parts + 1
  | .iface _ d => uptoBulk d + 1
  | .map entries => uptoBulkEntries entries + 1
  | .held _ => 1
def uptoBulkAll {H : Type} : List (DataW H) → Nat
  | [] => 0
  | d :: r => uptoBulk d + uptoBulkAll r
def uptoBulkEntries {H : Type} : List (Lit × DataW H) → Nat
  | [] => 0
  | x :: r => uptoBulkEntry x + uptoBulkEntries r
def uptoBulkEntry {H : Type} : Lit × DataW H → Nat
  | (.string bytes, d) => bytes.length + uptoBulk d + 1
  | (_, d) => uptoBulk d + 1
 end
def uptoSmall : (H : Type) → List (DataW H) → Bool := fun _ ds => decide (uptoBulkAll ds ≤ 1048576)
def OpenSpec.upto (s : _root_.Go.ChangeSpec) : _root_.Go.OpenSpec := { _root_.Go.OpenSpec.ofChange s with cond := some uptoSmall }

/-- 'laws.FnExactBytesNumbers', WHERE WHAT IT READS IS OF BULK AT MOST 1048576: true; the input reads as it did. -/
def fnExactBytesNumbersUptoRow : OpenClaim := { program := "ytpfbhckmpkiijaadoor", sum := "0b07a74ff4a5e8a5a1506e385b2306d7966c197c2cab746c4dcac32ba110247e", func := "loop.example/g01157/laws.FnExactBytesNumbers", spec := "fnExactBytesNumbers", inPlace := ["math.Float32frombits", "math.Float32bits"], unfollowed := true, recurses := true, named := ["loop.example/g01157/impl.errMany", "loop.example/g01157/impl.errCut", "bytes.ErrTooLarge"], ifaces := true, apart := false, laid := [("bytes.ErrTooLarge", laid_bytes_ErrTooLarge), ("loop.example/g01157/impl.errMany", laid_loop_example_g01157_impl_errMany), ("loop.example/g01157/impl.errCut", laid_loop_example_g01157_impl_errCut)], narrowed := true }
def FnExactBytesNumbersUptoSaid : Prop := fnExactBytesNumbersUptoRow.holds Tryd.pinned (OpenSpec.upto fnExactBytesNumbersSpec)

/-- 'laws.FnNumberBytes', WHERE WHAT IT READS IS OF BULK AT MOST 1048576: true; the input reads as it did. -/
def fnNumberBytesUptoRow : OpenClaim := { program := "ytpfbhckmpkiijaadoor", sum := "0b07a74ff4a5e8a5a1506e385b2306d7966c197c2cab746c4dcac32ba110247e", func := "loop.example/g01157/laws.FnNumberBytes", spec := "fnNumberBytes", inPlace := ["math.Float32frombits", "math.Float32bits"], unfollowed := true, recurses := true, named := ["bytes.ErrTooLarge", "loop.example/g01157/impl.errMany", "loop.example/g01157/impl.errCut"], ifaces := true, apart := false, laid := [("bytes.ErrTooLarge", laid_bytes_ErrTooLarge), ("loop.example/g01157/impl.errMany", laid_loop_example_g01157_impl_errMany), ("loop.example/g01157/impl.errCut", laid_loop_example_g01157_impl_errCut)], narrowed := true }
def FnNumberBytesUptoSaid : Prop := fnNumberBytesUptoRow.holds Tryd.pinned (OpenSpec.upto fnNumberBytesSpec)

/-- 'laws.FnExactEntriesOf', WHERE WHAT IT READS IS OF BULK AT MOST 1048576: true; the input reads as it did. -/
def fnExactEntriesOfUptoRow : OpenClaim := { program := "ytpfbhckmpkiijaadoor", sum := "0b07a74ff4a5e8a5a1506e385b2306d7966c197c2cab746c4dcac32ba110247e", func := "loop.example/g01157/laws.FnExactEntriesOf", spec := "fnExactEntriesOf", inPlace := ["internal/reflectlite.TypeOf"], unfollowed := true, recurses := true, named := ["loop.example/g01157/impl.errMany", "loop.example/g01157/impl.errLong", "loop.example/g01157/impl.errCut"], ifaces := true, apart := false, laid := [("loop.example/g01157/impl.errMany", laid_loop_example_g01157_impl_errMany), ("loop.example/g01157/impl.errCut", laid_loop_example_g01157_impl_errCut), ("loop.example/g01157/impl.errLong", laid_loop_example_g01157_impl_errLong)], narrowed := true }
def FnExactEntriesOfUptoSaid : Prop := fnExactEntriesOfUptoRow.holds Tryd.pinned (OpenSpec.upto fnExactEntriesOfSpec)

end Rows
end Go.Proofs.YtpfbhckmpkiijaaDoor
