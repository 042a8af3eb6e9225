/-
  No cell of these rows narrows 'for every input' (looked for: loops, veiled, ifaces, maps, wideKeys, modest, calm, conditions, laid).
  DERIVED. THE GIVEN ROWS OF THIS SEAT. 4 by the template 'for every input the law returns true; each argument reads behind the call as it read before'; 0 by the template 'total and deterministic' (their statements: YtpobdigmjfapbaaTotals.lean).
  GIVEN WITH THE SEED: the statements are not yours to turn. If you find one false, say at which input.
  Laid BY PROGRAM, IN A SANDBOX (cutbox-rows.mjs): the forced cells as the released guide's own fill.sh prints them over the translation a8f6c05beef109bf… (all of the seat's roots in one cut). By AI agents, Wed Nov 11 2026. No macro, syntax, notation, axiom, sorry.
-/
import Derived.Test.YtpobdigmjfapbaaChecked
import GoSem.Claim
import GoSem.ClaimJoined
import GoSem.ClaimMapViews
import Derived.JoinedTies
import Derived.KernelRfl
namespace Go.Proofs.Ytpobdigmjfapbaa
/- THE CELL 'sum', in the pinned program and in every row, IS THE sha256 OF THE DUMP (.gsa) THAT YtpobdigmjfapbaaProg.lean LOADS. Nothing in Lean hashes anything: it is a label: what it is worth is what the hold of that sum in a sandbox is worth. -/
noncomputable def Try.pinned : Pinned := { name := "ytpobdigmjfapbaa", sum := "a8f6c05beef109bff450c5ff48a826aff969b812697fc3277d52521e7f2a24e2", checked := Try.checked }
namespace Rows
def none {H : Type} : Left H := { results := [], args := [] }

/-- 'laws.FnExactIsStorable': WHATEVER THE INPUT: true; the input reads as it did. -/
def fnExactIsStorableSpec : ChangeSpec := { name := "fnExactIsStorable", fn := fun _ => fun
  | [d] => { results := [.lit (.bool true)], args := [d] }
  | _ => none }
def fnExactIsStorableRow : OpenClaim := { program := "ytpobdigmjfapbaa", sum := "a8f6c05beef109bff450c5ff48a826aff969b812697fc3277d52521e7f2a24e2", func := "loop.example/g01157/laws.FnExactIsStorable", spec := "fnExactIsStorable", unfollowed := true, recurses := true, apart := false }
def FnExactIsStorableSaid : Prop := fnExactIsStorableRow.holds Try.pinned (OpenSpec.ofChange fnExactIsStorableSpec)

/-- ITS FALSE NEIGHBOUR: 'it returns false'. Refute it at one input. -/
def fnExactIsStorableWrong : ChangeSpec := { name := "fnExactIsStorable", fn := fun _ => fun
  | [d] => { results := [.lit (.bool false)], args := [d] }
  | _ => none }
def FnExactIsStorableWrongFalsely : Prop := fnExactIsStorableRow.holds Try.pinned (OpenSpec.ofChange fnExactIsStorableWrong)

/-- 'laws.FnExactCheckWord': WHATEVER THE INPUT: true; the input reads as it did. -/
def fnExactCheckWordSpec : ChangeSpec := { name := "fnExactCheckWord", fn := fun _ => fun
  | [d] => { results := [.lit (.bool true)], args := [d] }
  | _ => none }
def fnExactCheckWordRow : OpenClaim := { program := "ytpobdigmjfapbaa", sum := "a8f6c05beef109bff450c5ff48a826aff969b812697fc3277d52521e7f2a24e2", func := "loop.example/g01157/laws.FnExactCheckWord", spec := "fnExactCheckWord", apart := false }
def FnExactCheckWordSaid : Prop := fnExactCheckWordRow.holds Try.pinned (OpenSpec.ofChange fnExactCheckWordSpec)

/-- ITS FALSE NEIGHBOUR: 'it returns false'. Refute it at one input. -/
def fnExactCheckWordWrong : ChangeSpec := { name := "fnExactCheckWord", fn := fun _ => fun
  | [d] => { results := [.lit (.bool false)], args := [d] }
  | _ => none }
def FnExactCheckWordWrongFalsely : Prop := fnExactCheckWordRow.holds Try.pinned (OpenSpec.ofChange fnExactCheckWordWrong)

/-- 'laws.FnExactAllNumbers': WHATEVER THE INPUT: true; the input reads as it did. -/
def fnExactAllNumbersSpec : ChangeSpec := { name := "fnExactAllNumbers", fn := fun _ => fun
  | [d] => { results := [.lit (.bool true)], args := [d] }
  | _ => none }
def fnExactAllNumbersRow : OpenClaim := { program := "ytpobdigmjfapbaa", sum := "a8f6c05beef109bff450c5ff48a826aff969b812697fc3277d52521e7f2a24e2", func := "loop.example/g01157/laws.FnExactAllNumbers", spec := "fnExactAllNumbers", unfollowed := true, recurses := true, apart := false }
def FnExactAllNumbersSaid : Prop := fnExactAllNumbersRow.holds Try.pinned (OpenSpec.ofChange fnExactAllNumbersSpec)

/-- ITS FALSE NEIGHBOUR: 'it returns false'. Refute it at one input. -/
def fnExactAllNumbersWrong : ChangeSpec := { name := "fnExactAllNumbers", fn := fun _ => fun
  | [d] => { results := [.lit (.bool false)], args := [d] }
  | _ => none }
def FnExactAllNumbersWrongFalsely : Prop := fnExactAllNumbersRow.holds Try.pinned (OpenSpec.ofChange fnExactAllNumbersWrong)

/-- 'laws.FnExactChangedNumbers': WHATEVER THE INPUT: true; the input reads as it did. -/
def fnExactChangedNumbersSpec : ChangeSpec := { name := "fnExactChangedNumbers", fn := fun _ => fun
  | [d1, d2] => { results := [.lit (.bool true)], args := [d1, d2] }
  | _ => none }
def fnExactChangedNumbersRow : OpenClaim := { program := "ytpobdigmjfapbaa", sum := "a8f6c05beef109bff450c5ff48a826aff969b812697fc3277d52521e7f2a24e2", func := "loop.example/g01157/laws.FnExactChangedNumbers", spec := "fnExactChangedNumbers", inPlace := ["math.Float32bits"], unfollowed := true, recurses := true, apart := false }
def FnExactChangedNumbersSaid : Prop := fnExactChangedNumbersRow.holds Try.pinned (OpenSpec.ofChange fnExactChangedNumbersSpec)

/-- ITS FALSE NEIGHBOUR: 'it returns false'. Refute it at one input. -/
def fnExactChangedNumbersWrong : ChangeSpec := { name := "fnExactChangedNumbers", fn := fun _ => fun
  | [d1, d2] => { results := [.lit (.bool false)], args := [d1, d2] }
  | _ => none }
def FnExactChangedNumbersWrongFalsely : Prop := fnExactChangedNumbersRow.holds Try.pinned (OpenSpec.ofChange fnExactChangedNumbersWrong)

/- THE SECOND FORM. 'bulk': how many values and letters a reading holds, each counted each time it is reached (what is shared counts as often as it is met; a slice's spare places count too). A statement '..UptoSaid' is the law's where the arguments, and the package variables that the reading takes, are together of bulk at most 1048576: NARROWER than '..Said'. Prove '..Said' where nothing that the law and all that it calls make is longer than what came in: it says more and counts as full. Else prove '..UptoSaid'. A law counts once. -/
mutual
def uptoBulk {H : Type} : DataW H → Nat
  | .lit (.string bytes) => bytes.length + 1
  | .lit _ => 1
  | .nil => 1
  | .ptr d => uptoBulk d + 1
  | .slice elems spare => uptoBulkAll elems + uptoBulkAll spare + 1
  | .agg parts => uptoBulkAll parts + 1
  | .iface _ d => uptoBulk d + 1
  | .map entries => uptoBulkEntries entries + 1
  | .held _ => 1
def uptoBulkAll {H : Type} : List (DataW H) → Nat
  | [] => 0
  | d :: r => uptoBulk d + uptoBulkAll r
def uptoBulkEntries {H : Type} : List (Lit × DataW H) → Nat
  | [] => 0
  | x :: r => uptoBulkEntry x + uptoBulkEntries r
def uptoBulkEntry {H : Type} : Lit × DataW H → Nat
  | (.string bytes, d) => bytes.length + uptoBulk d + 1
  | (_, d) => uptoBulk d + 1
 end
def uptoSmall : (H : Type) → List (DataW H) → Bool := fun _ ds => decide (uptoBulkAll ds ≤ 1048576)
def OpenSpec.upto (s : _root_.Go.ChangeSpec) : _root_.Go.OpenSpec := { _root_.Go.OpenSpec.ofChange s with cond := some uptoSmall }

/-- 'laws.FnExactIsStorable', WHERE WHAT IT READS IS OF BULK AT MOST 1048576: true; the input reads as it did. -/
def fnExactIsStorableUptoRow : OpenClaim := { program := "ytpobdigmjfapbaa", sum := "a8f6c05beef109bff450c5ff48a826aff969b812697fc3277d52521e7f2a24e2", func := "loop.example/g01157/laws.FnExactIsStorable", spec := "fnExactIsStorable", unfollowed := true, recurses := true, apart := false, narrowed := true }
def FnExactIsStorableUptoSaid : Prop := fnExactIsStorableUptoRow.holds Try.pinned (OpenSpec.upto fnExactIsStorableSpec)

/-- 'laws.FnExactCheckWord', WHERE WHAT IT READS IS OF BULK AT MOST 1048576: true; the input reads as it did. -/
def fnExactCheckWordUptoRow : OpenClaim := { program := "ytpobdigmjfapbaa", sum := "a8f6c05beef109bff450c5ff48a826aff969b812697fc3277d52521e7f2a24e2", func := "loop.example/g01157/laws.FnExactCheckWord", spec := "fnExactCheckWord", apart := false, narrowed := true }
def FnExactCheckWordUptoSaid : Prop := fnExactCheckWordUptoRow.holds Try.pinned (OpenSpec.upto fnExactCheckWordSpec)

/-- 'laws.FnExactAllNumbers', WHERE WHAT IT READS IS OF BULK AT MOST 1048576: true; the input reads as it did. -/
def fnExactAllNumbersUptoRow : OpenClaim := { program := "ytpobdigmjfapbaa", sum := "a8f6c05beef109bff450c5ff48a826aff969b812697fc3277d52521e7f2a24e2", func := "loop.example/g01157/laws.FnExactAllNumbers", spec := "fnExactAllNumbers", unfollowed := true, recurses := true, apart := false, narrowed := true }
def FnExactAllNumbersUptoSaid : Prop := fnExactAllNumbersUptoRow.holds Try.pinned (OpenSpec.upto fnExactAllNumbersSpec)

/-- 'laws.FnExactChangedNumbers', WHERE WHAT IT READS IS OF BULK AT MOST 1048576: true; the input reads as it did. -/
def fnExactChangedNumbersUptoRow : OpenClaim := { program := "ytpobdigmjfapbaa", sum := "a8f6c05beef109bff450c5ff48a826aff969b812697fc3277d52521e7f2a24e2", func := "loop.example/g01157/laws.FnExactChangedNumbers", spec := "fnExactChangedNumbers", inPlace := ["math.Float32bits"], unfollowed := true, recurses := true, apart := false, narrowed := true }
def FnExactChangedNumbersUptoSaid : Prop := fnExactChangedNumbersUptoRow.holds Try.pinned (OpenSpec.upto fnExactChangedNumbersSpec)

end Rows
end Go.Proofs.Ytpobdigmjfapbaa
