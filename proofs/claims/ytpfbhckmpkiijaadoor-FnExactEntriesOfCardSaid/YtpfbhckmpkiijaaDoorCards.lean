/-
  DERIVED. GIVEN WITH THE SEED: THE CARDS: each row of YtpfbhckmpkiijaaDoorRows.lean that lists a variable, with what it lists TIED to the program's text (the seventh form; the later family's looks); each row that meets fmt, with fmt's text TOLD by the authors' own Lean function (tested against real Go, not proved from fmt's source: count such statements apart). THE CARD IS WHAT COUNTS. Prove the row's statement (the work); the ties are given (YtpfbhckmpkiijaaDoorTie.lean); close each card by the builder's one call (the guide's Derived/Test/ToyasCard.lean, 'card_holds'). Laid BY PROGRAM, IN A SANDBOX (cutbox-door.mjs). By AI agents, Wed Nov 11 2026. No macro, syntax, notation, axiom, sorry.
-/
import Derived.Test.YtpfbhckmpkiijaaDoorRows
import GoSem.ClaimSeven
namespace Go.Proofs.YtpfbhckmpkiijaaDoor
namespace Rows

/-- THE TIED CARD OF 'laws.FnExactBytesNumbers'. -/
def fnExactBytesNumbersCard : Claim7 := { stood := { row := fnExactBytesNumbersRow, standIns := [], harness := (true, "3d59221cdb0467180d6926c851cbe2b7f7f01905ff0fcdbb775e594a5ee0df8d"), looks := true }, kinds := [], alts := [], laidByText := true, laidKinds := [.sentinel, .sentinel, .sentinel], laidTests := true, laidLooks := .later }
def FnExactBytesNumbersCardSaid : Prop := Claim7.holds Tryd.pinned (.plain (OpenSpec.ofChange fnExactBytesNumbersSpec)) fnExactBytesNumbersCard

/-- THE TIED CARD OF 'laws.FnNumberBytes'. -/
def fnNumberBytesCard : Claim7 := { stood := { row := fnNumberBytesRow, standIns := [], harness := (true, "3d59221cdb0467180d6926c851cbe2b7f7f01905ff0fcdbb775e594a5ee0df8d"), looks := true }, kinds := [], alts := [], laidByText := true, laidKinds := [.sentinel, .sentinel, .sentinel], laidTests := true, laidLooks := .later }
def FnNumberBytesCardSaid : Prop := Claim7.holds Tryd.pinned (.plain (OpenSpec.ofChange fnNumberBytesSpec)) fnNumberBytesCard

/-- THE TIED CARD OF 'laws.FnExactEntriesOf'. -/
def fnExactEntriesOfCard : Claim7 := { stood := { row := fnExactEntriesOfRow, standIns := [], harness := (true, "3d59221cdb0467180d6926c851cbe2b7f7f01905ff0fcdbb775e594a5ee0df8d"), looks := true }, kinds := [], alts := [], laidByText := true, laidKinds := [.sentinel, .sentinel, .sentinel], laidTests := true, laidLooks := .later }
def FnExactEntriesOfCardSaid : Prop := Claim7.holds Tryd.pinned (.plain (OpenSpec.ofChange fnExactEntriesOfSpec)) fnExactEntriesOfCard

/-- THE SECOND FORM's CARD OF 'laws.FnExactBytesNumbers'. -/
def fnExactBytesNumbersUptoCard : Claim7 := { stood := { row := fnExactBytesNumbersUptoRow, standIns := [], harness := (true, "3d59221cdb0467180d6926c851cbe2b7f7f01905ff0fcdbb775e594a5ee0df8d"), looks := true }, kinds := [], alts := [], laidByText := true, laidKinds := [.sentinel, .sentinel, .sentinel], laidTests := true, laidLooks := .later }
def FnExactBytesNumbersUptoCardSaid : Prop := Claim7.holds Tryd.pinned (.plain (OpenSpec.upto fnExactBytesNumbersSpec)) fnExactBytesNumbersUptoCard

/-- THE SECOND FORM's CARD OF 'laws.FnNumberBytes'. -/
def fnNumberBytesUptoCard : Claim7 := { stood := { row := fnNumberBytesUptoRow, standIns := [], harness := (true, "3d59221cdb0467180d6926c851cbe2b7f7f01905ff0fcdbb775e594a5ee0df8d"), looks := true }, kinds := [], alts := [], laidByText := true, laidKinds := [.sentinel, .sentinel, .sentinel], laidTests := true, laidLooks := .later }
def FnNumberBytesUptoCardSaid : Prop := Claim7.holds Tryd.pinned (.plain (OpenSpec.upto fnNumberBytesSpec)) fnNumberBytesUptoCard

/-- THE SECOND FORM's CARD OF 'laws.FnExactEntriesOf'. -/
def fnExactEntriesOfUptoCard : Claim7 := { stood := { row := fnExactEntriesOfUptoRow, standIns := [], harness := (true, "3d59221cdb0467180d6926c851cbe2b7f7f01905ff0fcdbb775e594a5ee0df8d"), looks := true }, kinds := [], alts := [], laidByText := true, laidKinds := [.sentinel, .sentinel, .sentinel], laidTests := true, laidLooks := .later }
def FnExactEntriesOfUptoCardSaid : Prop := Claim7.holds Tryd.pinned (.plain (OpenSpec.upto fnExactEntriesOfSpec)) fnExactEntriesOfUptoCard
end Rows
end Go.Proofs.YtpfbhckmpkiijaaDoor
