/-
  DERIVED. GIVEN WITH THE SEED: THE CARDS: each row of YtpobdigmjfapbaaDoorRows.lean that lists a variable, with what it lists TIED to the program's text (the seventh form; the later family's looks); each row that meets fmt, with fmt's text TOLD by the authors' own Lean function (tested against real Go, not proved from fmt's source: count such statements apart). THE CARD IS WHAT COUNTS. Prove the row's statement (the work); the ties are given (YtpobdigmjfapbaaDoorTie.lean); close each card by the builder's one call (the guide's Derived/Test/ToyasCard.lean, 'card_holds'). Laid BY PROGRAM, IN A SANDBOX (cutbox-door.mjs). By AI agents, Wed Nov 11 2026. No macro, syntax, notation, axiom, sorry.
-/
import Derived.Test.YtpobdigmjfapbaaDoorRows
import GoSem.ClaimSeven
namespace Go.Proofs.YtpobdigmjfapbaaDoor
namespace Rows

/-- THE TIED CARD OF 'laws.FnNumberBytes'. -/
def fnNumberBytesCard : Claim7 := { stood := { row := fnNumberBytesRow, standIns := [], harness := (true, "1f81a8fb3825053d1a99e120f5a736e31880ec99c4596fa164c1be050c635f14"), looks := true }, kinds := [], alts := [], laidByText := true, laidKinds := [.sentinel, .sentinel, .sentinel], laidTests := true, laidLooks := .later }
def FnNumberBytesCardSaid : Prop := Claim7.holds Tryd.pinned (.plain (OpenSpec.ofChange fnNumberBytesSpec)) fnNumberBytesCard

/-- THE TIED CARD OF 'laws.FnExactNumbersBytes'. -/
def fnExactNumbersBytesCard : Claim7 := { stood := { row := fnExactNumbersBytesRow, standIns := [], harness := (true, "1f81a8fb3825053d1a99e120f5a736e31880ec99c4596fa164c1be050c635f14"), looks := true }, kinds := [], alts := [], laidByText := true, laidKinds := [.sentinel], laidTests := true, laidLooks := .later }
def FnExactNumbersBytesCardSaid : Prop := Claim7.holds Tryd.pinned (.plain (OpenSpec.ofChange fnExactNumbersBytesSpec)) fnExactNumbersBytesCard

/-- THE TIED CARD OF 'laws.FnExactBytesNumbers'. -/
def fnExactBytesNumbersCard : Claim7 := { stood := { row := fnExactBytesNumbersRow, standIns := [], harness := (true, "1f81a8fb3825053d1a99e120f5a736e31880ec99c4596fa164c1be050c635f14"), looks := true }, kinds := [], alts := [], laidByText := true, laidKinds := [.sentinel, .sentinel, .sentinel], laidTests := true, laidLooks := .later }
def FnExactBytesNumbersCardSaid : Prop := Claim7.holds Tryd.pinned (.plain (OpenSpec.ofChange fnExactBytesNumbersSpec)) fnExactBytesNumbersCard

/-- THE TIED CARD OF 'laws.FnExactStoredSize'. -/
def fnExactStoredSizeCard : Claim7 := { stood := { row := fnExactStoredSizeRow, standIns := [], harness := (true, "1f81a8fb3825053d1a99e120f5a736e31880ec99c4596fa164c1be050c635f14"), looks := true }, kinds := [], alts := [], laidByText := true, laidKinds := [.sentinel], laidTests := true, laidLooks := .later }
def FnExactStoredSizeCardSaid : Prop := Claim7.holds Tryd.pinned (.plain (OpenSpec.ofChange fnExactStoredSizeSpec)) fnExactStoredSizeCard

/-- THE TIED CARD OF 'laws.FnExactStoreTraining'. -/
def fnExactStoreTrainingCard : Claim7 := { stood := { row := fnExactStoreTrainingRow, standIns := [], harness := (true, "1f81a8fb3825053d1a99e120f5a736e31880ec99c4596fa164c1be050c635f14"), looks := true }, kinds := [], alts := [], laidByText := true, laidKinds := [.sentinel], laidTests := true, laidLooks := .later }
def FnExactStoreTrainingCardSaid : Prop := Claim7.holds Tryd.pinned (.plain (OpenSpec.ofChange fnExactStoreTrainingSpec)) fnExactStoreTrainingCard

/-- THE TIED CARD OF 'laws.FnExactPatchOf'. -/
def fnExactPatchOfCard : Claim7 := { stood := { row := fnExactPatchOfRow, standIns := [], harness := (true, "1f81a8fb3825053d1a99e120f5a736e31880ec99c4596fa164c1be050c635f14"), looks := true }, kinds := [], alts := [], laidByText := true, laidKinds := [.sentinel], laidTests := true, laidLooks := .later }
def FnExactPatchOfCardSaid : Prop := Claim7.holds Tryd.pinned (.plain (OpenSpec.ofChange fnExactPatchOfSpec)) fnExactPatchOfCard

/-- THE TIED CARD OF 'laws.FnExactArchiveOf'. -/
def fnExactArchiveOfCard : Claim7 := { stood := { row := fnExactArchiveOfRow, standIns := [], harness := (true, "1f81a8fb3825053d1a99e120f5a736e31880ec99c4596fa164c1be050c635f14"), looks := true }, kinds := [], alts := [], laidByText := true, laidKinds := [.sentinel], laidTests := true, laidLooks := .later }
def FnExactArchiveOfCardSaid : Prop := Claim7.holds Tryd.pinned (.plain (OpenSpec.ofChange fnExactArchiveOfSpec)) fnExactArchiveOfCard

/-- THE TIED CARD OF 'laws.FnExactEntriesOf'. -/
def fnExactEntriesOfCard : Claim7 := { stood := { row := fnExactEntriesOfRow, standIns := [], harness := (true, "1f81a8fb3825053d1a99e120f5a736e31880ec99c4596fa164c1be050c635f14"), looks := true }, kinds := [], alts := [], laidByText := true, laidKinds := [.sentinel, .sentinel, .sentinel], laidTests := true, laidLooks := .later }
def FnExactEntriesOfCardSaid : Prop := Claim7.holds Tryd.pinned (.plain (OpenSpec.ofChange fnExactEntriesOfSpec)) fnExactEntriesOfCard

/-- THE SECOND FORM's CARD OF 'laws.FnNumberBytes'. -/
def fnNumberBytesUptoCard : Claim7 := { stood := { row := fnNumberBytesUptoRow, standIns := [], harness := (true, "1f81a8fb3825053d1a99e120f5a736e31880ec99c4596fa164c1be050c635f14"), looks := true }, kinds := [], alts := [], laidByText := true, laidKinds := [.sentinel, .sentinel, .sentinel], laidTests := true, laidLooks := .later }
def FnNumberBytesUptoCardSaid : Prop := Claim7.holds Tryd.pinned (.plain (OpenSpec.upto fnNumberBytesSpec)) fnNumberBytesUptoCard

/-- THE SECOND FORM's CARD OF 'laws.FnExactNumbersBytes'. -/
def fnExactNumbersBytesUptoCard : Claim7 := { stood := { row := fnExactNumbersBytesUptoRow, standIns := [], harness := (true, "1f81a8fb3825053d1a99e120f5a736e31880ec99c4596fa164c1be050c635f14"), looks := true }, kinds := [], alts := [], laidByText := true, laidKinds := [.sentinel], laidTests := true, laidLooks := .later }
def FnExactNumbersBytesUptoCardSaid : Prop := Claim7.holds Tryd.pinned (.plain (OpenSpec.upto fnExactNumbersBytesSpec)) fnExactNumbersBytesUptoCard

/-- THE SECOND FORM's CARD OF 'laws.FnExactBytesNumbers'. -/
def fnExactBytesNumbersUptoCard : Claim7 := { stood := { row := fnExactBytesNumbersUptoRow, standIns := [], harness := (true, "1f81a8fb3825053d1a99e120f5a736e31880ec99c4596fa164c1be050c635f14"), looks := true }, kinds := [], alts := [], laidByText := true, laidKinds := [.sentinel, .sentinel, .sentinel], laidTests := true, laidLooks := .later }
def FnExactBytesNumbersUptoCardSaid : Prop := Claim7.holds Tryd.pinned (.plain (OpenSpec.upto fnExactBytesNumbersSpec)) fnExactBytesNumbersUptoCard

/-- THE SECOND FORM's CARD OF 'laws.FnExactStoredSize'. -/
def fnExactStoredSizeUptoCard : Claim7 := { stood := { row := fnExactStoredSizeUptoRow, standIns := [], harness := (true, "1f81a8fb3825053d1a99e120f5a736e31880ec99c4596fa164c1be050c635f14"), looks := true }, kinds := [], alts := [], laidByText := true, laidKinds := [.sentinel], laidTests := true, laidLooks := .later }
def FnExactStoredSizeUptoCardSaid : Prop := Claim7.holds Tryd.pinned (.plain (OpenSpec.upto fnExactStoredSizeSpec)) fnExactStoredSizeUptoCard

/-- THE SECOND FORM's CARD OF 'laws.FnExactStoreTraining'. -/
def fnExactStoreTrainingUptoCard : Claim7 := { stood := { row := fnExactStoreTrainingUptoRow, standIns := [], harness := (true, "1f81a8fb3825053d1a99e120f5a736e31880ec99c4596fa164c1be050c635f14"), looks := true }, kinds := [], alts := [], laidByText := true, laidKinds := [.sentinel], laidTests := true, laidLooks := .later }
def FnExactStoreTrainingUptoCardSaid : Prop := Claim7.holds Tryd.pinned (.plain (OpenSpec.upto fnExactStoreTrainingSpec)) fnExactStoreTrainingUptoCard

/-- THE SECOND FORM's CARD OF 'laws.FnExactPatchOf'. -/
def fnExactPatchOfUptoCard : Claim7 := { stood := { row := fnExactPatchOfUptoRow, standIns := [], harness := (true, "1f81a8fb3825053d1a99e120f5a736e31880ec99c4596fa164c1be050c635f14"), looks := true }, kinds := [], alts := [], laidByText := true, laidKinds := [.sentinel], laidTests := true, laidLooks := .later }
def FnExactPatchOfUptoCardSaid : Prop := Claim7.holds Tryd.pinned (.plain (OpenSpec.upto fnExactPatchOfSpec)) fnExactPatchOfUptoCard

/-- THE SECOND FORM's CARD OF 'laws.FnExactArchiveOf'. -/
def fnExactArchiveOfUptoCard : Claim7 := { stood := { row := fnExactArchiveOfUptoRow, standIns := [], harness := (true, "1f81a8fb3825053d1a99e120f5a736e31880ec99c4596fa164c1be050c635f14"), looks := true }, kinds := [], alts := [], laidByText := true, laidKinds := [.sentinel], laidTests := true, laidLooks := .later }
def FnExactArchiveOfUptoCardSaid : Prop := Claim7.holds Tryd.pinned (.plain (OpenSpec.upto fnExactArchiveOfSpec)) fnExactArchiveOfUptoCard

/-- THE SECOND FORM's CARD OF 'laws.FnExactEntriesOf'. -/
def fnExactEntriesOfUptoCard : Claim7 := { stood := { row := fnExactEntriesOfUptoRow, standIns := [], harness := (true, "1f81a8fb3825053d1a99e120f5a736e31880ec99c4596fa164c1be050c635f14"), looks := true }, kinds := [], alts := [], laidByText := true, laidKinds := [.sentinel, .sentinel, .sentinel], laidTests := true, laidLooks := .later }
def FnExactEntriesOfUptoCardSaid : Prop := Claim7.holds Tryd.pinned (.plain (OpenSpec.upto fnExactEntriesOfSpec)) fnExactEntriesOfUptoCard
end Rows
end Go.Proofs.YtpobdigmjfapbaaDoor
