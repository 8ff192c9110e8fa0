/-
  DERIVED. GIVEN WITH THE SEED: THE CARDS: each row of YtobloamnaemfnaaGreatDoorRows.lean that lists a variable, with what it lists TIED to the program's text (the seventh form; the later family's looks); each row that meets fmt, with fmt's text TOLD by the authors' own Lean function (tested against real Go, not proved from fmt's source: count such statements apart). THE CARD IS WHAT COUNTS. Prove the row's statement (the work); the ties are given (YtobloamnaemfnaaGreatDoorTie.lean); close each card by the builder's one call (the guide's Derived/Test/ToyasCard.lean, 'card_holds'). Laid BY PROGRAM, IN A SANDBOX (cutbox-door.mjs). By AI agents, Wed Nov 11 2026. No macro, syntax, notation, axiom, sorry.
-/
import Derived.Test.YtobloamnaemfnaaGreatDoorRows
import GoSem.ClaimSeven
namespace Go.Proofs.YtobloamnaemfnaaGreatDoor
namespace Rows

/-- THE TIED CARD OF 'quipulaw05.DecReads'. -/
def decReadsCard : Claim7 := { stood := { row := decReadsRow, standIns := [], harness := (true, "fdac4c716d1e1217cd7585946fe7436a7dab3c02b576e74ba696e7f1ca43f7f5"), looks := true }, kinds := [], alts := [], laidByText := true, laidKinds := [.data, .data, .data, .data, .sentinel, .sentinel, .pinned], laidTests := true, laidLooks := .later }
def DecReadsCardSaid : Prop := Claim7.holds Tryz.pinned (.plain (OpenSpec.ofChange decReadsSpec)) decReadsCard

/-- THE TIED CARD OF 'quipulaw07.WidthChecks'. -/
def widthChecksCard : Claim7 := { stood := { row := widthChecksRow, standIns := [], harness := (true, "fdac4c716d1e1217cd7585946fe7436a7dab3c02b576e74ba696e7f1ca43f7f5"), looks := true }, kinds := [], alts := [], laidByText := true, laidKinds := [.data, .data, .data, .data, .sentinel, .sentinel, .pinned], laidTests := true, laidLooks := .later }
def WidthChecksCardSaid : Prop := Claim7.holds Tryz.pinned (.plain (OpenSpec.ofChange widthChecksSpec)) widthChecksCard

/-- THE TIED CARD OF 'quipulaw07.WidthShows'. -/
def widthShowsCard : Claim7 := { stood := { row := widthShowsRow, standIns := [], harness := (true, "fdac4c716d1e1217cd7585946fe7436a7dab3c02b576e74ba696e7f1ca43f7f5"), looks := true }, kinds := [], alts := [], laidByText := true, laidKinds := [.data, .data, .data, .data, .sentinel, .sentinel, .pinned], laidTests := true, laidLooks := .later }
def WidthShowsCardSaid : Prop := Claim7.holds Tryz.pinned (.plain (OpenSpec.ofChange widthShowsSpec)) widthShowsCard

/-- THE TIED CARD OF 'quipulaw07.WidthValues'. -/
def widthValuesCard : Claim7 := { stood := { row := widthValuesRow, standIns := [], harness := (true, "fdac4c716d1e1217cd7585946fe7436a7dab3c02b576e74ba696e7f1ca43f7f5"), looks := true }, kinds := [], alts := [], laidByText := true, laidKinds := [.data, .data, .data, .data, .sentinel, .sentinel, .pinned], laidTests := true, laidLooks := .later }
def WidthValuesCardSaid : Prop := Claim7.holds Tryz.pinned (.plain (OpenSpec.ofChange widthValuesSpec)) widthValuesCard

/-- THE TIED CARD OF 'quipulaw08.OperandTells'. -/
def operandTellsCard : Claim7 := { stood := { row := operandTellsRow, standIns := [], harness := (true, "fdac4c716d1e1217cd7585946fe7436a7dab3c02b576e74ba696e7f1ca43f7f5"), looks := true }, kinds := [], alts := [], laidByText := true, laidKinds := [.data, .data, .data, .data, .sentinel, .sentinel, .pinned], laidTests := true, laidLooks := .later }
def OperandTellsCardSaid : Prop := Claim7.holds Tryz.pinned (.plain (OpenSpec.ofChange operandTellsSpec)) operandTellsCard

/-- THE SECOND FORM's CARD OF 'quipulaw05.DecReads'. -/
def decReadsUptoCard : Claim7 := { stood := { row := decReadsUptoRow, standIns := [], harness := (true, "fdac4c716d1e1217cd7585946fe7436a7dab3c02b576e74ba696e7f1ca43f7f5"), looks := true }, kinds := [], alts := [], laidByText := true, laidKinds := [.data, .data, .data, .data, .sentinel, .sentinel, .pinned], laidTests := true, laidLooks := .later }
def DecReadsUptoCardSaid : Prop := Claim7.holds Tryz.pinned (.plain (OpenSpec.upto decReadsSpec)) decReadsUptoCard

/-- THE SECOND FORM's CARD OF 'quipulaw07.WidthChecks'. -/
def widthChecksUptoCard : Claim7 := { stood := { row := widthChecksUptoRow, standIns := [], harness := (true, "fdac4c716d1e1217cd7585946fe7436a7dab3c02b576e74ba696e7f1ca43f7f5"), looks := true }, kinds := [], alts := [], laidByText := true, laidKinds := [.data, .data, .data, .data, .sentinel, .sentinel, .pinned], laidTests := true, laidLooks := .later }
def WidthChecksUptoCardSaid : Prop := Claim7.holds Tryz.pinned (.plain (OpenSpec.upto widthChecksSpec)) widthChecksUptoCard

/-- THE SECOND FORM's CARD OF 'quipulaw07.WidthShows'. -/
def widthShowsUptoCard : Claim7 := { stood := { row := widthShowsUptoRow, standIns := [], harness := (true, "fdac4c716d1e1217cd7585946fe7436a7dab3c02b576e74ba696e7f1ca43f7f5"), looks := true }, kinds := [], alts := [], laidByText := true, laidKinds := [.data, .data, .data, .data, .sentinel, .sentinel, .pinned], laidTests := true, laidLooks := .later }
def WidthShowsUptoCardSaid : Prop := Claim7.holds Tryz.pinned (.plain (OpenSpec.upto widthShowsSpec)) widthShowsUptoCard

/-- THE SECOND FORM's CARD OF 'quipulaw07.WidthValues'. -/
def widthValuesUptoCard : Claim7 := { stood := { row := widthValuesUptoRow, standIns := [], harness := (true, "fdac4c716d1e1217cd7585946fe7436a7dab3c02b576e74ba696e7f1ca43f7f5"), looks := true }, kinds := [], alts := [], laidByText := true, laidKinds := [.data, .data, .data, .data, .sentinel, .sentinel, .pinned], laidTests := true, laidLooks := .later }
def WidthValuesUptoCardSaid : Prop := Claim7.holds Tryz.pinned (.plain (OpenSpec.upto widthValuesSpec)) widthValuesUptoCard

/-- THE SECOND FORM's CARD OF 'quipulaw08.OperandTells'. -/
def operandTellsUptoCard : Claim7 := { stood := { row := operandTellsUptoRow, standIns := [], harness := (true, "fdac4c716d1e1217cd7585946fe7436a7dab3c02b576e74ba696e7f1ca43f7f5"), looks := true }, kinds := [], alts := [], laidByText := true, laidKinds := [.data, .data, .data, .data, .sentinel, .sentinel, .pinned], laidTests := true, laidLooks := .later }
def OperandTellsUptoCardSaid : Prop := Claim7.holds Tryz.pinned (.plain (OpenSpec.upto operandTellsSpec)) operandTellsUptoCard
end Rows
end Go.Proofs.YtobloamnaemfnaaGreatDoor
