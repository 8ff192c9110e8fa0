/-
  DERIVED. GIVEN WITH THE SEED: THE CARDS: each row of YtckijnlolmbdiaaGreatDoorRows.lean that lists a variable, with what it lists TIED to the program's text (the seventh form; the later family's looks); each row that meets fmt, with fmt's text TOLD by the authors' own Lean function (tested against real Go, not proved from fmt's source: count such statements apart). THE CARD IS WHAT COUNTS. Prove the row's statement (the work); the ties are given (YtckijnlolmbdiaaGreatDoorTie.lean); close each card by the builder's one call (the guide's Derived/Test/ToyasCard.lean, 'card_holds'). Laid BY PROGRAM, IN A SANDBOX (cutbox-door.mjs). By AI agents, Wed Nov 11 2026. No macro, syntax, notation, axiom, sorry.
-/
import Derived.Test.YtckijnlolmbdiaaGreatDoorRows
import GoSem.ClaimSeven
namespace Go.Proofs.YtckijnlolmbdiaaGreatDoor
namespace Rows

/-- THE TIED CARD OF 'quipulaw05.DecReads'. -/
def decReadsCard : Claim7 := { stood := { row := decReadsRow, standIns := [], harness := (true, "9dbbe79d1d7ccbd3289183deccdda0e9ee4c869afa46f64dc6be913a2d97cc2b"), looks := true }, kinds := [], alts := [], laidByText := true, laidKinds := [.data, .data, .data, .data, .sentinel, .sentinel, .pinned], laidTests := true, laidLooks := .later }
def DecReadsCardSaid : Prop := Claim7.holds Tryz.pinned (.plain (OpenSpec.ofChange decReadsSpec)) decReadsCard

/-- THE TIED CARD OF 'quipulaw06.RoundPlaces'. -/
def roundPlacesCard : Claim7 := { stood := { row := roundPlacesRow, standIns := [], harness := (true, "9dbbe79d1d7ccbd3289183deccdda0e9ee4c869afa46f64dc6be913a2d97cc2b"), looks := true }, kinds := [], alts := [], laidByText := true, laidKinds := [.data, .data, .data, .data, .pinned], laidTests := true, laidLooks := .later }
def RoundPlacesCardSaid : Prop := Claim7.holds Tryz.pinned (.plain (OpenSpec.ofChange roundPlacesSpec)) roundPlacesCard

/-- THE TIED CARD OF 'quipulaw07.WidthChecks'. -/
def widthChecksCard : Claim7 := { stood := { row := widthChecksRow, standIns := [], harness := (true, "9dbbe79d1d7ccbd3289183deccdda0e9ee4c869afa46f64dc6be913a2d97cc2b"), looks := true }, kinds := [], alts := [], laidByText := true, laidKinds := [.data, .data, .data, .data, .sentinel, .sentinel, .pinned], laidTests := true, laidLooks := .later }
def WidthChecksCardSaid : Prop := Claim7.holds Tryz.pinned (.plain (OpenSpec.ofChange widthChecksSpec)) widthChecksCard

/-- THE TIED CARD OF 'quipulaw07.WidthShows'. -/
def widthShowsCard : Claim7 := { stood := { row := widthShowsRow, standIns := [], harness := (true, "9dbbe79d1d7ccbd3289183deccdda0e9ee4c869afa46f64dc6be913a2d97cc2b"), looks := true }, kinds := [], alts := [], laidByText := true, laidKinds := [.data, .data, .data, .data, .sentinel, .sentinel, .pinned], laidTests := true, laidLooks := .later }
def WidthShowsCardSaid : Prop := Claim7.holds Tryz.pinned (.plain (OpenSpec.ofChange widthShowsSpec)) widthShowsCard

/-- THE TIED CARD OF 'quipulaw07.WidthValues'. -/
def widthValuesCard : Claim7 := { stood := { row := widthValuesRow, standIns := [], harness := (true, "9dbbe79d1d7ccbd3289183deccdda0e9ee4c869afa46f64dc6be913a2d97cc2b"), looks := true }, kinds := [], alts := [], laidByText := true, laidKinds := [.data, .data, .data, .data, .sentinel, .sentinel, .pinned], laidTests := true, laidLooks := .later }
def WidthValuesCardSaid : Prop := Claim7.holds Tryz.pinned (.plain (OpenSpec.ofChange widthValuesSpec)) widthValuesCard

/-- THE TIED CARD OF 'quipulaw07.WidthTrue'. -/
def widthTrueCard : Claim7 := { stood := { row := widthTrueRow, standIns := [], harness := (true, "9dbbe79d1d7ccbd3289183deccdda0e9ee4c869afa46f64dc6be913a2d97cc2b"), looks := true }, kinds := [], alts := [], laidByText := true, laidKinds := [.data, .data, .data, .data, .sentinel, .sentinel, .pinned], laidTests := true, laidLooks := .later }
def WidthTrueCardSaid : Prop := Claim7.holds Tryz.pinned (.plain (OpenSpec.ofChange widthTrueSpec)) widthTrueCard

/-- THE TIED CARD OF 'quipulaw07.WidthCuts'. -/
def widthCutsCard : Claim7 := { stood := { row := widthCutsRow, standIns := [], harness := (true, "9dbbe79d1d7ccbd3289183deccdda0e9ee4c869afa46f64dc6be913a2d97cc2b"), looks := true }, kinds := [], alts := [], laidByText := true, laidKinds := [.data, .data, .data, .data, .sentinel, .sentinel, .pinned], laidTests := true, laidLooks := .later }
def WidthCutsCardSaid : Prop := Claim7.holds Tryz.pinned (.plain (OpenSpec.ofChange widthCutsSpec)) widthCutsCard

/-- THE TIED CARD OF 'quipulaw07.WidthCounts'. -/
def widthCountsCard : Claim7 := { stood := { row := widthCountsRow, standIns := [], harness := (true, "9dbbe79d1d7ccbd3289183deccdda0e9ee4c869afa46f64dc6be913a2d97cc2b"), looks := true }, kinds := [], alts := [], laidByText := true, laidKinds := [.data, .data, .data, .data, .sentinel, .sentinel, .pinned], laidTests := true, laidLooks := .later }
def WidthCountsCardSaid : Prop := Claim7.holds Tryz.pinned (.plain (OpenSpec.ofChange widthCountsSpec)) widthCountsCard

/-- THE TIED CARD OF 'quipulaw07.WidthAgain'. -/
def widthAgainCard : Claim7 := { stood := { row := widthAgainRow, standIns := [], harness := (true, "9dbbe79d1d7ccbd3289183deccdda0e9ee4c869afa46f64dc6be913a2d97cc2b"), looks := true }, kinds := [], alts := [], laidByText := true, laidKinds := [.data, .data, .data, .data, .sentinel, .sentinel, .pinned], laidTests := true, laidLooks := .later }
def WidthAgainCardSaid : Prop := Claim7.holds Tryz.pinned (.plain (OpenSpec.ofChange widthAgainSpec)) widthAgainCard

/-- THE TIED CARD OF 'quipulaw07.WidthMore'. -/
def widthMoreCard : Claim7 := { stood := { row := widthMoreRow, standIns := [], harness := (true, "9dbbe79d1d7ccbd3289183deccdda0e9ee4c869afa46f64dc6be913a2d97cc2b"), looks := true }, kinds := [], alts := [], laidByText := true, laidKinds := [.data, .data, .data, .data, .sentinel, .sentinel, .pinned], laidTests := true, laidLooks := .later }
def WidthMoreCardSaid : Prop := Claim7.holds Tryz.pinned (.plain (OpenSpec.ofChange widthMoreSpec)) widthMoreCard

/-- THE SECOND FORM's CARD OF 'quipulaw05.DecReads'. -/
def decReadsUptoCard : Claim7 := { stood := { row := decReadsUptoRow, standIns := [], harness := (true, "9dbbe79d1d7ccbd3289183deccdda0e9ee4c869afa46f64dc6be913a2d97cc2b"), looks := true }, kinds := [], alts := [], laidByText := true, laidKinds := [.data, .data, .data, .data, .sentinel, .sentinel, .pinned], laidTests := true, laidLooks := .later }
def DecReadsUptoCardSaid : Prop := Claim7.holds Tryz.pinned (.plain (OpenSpec.upto decReadsSpec)) decReadsUptoCard

/-- THE SECOND FORM's CARD OF 'quipulaw06.RoundPlaces'. -/
def roundPlacesUptoCard : Claim7 := { stood := { row := roundPlacesUptoRow, standIns := [], harness := (true, "9dbbe79d1d7ccbd3289183deccdda0e9ee4c869afa46f64dc6be913a2d97cc2b"), looks := true }, kinds := [], alts := [], laidByText := true, laidKinds := [.data, .data, .data, .data, .pinned], laidTests := true, laidLooks := .later }
def RoundPlacesUptoCardSaid : Prop := Claim7.holds Tryz.pinned (.plain (OpenSpec.upto roundPlacesSpec)) roundPlacesUptoCard

/-- THE SECOND FORM's CARD OF 'quipulaw07.WidthChecks'. -/
def widthChecksUptoCard : Claim7 := { stood := { row := widthChecksUptoRow, standIns := [], harness := (true, "9dbbe79d1d7ccbd3289183deccdda0e9ee4c869afa46f64dc6be913a2d97cc2b"), looks := true }, kinds := [], alts := [], laidByText := true, laidKinds := [.data, .data, .data, .data, .sentinel, .sentinel, .pinned], laidTests := true, laidLooks := .later }
def WidthChecksUptoCardSaid : Prop := Claim7.holds Tryz.pinned (.plain (OpenSpec.upto widthChecksSpec)) widthChecksUptoCard

/-- THE SECOND FORM's CARD OF 'quipulaw07.WidthShows'. -/
def widthShowsUptoCard : Claim7 := { stood := { row := widthShowsUptoRow, standIns := [], harness := (true, "9dbbe79d1d7ccbd3289183deccdda0e9ee4c869afa46f64dc6be913a2d97cc2b"), looks := true }, kinds := [], alts := [], laidByText := true, laidKinds := [.data, .data, .data, .data, .sentinel, .sentinel, .pinned], laidTests := true, laidLooks := .later }
def WidthShowsUptoCardSaid : Prop := Claim7.holds Tryz.pinned (.plain (OpenSpec.upto widthShowsSpec)) widthShowsUptoCard

/-- THE SECOND FORM's CARD OF 'quipulaw07.WidthValues'. -/
def widthValuesUptoCard : Claim7 := { stood := { row := widthValuesUptoRow, standIns := [], harness := (true, "9dbbe79d1d7ccbd3289183deccdda0e9ee4c869afa46f64dc6be913a2d97cc2b"), looks := true }, kinds := [], alts := [], laidByText := true, laidKinds := [.data, .data, .data, .data, .sentinel, .sentinel, .pinned], laidTests := true, laidLooks := .later }
def WidthValuesUptoCardSaid : Prop := Claim7.holds Tryz.pinned (.plain (OpenSpec.upto widthValuesSpec)) widthValuesUptoCard

/-- THE SECOND FORM's CARD OF 'quipulaw07.WidthTrue'. -/
def widthTrueUptoCard : Claim7 := { stood := { row := widthTrueUptoRow, standIns := [], harness := (true, "9dbbe79d1d7ccbd3289183deccdda0e9ee4c869afa46f64dc6be913a2d97cc2b"), looks := true }, kinds := [], alts := [], laidByText := true, laidKinds := [.data, .data, .data, .data, .sentinel, .sentinel, .pinned], laidTests := true, laidLooks := .later }
def WidthTrueUptoCardSaid : Prop := Claim7.holds Tryz.pinned (.plain (OpenSpec.upto widthTrueSpec)) widthTrueUptoCard

/-- THE SECOND FORM's CARD OF 'quipulaw07.WidthCuts'. -/
def widthCutsUptoCard : Claim7 := { stood := { row := widthCutsUptoRow, standIns := [], harness := (true, "9dbbe79d1d7ccbd3289183deccdda0e9ee4c869afa46f64dc6be913a2d97cc2b"), looks := true }, kinds := [], alts := [], laidByText := true, laidKinds := [.data, .data, .data, .data, .sentinel, .sentinel, .pinned], laidTests := true, laidLooks := .later }
def WidthCutsUptoCardSaid : Prop := Claim7.holds Tryz.pinned (.plain (OpenSpec.upto widthCutsSpec)) widthCutsUptoCard

/-- THE SECOND FORM's CARD OF 'quipulaw07.WidthCounts'. -/
def widthCountsUptoCard : Claim7 := { stood := { row := widthCountsUptoRow, standIns := [], harness := (true, "9dbbe79d1d7ccbd3289183deccdda0e9ee4c869afa46f64dc6be913a2d97cc2b"), looks := true }, kinds := [], alts := [], laidByText := true, laidKinds := [.data, .data, .data, .data, .sentinel, .sentinel, .pinned], laidTests := true, laidLooks := .later }
def WidthCountsUptoCardSaid : Prop := Claim7.holds Tryz.pinned (.plain (OpenSpec.upto widthCountsSpec)) widthCountsUptoCard

/-- THE SECOND FORM's CARD OF 'quipulaw07.WidthAgain'. -/
def widthAgainUptoCard : Claim7 := { stood := { row := widthAgainUptoRow, standIns := [], harness := (true, "9dbbe79d1d7ccbd3289183deccdda0e9ee4c869afa46f64dc6be913a2d97cc2b"), looks := true }, kinds := [], alts := [], laidByText := true, laidKinds := [.data, .data, .data, .data, .sentinel, .sentinel, .pinned], laidTests := true, laidLooks := .later }
def WidthAgainUptoCardSaid : Prop := Claim7.holds Tryz.pinned (.plain (OpenSpec.upto widthAgainSpec)) widthAgainUptoCard

/-- THE SECOND FORM's CARD OF 'quipulaw07.WidthMore'. -/
def widthMoreUptoCard : Claim7 := { stood := { row := widthMoreUptoRow, standIns := [], harness := (true, "9dbbe79d1d7ccbd3289183deccdda0e9ee4c869afa46f64dc6be913a2d97cc2b"), looks := true }, kinds := [], alts := [], laidByText := true, laidKinds := [.data, .data, .data, .data, .sentinel, .sentinel, .pinned], laidTests := true, laidLooks := .later }
def WidthMoreUptoCardSaid : Prop := Claim7.holds Tryz.pinned (.plain (OpenSpec.upto widthMoreSpec)) widthMoreUptoCard
end Rows
end Go.Proofs.YtckijnlolmbdiaaGreatDoor
