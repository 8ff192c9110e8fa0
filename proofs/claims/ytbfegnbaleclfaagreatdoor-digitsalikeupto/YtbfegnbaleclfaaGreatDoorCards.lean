/-
  DERIVED. GIVEN WITH THE SEED: THE CARDS: each row of YtbfegnbaleclfaaGreatDoorRows.lean that lists a variable, with what it lists TIED to the program's text (the seventh form; the later family's looks); each row that meets fmt, with fmt's text TOLD by the authors' own Lean function (tested against real Go, not proved from fmt's source: count such statements apart). THE CARD IS WHAT COUNTS. Prove the row's statement (the work); the ties are given (YtbfegnbaleclfaaGreatDoorTie.lean); close each card by the builder's one call (the guide's Derived/Test/ToyasCard.lean, 'card_holds'). Laid BY PROGRAM, IN A SANDBOX (cutbox-door.mjs). By AI agents, Wed Nov 11 2026. No macro, syntax, notation, axiom, sorry.
-/
import Derived.Test.YtbfegnbaleclfaaGreatDoorRows
import GoSem.ClaimSeven
namespace Go.Proofs.YtbfegnbaleclfaaGreatDoor
namespace Rows

/-- THE TIED CARD OF 'quipulaw16.DigitsAlike'. -/
def digitsAlikeCard : Claim7 := { stood := { row := digitsAlikeRow, standIns := [], harness := (true, "3b05f7f726bc84db8d9a5f2030d730951b474fca9ea92ef5193ac779581dee64"), looks := true }, kinds := [], alts := [], laidByText := true, laidKinds := [.data, .data, .data, .data, .sentinel, .sentinel, .pinned], laidTests := true, laidLooks := .later }
def DigitsAlikeCardSaid : Prop := Claim7.holds Tryz.pinned (.plain (OpenSpec.ofChange digitsAlikeSpec)) digitsAlikeCard

/-- THE SECOND FORM's CARD OF 'quipulaw16.DigitsAlike'. -/
def digitsAlikeUptoCard : Claim7 := { stood := { row := digitsAlikeUptoRow, standIns := [], harness := (true, "3b05f7f726bc84db8d9a5f2030d730951b474fca9ea92ef5193ac779581dee64"), looks := true }, kinds := [], alts := [], laidByText := true, laidKinds := [.data, .data, .data, .data, .sentinel, .sentinel, .pinned], laidTests := true, laidLooks := .later }
def DigitsAlikeUptoCardSaid : Prop := Claim7.holds Tryz.pinned (.plain (OpenSpec.upto digitsAlikeSpec)) digitsAlikeUptoCard
end Rows
end Go.Proofs.YtbfegnbaleclfaaGreatDoor
