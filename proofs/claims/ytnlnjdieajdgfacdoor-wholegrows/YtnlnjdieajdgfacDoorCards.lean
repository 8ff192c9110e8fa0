/-
  DERIVED. GIVEN WITH THE SEED: THE CARDS: each row of YtnlnjdieajdgfacDoorRows.lean that lists a variable, with what it lists TIED to the program's text (the seventh form; the later family's looks); each row that meets fmt, with fmt's text TOLD by the authors' own Lean function (tested against real Go, not proved from fmt's source: count such statements apart). THE CARD IS WHAT COUNTS. Prove the row's statement (the work); the ties are given (YtnlnjdieajdgfacDoorTie.lean); close each card by the builder's one call (the guide's Derived/Test/ToyasCard.lean, 'card_holds'). Laid BY PROGRAM, IN A SANDBOX (cutbox-door.mjs). By AI agents, Wed Nov 11 2026. No macro, syntax, notation, axiom, sorry.
-/
import Derived.Test.YtnlnjdieajdgfacDoorRows
import GoSem.ClaimSeven
namespace Go.Proofs.YtnlnjdieajdgfacDoor
namespace Rows

/-- THE TIED CARD OF 'quipulaw02.WholeGrows'. -/
def wholeGrowsCard : Claim7 := { stood := { row := wholeGrowsRow, standIns := [], harness := (true, "409ec0bc3dabf2efd2e41cd3491775acb4b9ed8f487a5b05b1012b54fef70983"), looks := false }, kinds := [], alts := [], laidByText := true, laidKinds := [.data, .data, .data], laidTests := true, laidLooks := .later }
def WholeGrowsCardSaid : Prop := Claim7.holds Tryd.pinned (.plain (OpenSpec.ofChange wholeGrowsSpec)) wholeGrowsCard

/-- THE SECOND FORM's CARD OF 'quipulaw02.WholeGrows'. -/
def wholeGrowsUptoCard : Claim7 := { stood := { row := wholeGrowsUptoRow, standIns := [], harness := (true, "409ec0bc3dabf2efd2e41cd3491775acb4b9ed8f487a5b05b1012b54fef70983"), looks := false }, kinds := [], alts := [], laidByText := true, laidKinds := [.data, .data, .data], laidTests := true, laidLooks := .later }
def WholeGrowsUptoCardSaid : Prop := Claim7.holds Tryd.pinned (.plain (OpenSpec.upto wholeGrowsSpec)) wholeGrowsUptoCard
end Rows
end Go.Proofs.YtnlnjdieajdgfacDoor
