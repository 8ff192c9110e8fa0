/-
  DERIVED. GIVEN WITH THE SEED: THE CARDS: each row of YtpiloigpncbccacGreatDoorRows.lean that lists a variable, with what it lists TIED to the program's text (the seventh form; the later family's looks); each row that meets fmt, with fmt's text TOLD by the authors' own Lean function (tested against real Go, not proved from fmt's source: count such statements apart). THE CARD IS WHAT COUNTS. Prove the row's statement (the work); the ties are given (YtpiloigpncbccacGreatDoorTie.lean); close each card by the builder's one call (the guide's Derived/Test/ToyasCard.lean, 'card_holds'). Laid BY PROGRAM, IN A SANDBOX (cutbox-door.mjs). By AI agents, Wed Nov 11 2026. No macro, syntax, notation, axiom, sorry.
-/
import Derived.Test.YtpiloigpncbccacGreatDoorRows
import GoSem.ClaimSeven
namespace Go.Proofs.YtpiloigpncbccacGreatDoor
namespace Rows

/-- THE TIED CARD OF 'quipulaw04.NearestFewest'. -/
def nearestFewestCard : Claim7 := { stood := { row := nearestFewestRow, standIns := [], harness := (true, "b24c4833cf5078e48c4ceeaa2fd5bbfc9c6041837ec3d939fff916f7f56669e0"), looks := false }, kinds := [], alts := [], laidByText := true, laidKinds := [.data, .data, .data, .data, .pinned], laidTests := true, laidLooks := .later }
def NearestFewestCardSaid : Prop := Claim7.holds Tryz.pinned (.plain (OpenSpec.ofChange nearestFewestSpec)) nearestFewestCard

/-- THE TIED CARD OF 'quipulaw04.NearestRises'. -/
def nearestRisesCard : Claim7 := { stood := { row := nearestRisesRow, standIns := [], harness := (true, "b24c4833cf5078e48c4ceeaa2fd5bbfc9c6041837ec3d939fff916f7f56669e0"), looks := false }, kinds := [], alts := [], laidByText := true, laidKinds := [.data, .data, .data, .data, .pinned], laidTests := true, laidLooks := .later }
def NearestRisesCardSaid : Prop := Claim7.holds Tryz.pinned (.plain (OpenSpec.ofChange nearestRisesSpec)) nearestRisesCard

/-- THE TIED CARD OF 'quipulaw04.NearestBetween'. -/
def nearestBetweenCard : Claim7 := { stood := { row := nearestBetweenRow, standIns := [], harness := (true, "b24c4833cf5078e48c4ceeaa2fd5bbfc9c6041837ec3d939fff916f7f56669e0"), looks := false }, kinds := [], alts := [], laidByText := true, laidKinds := [.data, .data, .data, .data, .pinned], laidTests := true, laidLooks := .later }
def NearestBetweenCardSaid : Prop := Claim7.holds Tryz.pinned (.plain (OpenSpec.ofChange nearestBetweenSpec)) nearestBetweenCard

/-- THE SECOND FORM's CARD OF 'quipulaw04.NearestFewest'. -/
def nearestFewestUptoCard : Claim7 := { stood := { row := nearestFewestUptoRow, standIns := [], harness := (true, "b24c4833cf5078e48c4ceeaa2fd5bbfc9c6041837ec3d939fff916f7f56669e0"), looks := false }, kinds := [], alts := [], laidByText := true, laidKinds := [.data, .data, .data, .data, .pinned], laidTests := true, laidLooks := .later }
def NearestFewestUptoCardSaid : Prop := Claim7.holds Tryz.pinned (.plain (OpenSpec.upto nearestFewestSpec)) nearestFewestUptoCard

/-- THE SECOND FORM's CARD OF 'quipulaw04.NearestRises'. -/
def nearestRisesUptoCard : Claim7 := { stood := { row := nearestRisesUptoRow, standIns := [], harness := (true, "b24c4833cf5078e48c4ceeaa2fd5bbfc9c6041837ec3d939fff916f7f56669e0"), looks := false }, kinds := [], alts := [], laidByText := true, laidKinds := [.data, .data, .data, .data, .pinned], laidTests := true, laidLooks := .later }
def NearestRisesUptoCardSaid : Prop := Claim7.holds Tryz.pinned (.plain (OpenSpec.upto nearestRisesSpec)) nearestRisesUptoCard

/-- THE SECOND FORM's CARD OF 'quipulaw04.NearestBetween'. -/
def nearestBetweenUptoCard : Claim7 := { stood := { row := nearestBetweenUptoRow, standIns := [], harness := (true, "b24c4833cf5078e48c4ceeaa2fd5bbfc9c6041837ec3d939fff916f7f56669e0"), looks := false }, kinds := [], alts := [], laidByText := true, laidKinds := [.data, .data, .data, .data, .pinned], laidTests := true, laidLooks := .later }
def NearestBetweenUptoCardSaid : Prop := Claim7.holds Tryz.pinned (.plain (OpenSpec.upto nearestBetweenSpec)) nearestBetweenUptoCard
end Rows
end Go.Proofs.YtpiloigpncbccacGreatDoor
