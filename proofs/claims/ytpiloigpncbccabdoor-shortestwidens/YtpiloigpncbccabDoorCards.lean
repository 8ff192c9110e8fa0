/-
  DERIVED. GIVEN WITH THE SEED: THE CARDS: each row of YtpiloigpncbccabDoorRows.lean that lists a variable, with what it lists TIED to the program's text (the seventh form; the later family's looks); each row that meets fmt, with fmt's text TOLD by the authors' own Lean function (tested against real Go, not proved from fmt's source: count such statements apart). THE CARD IS WHAT COUNTS. Prove the row's statement (the work); the ties are given (YtpiloigpncbccabDoorTie.lean); close each card by the builder's one call (the guide's Derived/Test/ToyasCard.lean, 'card_holds'). Laid BY PROGRAM, IN A SANDBOX (cutbox-door.mjs). By AI agents, Wed Nov 11 2026. No macro, syntax, notation, axiom, sorry.
-/
import Derived.Test.YtpiloigpncbccabDoorRows
import GoSem.ClaimSeven
namespace Go.Proofs.YtpiloigpncbccabDoor
namespace Rows

/-- THE TIED CARD OF 'quipulaw03.ShortestWidens'. -/
def shortestWidensCard : Claim7 := { stood := { row := shortestWidensRow, standIns := [], harness := (true, "a2ad6796344fed5565ba3c573549f761a5e0c1e84fe4c38cd25407cce16e505a"), looks := false }, kinds := [], alts := [], laidByText := true, laidKinds := [.data, .data, .data, .data, .pinned], laidTests := true, laidLooks := .later }
def ShortestWidensCardSaid : Prop := Claim7.holds Tryd.pinned (.plain (OpenSpec.ofChange shortestWidensSpec)) shortestWidensCard

/-- THE SECOND FORM's CARD OF 'quipulaw03.ShortestWidens'. -/
def shortestWidensUptoCard : Claim7 := { stood := { row := shortestWidensUptoRow, standIns := [], harness := (true, "a2ad6796344fed5565ba3c573549f761a5e0c1e84fe4c38cd25407cce16e505a"), looks := false }, kinds := [], alts := [], laidByText := true, laidKinds := [.data, .data, .data, .data, .pinned], laidTests := true, laidLooks := .later }
def ShortestWidensUptoCardSaid : Prop := Claim7.holds Tryd.pinned (.plain (OpenSpec.upto shortestWidensSpec)) shortestWidensUptoCard
end Rows
end Go.Proofs.YtpiloigpncbccabDoor
