/-
  DERIVED. GIVEN WITH THE SEED: THE CARDS: each row of YtobmdifledegbaaDoorRows.lean that lists a variable, with what it lists TIED to the program's text (the seventh form; the later family's looks); each row that meets fmt, with fmt's text TOLD by the authors' own Lean function (tested against real Go, not proved from fmt's source: count such statements apart). THE CARD IS WHAT COUNTS. Prove the row's statement (the work); the ties are given (YtobmdifledegbaaDoorTie.lean); close each card by the builder's one call (the guide's Derived/Test/ToyasCard.lean, 'card_holds'). Laid BY PROGRAM, IN A SANDBOX (cutbox-door.mjs). By AI agents, Wed Nov 11 2026. No macro, syntax, notation, axiom, sorry.
-/
import Derived.Test.YtobmdifledegbaaDoorRows
import GoSem.ClaimSeven
namespace Go.Proofs.YtobmdifledegbaaDoor
namespace Rows

/-- THE TIED CARD OF 'quipulaw12.BundleApart'. -/
def bundleApartCard : Claim7 := { stood := { row := bundleApartRow, standIns := [], harness := (true, "9d4b046fed0c8fabd52681dcba5bfd7adb4293b8c0df9dd79af4e7ce6b04acb9"), looks := true }, kinds := [], alts := [], laidByText := true, laidKinds := [.data, .pinned], laidTests := true, laidLooks := .later }
def BundleApartCardSaid : Prop := Claim7.holds Tryd.pinned (.plain (OpenSpec.ofChange bundleApartSpec)) bundleApartCard

/-- THE SECOND FORM's CARD OF 'quipulaw12.BundleApart'. -/
def bundleApartUptoCard : Claim7 := { stood := { row := bundleApartUptoRow, standIns := [], harness := (true, "9d4b046fed0c8fabd52681dcba5bfd7adb4293b8c0df9dd79af4e7ce6b04acb9"), looks := true }, kinds := [], alts := [], laidByText := true, laidKinds := [.data, .pinned], laidTests := true, laidLooks := .later }
def BundleApartUptoCardSaid : Prop := Claim7.holds Tryd.pinned (.plain (OpenSpec.upto bundleApartSpec)) bundleApartUptoCard
end Rows
end Go.Proofs.YtobmdifledegbaaDoor
