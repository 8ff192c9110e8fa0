/-
  DERIVED. GIVEN WITH THE SEED: THE CARDS: each row of YtpeoigipjcdpjaaDoorRows.lean that lists a variable, with what it lists TIED to the program's text (the seventh form; the later family's looks); each row that meets fmt, with fmt's text TOLD by the authors' own Lean function (tested against real Go, not proved from fmt's source: count such statements apart). THE CARD IS WHAT COUNTS. Prove the row's statement (the work); the ties are given (YtpeoigipjcdpjaaDoorTie.lean); close each card by the builder's one call (the guide's Derived/Test/ToyasCard.lean, 'card_holds'). Laid BY PROGRAM, IN A SANDBOX (cutbox-door.mjs). By AI agents, Wed Nov 11 2026. No macro, syntax, notation, axiom, sorry.
-/
import Derived.Test.YtpeoigipjcdpjaaDoorRows
import GoSem.ClaimSeven
namespace Go.Proofs.YtpeoigipjcdpjaaDoor
namespace Rows

/-- THE TIED CARD OF 'quipulaw12.BundleBack'. -/
def bundleBackCard : Claim7 := { stood := { row := bundleBackRow, standIns := [], harness := (true, "d06da71b4d42619bbbc8899408a305944ee827ef628eb9ead67d9297a6ec7c77"), looks := true }, kinds := [], alts := [], laidByText := true, laidKinds := [.data, .pinned], laidTests := true, laidLooks := .later }
def BundleBackCardSaid : Prop := Claim7.holds Tryd.pinned (.plain (OpenSpec.ofChange bundleBackSpec)) bundleBackCard

/-- THE TIED CARD OF 'quipulaw12.BundleHides'. -/
def bundleHidesCard : Claim7 := { stood := { row := bundleHidesRow, standIns := [], harness := (true, "d06da71b4d42619bbbc8899408a305944ee827ef628eb9ead67d9297a6ec7c77"), looks := true }, kinds := [], alts := [], laidByText := true, laidKinds := [.data, .pinned], laidTests := true, laidLooks := .later }
def BundleHidesCardSaid : Prop := Claim7.holds Tryd.pinned (.plain (OpenSpec.ofChange bundleHidesSpec)) bundleHidesCard

/-- THE TIED CARD OF 'quipulaw12.BundleApart'. -/
def bundleApartCard : Claim7 := { stood := { row := bundleApartRow, standIns := [], harness := (true, "d06da71b4d42619bbbc8899408a305944ee827ef628eb9ead67d9297a6ec7c77"), looks := true }, kinds := [], alts := [], laidByText := true, laidKinds := [.data, .pinned], laidTests := true, laidLooks := .later }
def BundleApartCardSaid : Prop := Claim7.holds Tryd.pinned (.plain (OpenSpec.ofChange bundleApartSpec)) bundleApartCard

/-- THE SECOND FORM's CARD OF 'quipulaw12.BundleBack'. -/
def bundleBackUptoCard : Claim7 := { stood := { row := bundleBackUptoRow, standIns := [], harness := (true, "d06da71b4d42619bbbc8899408a305944ee827ef628eb9ead67d9297a6ec7c77"), looks := true }, kinds := [], alts := [], laidByText := true, laidKinds := [.data, .pinned], laidTests := true, laidLooks := .later }
def BundleBackUptoCardSaid : Prop := Claim7.holds Tryd.pinned (.plain (OpenSpec.upto bundleBackSpec)) bundleBackUptoCard

/-- THE SECOND FORM's CARD OF 'quipulaw12.BundleHides'. -/
def bundleHidesUptoCard : Claim7 := { stood := { row := bundleHidesUptoRow, standIns := [], harness := (true, "d06da71b4d42619bbbc8899408a305944ee827ef628eb9ead67d9297a6ec7c77"), looks := true }, kinds := [], alts := [], laidByText := true, laidKinds := [.data, .pinned], laidTests := true, laidLooks := .later }
def BundleHidesUptoCardSaid : Prop := Claim7.holds Tryd.pinned (.plain (OpenSpec.upto bundleHidesSpec)) bundleHidesUptoCard

/-- THE SECOND FORM's CARD OF 'quipulaw12.BundleApart'. -/
def bundleApartUptoCard : Claim7 := { stood := { row := bundleApartUptoRow, standIns := [], harness := (true, "d06da71b4d42619bbbc8899408a305944ee827ef628eb9ead67d9297a6ec7c77"), looks := true }, kinds := [], alts := [], laidByText := true, laidKinds := [.data, .pinned], laidTests := true, laidLooks := .later }
def BundleApartUptoCardSaid : Prop := Claim7.holds Tryd.pinned (.plain (OpenSpec.upto bundleApartSpec)) bundleApartUptoCard
end Rows
end Go.Proofs.YtpeoigipjcdpjaaDoor
