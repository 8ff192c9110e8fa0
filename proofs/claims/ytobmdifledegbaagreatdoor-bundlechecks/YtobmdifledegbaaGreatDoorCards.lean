/-
  DERIVED. GIVEN WITH THE SEED: THE CARDS: each row of YtobmdifledegbaaGreatDoorRows.lean that lists a variable, with what it lists TIED to the program's text (the seventh form; the later family's looks); each row that meets fmt, with fmt's text TOLD by the authors' own Lean function (tested against real Go, not proved from fmt's source: count such statements apart). THE CARD IS WHAT COUNTS. Prove the row's statement (the work); the ties are given (YtobmdifledegbaaGreatDoorTie.lean); close each card by the builder's one call (the guide's Derived/Test/ToyasCard.lean, 'card_holds'). Laid BY PROGRAM, IN A SANDBOX (cutbox-door.mjs). By AI agents, Wed Nov 11 2026. No macro, syntax, notation, axiom, sorry.
-/
import Derived.Test.YtobmdifledegbaaGreatDoorRows
import GoSem.ClaimSeven
namespace Go.Proofs.YtobmdifledegbaaGreatDoor
namespace Rows

/-- THE TIED CARD OF 'quipulaw12.BundleChecks'. -/
def bundleChecksCard : Claim7 := { stood := { row := bundleChecksRow, standIns := [], harness := (true, "b0977db80395a645f5b8c9d34d09544b04c770e4377f66e2d663d049f441e463"), looks := true }, kinds := [], alts := [], laidByText := true, laidKinds := [.data, .pinned], laidTests := true, laidLooks := .later }
def BundleChecksCardSaid : Prop := Claim7.holds Tryz.pinned (.plain (OpenSpec.ofChange bundleChecksSpec)) bundleChecksCard

/-- THE TIED CARD OF 'quipulaw12.BundleReads'. -/
def bundleReadsCard : Claim7 := { stood := { row := bundleReadsRow, standIns := [], harness := (true, "b0977db80395a645f5b8c9d34d09544b04c770e4377f66e2d663d049f441e463"), looks := true }, kinds := [], alts := [], laidByText := true, laidKinds := [.data, .pinned], laidTests := true, laidLooks := .later }
def BundleReadsCardSaid : Prop := Claim7.holds Tryz.pinned (.plain (OpenSpec.ofChange bundleReadsSpec)) bundleReadsCard

/-- THE TIED CARD OF 'quipulaw12.BundleFinds'. -/
def bundleFindsCard : Claim7 := { stood := { row := bundleFindsRow, standIns := [], harness := (true, "b0977db80395a645f5b8c9d34d09544b04c770e4377f66e2d663d049f441e463"), looks := true }, kinds := [], alts := [], laidByText := true, laidKinds := [.data, .pinned], laidTests := true, laidLooks := .later }
def BundleFindsCardSaid : Prop := Claim7.holds Tryz.pinned (.plain (OpenSpec.ofChange bundleFindsSpec)) bundleFindsCard

/-- THE SECOND FORM's CARD OF 'quipulaw12.BundleChecks'. -/
def bundleChecksUptoCard : Claim7 := { stood := { row := bundleChecksUptoRow, standIns := [], harness := (true, "b0977db80395a645f5b8c9d34d09544b04c770e4377f66e2d663d049f441e463"), looks := true }, kinds := [], alts := [], laidByText := true, laidKinds := [.data, .pinned], laidTests := true, laidLooks := .later }
def BundleChecksUptoCardSaid : Prop := Claim7.holds Tryz.pinned (.plain (OpenSpec.upto bundleChecksSpec)) bundleChecksUptoCard

/-- THE SECOND FORM's CARD OF 'quipulaw12.BundleReads'. -/
def bundleReadsUptoCard : Claim7 := { stood := { row := bundleReadsUptoRow, standIns := [], harness := (true, "b0977db80395a645f5b8c9d34d09544b04c770e4377f66e2d663d049f441e463"), looks := true }, kinds := [], alts := [], laidByText := true, laidKinds := [.data, .pinned], laidTests := true, laidLooks := .later }
def BundleReadsUptoCardSaid : Prop := Claim7.holds Tryz.pinned (.plain (OpenSpec.upto bundleReadsSpec)) bundleReadsUptoCard

/-- THE SECOND FORM's CARD OF 'quipulaw12.BundleFinds'. -/
def bundleFindsUptoCard : Claim7 := { stood := { row := bundleFindsUptoRow, standIns := [], harness := (true, "b0977db80395a645f5b8c9d34d09544b04c770e4377f66e2d663d049f441e463"), looks := true }, kinds := [], alts := [], laidByText := true, laidKinds := [.data, .pinned], laidTests := true, laidLooks := .later }
def BundleFindsUptoCardSaid : Prop := Claim7.holds Tryz.pinned (.plain (OpenSpec.upto bundleFindsSpec)) bundleFindsUptoCard
end Rows
end Go.Proofs.YtobmdifledegbaaGreatDoor
