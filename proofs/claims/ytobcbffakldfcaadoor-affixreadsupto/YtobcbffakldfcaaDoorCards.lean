/-
  DERIVED. GIVEN WITH THE SEED: THE CARDS: each row of YtobcbffakldfcaaDoorRows.lean that lists a variable, with what it lists TIED to the program's text (the seventh form; the later family's looks); each row that meets fmt, with fmt's text TOLD by the authors' own Lean function (tested against real Go, not proved from fmt's source: count such statements apart). THE CARD IS WHAT COUNTS. Prove the row's statement (the work); the ties are given (YtobcbffakldfcaaDoorTie.lean); close each card by the builder's one call (the guide's Derived/Test/ToyasCard.lean, 'card_holds'). Laid BY PROGRAM, IN A SANDBOX (cutbox-door.mjs). By AI agents, Wed Nov 11 2026. No macro, syntax, notation, axiom, sorry.
-/
import Derived.Test.YtobcbffakldfcaaDoorRows
import GoSem.ClaimSeven
namespace Go.Proofs.YtobcbffakldfcaaDoor
namespace Rows

/-- THE TIED CARD OF 'quipulaw13.AffixTells'. -/
def affixTellsCard : Claim7 := { stood := { row := affixTellsRow, standIns := [], harness := (true, "c579df69e5164ca1d68ecd53f1f55133d0fb1b0a6758b4dcc45731e5b305232f"), looks := false }, kinds := [], alts := [], laidByText := true, laidKinds := [.data, .data, .data, .pinned], laidTests := true, laidLooks := .later }
def AffixTellsCardSaid : Prop := Claim7.holds Tryd.pinned (.plain (OpenSpec.ofChange affixTellsSpec)) affixTellsCard

/-- THE TIED CARD OF 'quipulaw13.AffixReads'. -/
def affixReadsCard : Claim7 := { stood := { row := affixReadsRow, standIns := [], harness := (true, "c579df69e5164ca1d68ecd53f1f55133d0fb1b0a6758b4dcc45731e5b305232f"), looks := false }, kinds := [], alts := [], laidByText := true, laidKinds := [.data, .data, .data, .pinned], laidTests := true, laidLooks := .later }
def AffixReadsCardSaid : Prop := Claim7.holds Tryd.pinned (.plain (OpenSpec.ofChange affixReadsSpec)) affixReadsCard

/-- THE TIED CARD OF 'quipulaw13.AffixBack'. -/
def affixBackCard : Claim7 := { stood := { row := affixBackRow, standIns := [], harness := (true, "c579df69e5164ca1d68ecd53f1f55133d0fb1b0a6758b4dcc45731e5b305232f"), looks := false }, kinds := [], alts := [], laidByText := true, laidKinds := [.data, .data, .data, .pinned], laidTests := true, laidLooks := .later }
def AffixBackCardSaid : Prop := Claim7.holds Tryd.pinned (.plain (OpenSpec.ofChange affixBackSpec)) affixBackCard

/-- THE TIED CARD OF 'quipulaw13.AffixJoins'. -/
def affixJoinsCard : Claim7 := { stood := { row := affixJoinsRow, standIns := [], harness := (true, "c579df69e5164ca1d68ecd53f1f55133d0fb1b0a6758b4dcc45731e5b305232f"), looks := false }, kinds := [], alts := [], laidByText := true, laidKinds := [.data, .data, .data, .pinned], laidTests := true, laidLooks := .later }
def AffixJoinsCardSaid : Prop := Claim7.holds Tryd.pinned (.plain (OpenSpec.ofChange affixJoinsSpec)) affixJoinsCard

/-- THE TIED CARD OF 'quipulaw13.AffixTurns'. -/
def affixTurnsCard : Claim7 := { stood := { row := affixTurnsRow, standIns := [], harness := (true, "c579df69e5164ca1d68ecd53f1f55133d0fb1b0a6758b4dcc45731e5b305232f"), looks := false }, kinds := [], alts := [], laidByText := true, laidKinds := [.data, .data, .data, .pinned], laidTests := true, laidLooks := .later }
def AffixTurnsCardSaid : Prop := Claim7.holds Tryd.pinned (.plain (OpenSpec.ofChange affixTurnsSpec)) affixTurnsCard

/-- THE SECOND FORM's CARD OF 'quipulaw13.AffixTells'. -/
def affixTellsUptoCard : Claim7 := { stood := { row := affixTellsUptoRow, standIns := [], harness := (true, "c579df69e5164ca1d68ecd53f1f55133d0fb1b0a6758b4dcc45731e5b305232f"), looks := false }, kinds := [], alts := [], laidByText := true, laidKinds := [.data, .data, .data, .pinned], laidTests := true, laidLooks := .later }
def AffixTellsUptoCardSaid : Prop := Claim7.holds Tryd.pinned (.plain (OpenSpec.upto affixTellsSpec)) affixTellsUptoCard

/-- THE SECOND FORM's CARD OF 'quipulaw13.AffixReads'. -/
def affixReadsUptoCard : Claim7 := { stood := { row := affixReadsUptoRow, standIns := [], harness := (true, "c579df69e5164ca1d68ecd53f1f55133d0fb1b0a6758b4dcc45731e5b305232f"), looks := false }, kinds := [], alts := [], laidByText := true, laidKinds := [.data, .data, .data, .pinned], laidTests := true, laidLooks := .later }
def AffixReadsUptoCardSaid : Prop := Claim7.holds Tryd.pinned (.plain (OpenSpec.upto affixReadsSpec)) affixReadsUptoCard

/-- THE SECOND FORM's CARD OF 'quipulaw13.AffixBack'. -/
def affixBackUptoCard : Claim7 := { stood := { row := affixBackUptoRow, standIns := [], harness := (true, "c579df69e5164ca1d68ecd53f1f55133d0fb1b0a6758b4dcc45731e5b305232f"), looks := false }, kinds := [], alts := [], laidByText := true, laidKinds := [.data, .data, .data, .pinned], laidTests := true, laidLooks := .later }
def AffixBackUptoCardSaid : Prop := Claim7.holds Tryd.pinned (.plain (OpenSpec.upto affixBackSpec)) affixBackUptoCard

/-- THE SECOND FORM's CARD OF 'quipulaw13.AffixJoins'. -/
def affixJoinsUptoCard : Claim7 := { stood := { row := affixJoinsUptoRow, standIns := [], harness := (true, "c579df69e5164ca1d68ecd53f1f55133d0fb1b0a6758b4dcc45731e5b305232f"), looks := false }, kinds := [], alts := [], laidByText := true, laidKinds := [.data, .data, .data, .pinned], laidTests := true, laidLooks := .later }
def AffixJoinsUptoCardSaid : Prop := Claim7.holds Tryd.pinned (.plain (OpenSpec.upto affixJoinsSpec)) affixJoinsUptoCard

/-- THE SECOND FORM's CARD OF 'quipulaw13.AffixTurns'. -/
def affixTurnsUptoCard : Claim7 := { stood := { row := affixTurnsUptoRow, standIns := [], harness := (true, "c579df69e5164ca1d68ecd53f1f55133d0fb1b0a6758b4dcc45731e5b305232f"), looks := false }, kinds := [], alts := [], laidByText := true, laidKinds := [.data, .data, .data, .pinned], laidTests := true, laidLooks := .later }
def AffixTurnsUptoCardSaid : Prop := Claim7.holds Tryd.pinned (.plain (OpenSpec.upto affixTurnsSpec)) affixTurnsUptoCard
end Rows
end Go.Proofs.YtobcbffakldfcaaDoor
