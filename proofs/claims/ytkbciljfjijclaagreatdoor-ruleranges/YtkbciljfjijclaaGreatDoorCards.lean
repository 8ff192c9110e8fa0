/-
  DERIVED. GIVEN WITH THE SEED: THE CARDS: each row of YtkbciljfjijclaaGreatDoorRows.lean that lists a variable, with what it lists TIED to the program's text (the seventh form; the later family's looks); each row that meets fmt, with fmt's text TOLD by the authors' own Lean function (tested against real Go, not proved from fmt's source: count such statements apart). THE CARD IS WHAT COUNTS. Prove the row's statement (the work); the ties are given (YtkbciljfjijclaaGreatDoorTie.lean); close each card by the builder's one call (the guide's Derived/Test/ToyasCard.lean, 'card_holds'). Laid BY PROGRAM, IN A SANDBOX (cutbox-door.mjs). By AI agents, Wed Nov 11 2026. No macro, syntax, notation, axiom, sorry.
-/
import Derived.Test.YtkbciljfjijclaaGreatDoorRows
import GoSem.ClaimSeven
namespace Go.Proofs.YtkbciljfjijclaaGreatDoor
namespace Rows

/-- THE TIED CARD OF 'quipulaw05.DecReads'. -/
def decReadsCard : Claim7 := { stood := { row := decReadsRow, standIns := [], harness := (true, "013a2a9fe7901f95d99669196895bb11592ace8a4d7017ab624fabfdd9d6064e"), looks := true }, kinds := [], alts := [], laidByText := true, laidKinds := [.data, .data, .data, .data, .sentinel, .sentinel, .pinned], laidTests := true, laidLooks := .later }
def DecReadsCardSaid : Prop := Claim7.holds Tryz.pinned (.plain (OpenSpec.ofChange decReadsSpec)) decReadsCard

/-- THE TIED CARD OF 'quipulaw07.WidthShows'. -/
def widthShowsCard : Claim7 := { stood := { row := widthShowsRow, standIns := [], harness := (true, "013a2a9fe7901f95d99669196895bb11592ace8a4d7017ab624fabfdd9d6064e"), looks := true }, kinds := [], alts := [], laidByText := true, laidKinds := [.data, .data, .data, .data, .sentinel, .sentinel, .pinned], laidTests := true, laidLooks := .later }
def WidthShowsCardSaid : Prop := Claim7.holds Tryz.pinned (.plain (OpenSpec.ofChange widthShowsSpec)) widthShowsCard

/-- THE TIED CARD OF 'quipulaw09.RulePicks'. -/
def rulePicksCard : Claim7 := { stood := { row := rulePicksRow, standIns := [], harness := (true, "013a2a9fe7901f95d99669196895bb11592ace8a4d7017ab624fabfdd9d6064e"), looks := true }, kinds := [], alts := [], laidByText := true, laidKinds := [.data, .data, .data, .data, .sentinel, .sentinel, .pinned], laidTests := true, laidLooks := .later }
def RulePicksCardSaid : Prop := Claim7.holds Tryz.pinned (.plain (OpenSpec.ofChange rulePicksSpec)) rulePicksCard

/-- THE TIED CARD OF 'quipulaw09.RuleRanges'. -/
def ruleRangesCard : Claim7 := { stood := { row := ruleRangesRow, standIns := [], harness := (true, "013a2a9fe7901f95d99669196895bb11592ace8a4d7017ab624fabfdd9d6064e"), looks := true }, kinds := [], alts := [], laidByText := true, laidKinds := [.data, .data, .data, .data, .sentinel, .sentinel, .pinned], laidTests := true, laidLooks := .later }
def RuleRangesCardSaid : Prop := Claim7.holds Tryz.pinned (.plain (OpenSpec.ofChange ruleRangesSpec)) ruleRangesCard

/-- THE SECOND FORM's CARD OF 'quipulaw05.DecReads'. -/
def decReadsUptoCard : Claim7 := { stood := { row := decReadsUptoRow, standIns := [], harness := (true, "013a2a9fe7901f95d99669196895bb11592ace8a4d7017ab624fabfdd9d6064e"), looks := true }, kinds := [], alts := [], laidByText := true, laidKinds := [.data, .data, .data, .data, .sentinel, .sentinel, .pinned], laidTests := true, laidLooks := .later }
def DecReadsUptoCardSaid : Prop := Claim7.holds Tryz.pinned (.plain (OpenSpec.upto decReadsSpec)) decReadsUptoCard

/-- THE SECOND FORM's CARD OF 'quipulaw07.WidthShows'. -/
def widthShowsUptoCard : Claim7 := { stood := { row := widthShowsUptoRow, standIns := [], harness := (true, "013a2a9fe7901f95d99669196895bb11592ace8a4d7017ab624fabfdd9d6064e"), looks := true }, kinds := [], alts := [], laidByText := true, laidKinds := [.data, .data, .data, .data, .sentinel, .sentinel, .pinned], laidTests := true, laidLooks := .later }
def WidthShowsUptoCardSaid : Prop := Claim7.holds Tryz.pinned (.plain (OpenSpec.upto widthShowsSpec)) widthShowsUptoCard

/-- THE SECOND FORM's CARD OF 'quipulaw09.RulePicks'. -/
def rulePicksUptoCard : Claim7 := { stood := { row := rulePicksUptoRow, standIns := [], harness := (true, "013a2a9fe7901f95d99669196895bb11592ace8a4d7017ab624fabfdd9d6064e"), looks := true }, kinds := [], alts := [], laidByText := true, laidKinds := [.data, .data, .data, .data, .sentinel, .sentinel, .pinned], laidTests := true, laidLooks := .later }
def RulePicksUptoCardSaid : Prop := Claim7.holds Tryz.pinned (.plain (OpenSpec.upto rulePicksSpec)) rulePicksUptoCard

/-- THE SECOND FORM's CARD OF 'quipulaw09.RuleRanges'. -/
def ruleRangesUptoCard : Claim7 := { stood := { row := ruleRangesUptoRow, standIns := [], harness := (true, "013a2a9fe7901f95d99669196895bb11592ace8a4d7017ab624fabfdd9d6064e"), looks := true }, kinds := [], alts := [], laidByText := true, laidKinds := [.data, .data, .data, .data, .sentinel, .sentinel, .pinned], laidTests := true, laidLooks := .later }
def RuleRangesUptoCardSaid : Prop := Claim7.holds Tryz.pinned (.plain (OpenSpec.upto ruleRangesSpec)) ruleRangesUptoCard
end Rows
end Go.Proofs.YtkbciljfjijclaaGreatDoor
