/-
  DERIVED. GIVEN WITH THE SEED: THE CARDS: each row of YtkgapklhgkngnaaDoorRows.lean that lists a variable, with what it lists TIED to the program's text (the seventh form; the later family's looks); each row that meets fmt, with fmt's text TOLD by the authors' own Lean function (tested against real Go, not proved from fmt's source: count such statements apart). THE CARD IS WHAT COUNTS. Prove the row's statement (the work); the ties are given (YtkgapklhgkngnaaDoorTie.lean); close each card by the builder's one call (the guide's Derived/Test/ToyasCard.lean, 'card_holds'). Laid BY PROGRAM, IN A SANDBOX (cutbox-door.mjs). By AI agents, Wed Nov 11 2026. No macro, syntax, notation, axiom, sorry.
-/
import Derived.Test.YtkgapklhgkngnaaDoorRows
import GoSem.ClaimSeven
namespace Go.Proofs.YtkgapklhgkngnaaDoor
namespace Rows

/-- THE TIED CARD OF 'quipulaw17.FieldsBuilds'. -/
def fieldsBuildsCard : Claim7 := { stood := { row := fieldsBuildsRow, standIns := [], harness := (true, "975607a0c857e55e64edd6c908bb0cda62657eb3edbd580f359b1267c3b0944a"), looks := true }, kinds := [], alts := [], laidByText := true, laidKinds := [.data, .pinned], laidTests := true, laidLooks := .later }
def FieldsBuildsCardSaid : Prop := Claim7.holds Tryd.pinned (.plain (OpenSpec.ofChange fieldsBuildsSpec)) fieldsBuildsCard

/-- THE TIED CARD OF 'quipulaw17.FieldsWraps'. -/
def fieldsWrapsCard : Claim7 := { stood := { row := fieldsWrapsRow, standIns := [], harness := (true, "975607a0c857e55e64edd6c908bb0cda62657eb3edbd580f359b1267c3b0944a"), looks := true }, kinds := [], alts := [], laidByText := true, laidKinds := [.data, .pinned], laidTests := true, laidLooks := .later }
def FieldsWrapsCardSaid : Prop := Claim7.holds Tryd.pinned (.plain (OpenSpec.ofChange fieldsWrapsSpec)) fieldsWrapsCard

/-- THE TIED CARD OF 'quipulaw17.FieldsLeaves'. -/
def fieldsLeavesCard : Claim7 := { stood := { row := fieldsLeavesRow, standIns := [], harness := (true, "975607a0c857e55e64edd6c908bb0cda62657eb3edbd580f359b1267c3b0944a"), looks := true }, kinds := [], alts := [], laidByText := true, laidKinds := [.data, .pinned], laidTests := true, laidLooks := .later }
def FieldsLeavesCardSaid : Prop := Claim7.holds Tryd.pinned (.plain (OpenSpec.ofChange fieldsLeavesSpec)) fieldsLeavesCard

/-- THE TIED CARD OF 'quipulaw17.FieldsCover'. -/
def fieldsCoverCard : Claim7 := { stood := { row := fieldsCoverRow, standIns := [], harness := (true, "975607a0c857e55e64edd6c908bb0cda62657eb3edbd580f359b1267c3b0944a"), looks := true }, kinds := [], alts := [], laidByText := true, laidKinds := [.data, .pinned], laidTests := true, laidLooks := .later }
def FieldsCoverCardSaid : Prop := Claim7.holds Tryd.pinned (.plain (OpenSpec.ofChange fieldsCoverSpec)) fieldsCoverCard

/-- THE TIED CARD OF 'quipulaw17.FieldsTrue'. -/
def fieldsTrueCard : Claim7 := { stood := { row := fieldsTrueRow, standIns := [], harness := (true, "975607a0c857e55e64edd6c908bb0cda62657eb3edbd580f359b1267c3b0944a"), looks := true }, kinds := [], alts := [], laidByText := true, laidKinds := [.data, .pinned], laidTests := true, laidLooks := .later }
def FieldsTrueCardSaid : Prop := Claim7.holds Tryd.pinned (.plain (OpenSpec.ofChange fieldsTrueSpec)) fieldsTrueCard

/-- THE SECOND FORM's CARD OF 'quipulaw17.FieldsBuilds'. -/
def fieldsBuildsUptoCard : Claim7 := { stood := { row := fieldsBuildsUptoRow, standIns := [], harness := (true, "975607a0c857e55e64edd6c908bb0cda62657eb3edbd580f359b1267c3b0944a"), looks := true }, kinds := [], alts := [], laidByText := true, laidKinds := [.data, .pinned], laidTests := true, laidLooks := .later }
def FieldsBuildsUptoCardSaid : Prop := Claim7.holds Tryd.pinned (.plain (OpenSpec.upto fieldsBuildsSpec)) fieldsBuildsUptoCard

/-- THE SECOND FORM's CARD OF 'quipulaw17.FieldsWraps'. -/
def fieldsWrapsUptoCard : Claim7 := { stood := { row := fieldsWrapsUptoRow, standIns := [], harness := (true, "975607a0c857e55e64edd6c908bb0cda62657eb3edbd580f359b1267c3b0944a"), looks := true }, kinds := [], alts := [], laidByText := true, laidKinds := [.data, .pinned], laidTests := true, laidLooks := .later }
def FieldsWrapsUptoCardSaid : Prop := Claim7.holds Tryd.pinned (.plain (OpenSpec.upto fieldsWrapsSpec)) fieldsWrapsUptoCard

/-- THE SECOND FORM's CARD OF 'quipulaw17.FieldsLeaves'. -/
def fieldsLeavesUptoCard : Claim7 := { stood := { row := fieldsLeavesUptoRow, standIns := [], harness := (true, "975607a0c857e55e64edd6c908bb0cda62657eb3edbd580f359b1267c3b0944a"), looks := true }, kinds := [], alts := [], laidByText := true, laidKinds := [.data, .pinned], laidTests := true, laidLooks := .later }
def FieldsLeavesUptoCardSaid : Prop := Claim7.holds Tryd.pinned (.plain (OpenSpec.upto fieldsLeavesSpec)) fieldsLeavesUptoCard

/-- THE SECOND FORM's CARD OF 'quipulaw17.FieldsCover'. -/
def fieldsCoverUptoCard : Claim7 := { stood := { row := fieldsCoverUptoRow, standIns := [], harness := (true, "975607a0c857e55e64edd6c908bb0cda62657eb3edbd580f359b1267c3b0944a"), looks := true }, kinds := [], alts := [], laidByText := true, laidKinds := [.data, .pinned], laidTests := true, laidLooks := .later }
def FieldsCoverUptoCardSaid : Prop := Claim7.holds Tryd.pinned (.plain (OpenSpec.upto fieldsCoverSpec)) fieldsCoverUptoCard

/-- THE SECOND FORM's CARD OF 'quipulaw17.FieldsTrue'. -/
def fieldsTrueUptoCard : Claim7 := { stood := { row := fieldsTrueUptoRow, standIns := [], harness := (true, "975607a0c857e55e64edd6c908bb0cda62657eb3edbd580f359b1267c3b0944a"), looks := true }, kinds := [], alts := [], laidByText := true, laidKinds := [.data, .pinned], laidTests := true, laidLooks := .later }
def FieldsTrueUptoCardSaid : Prop := Claim7.holds Tryd.pinned (.plain (OpenSpec.upto fieldsTrueSpec)) fieldsTrueUptoCard
end Rows
end Go.Proofs.YtkgapklhgkngnaaDoor
