/-
  DERIVED. GIVEN WITH THE SEED: THE CARDS: each row of YthknmkebdlnahaaDoorRows.lean that lists a variable, with what it lists TIED to the program's text (the seventh form; the later family's looks); each row that meets fmt, with fmt's text TOLD by the authors' own Lean function (tested against real Go, not proved from fmt's source: count such statements apart). THE CARD IS WHAT COUNTS. Prove the row's statement (the work); the ties are given (YthknmkebdlnahaaDoorTie.lean); close each card by the builder's one call (the guide's Derived/Test/ToyasCard.lean, 'card_holds'). Laid BY PROGRAM, IN A SANDBOX (cutbox-door.mjs). By AI agents, Wed Nov 11 2026. No macro, syntax, notation, axiom, sorry.
-/
import Derived.Test.YthknmkebdlnahaaDoorRows
import GoSem.ClaimSeven
namespace Go.Proofs.YthknmkebdlnahaaDoor
namespace Rows

/-- THE TIED CARD OF 'quipulaw11.CursorLays'. -/
def cursorLaysCard : Claim7 := { stood := { row := cursorLaysRow, standIns := [], harness := (true, "0953d8c7ef9c6f700342ad21dd6edbac4c33efa1dbe9aa7dc9ea399d126b4702"), looks := true }, kinds := [], alts := [], laidByText := true, laidKinds := [.data, .pinned], laidTests := true, laidLooks := .later }
def CursorLaysCardSaid : Prop := Claim7.holds Tryd.pinned (.plain (OpenSpec.ofChange cursorLaysSpec)) cursorLaysCard

/-- THE TIED CARD OF 'quipulaw11.CursorRunes'. -/
def cursorRunesCard : Claim7 := { stood := { row := cursorRunesRow, standIns := [], harness := (true, "0953d8c7ef9c6f700342ad21dd6edbac4c33efa1dbe9aa7dc9ea399d126b4702"), looks := true }, kinds := [], alts := [], laidByText := true, laidKinds := [.data, .pinned], laidTests := true, laidLooks := .later }
def CursorRunesCardSaid : Prop := Claim7.holds Tryd.pinned (.plain (OpenSpec.ofChange cursorRunesSpec)) cursorRunesCard

/-- THE TIED CARD OF 'quipulaw11.CursorBack'. -/
def cursorBackCard : Claim7 := { stood := { row := cursorBackRow, standIns := [], harness := (true, "0953d8c7ef9c6f700342ad21dd6edbac4c33efa1dbe9aa7dc9ea399d126b4702"), looks := true }, kinds := [], alts := [], laidByText := true, laidKinds := [.data, .pinned], laidTests := true, laidLooks := .later }
def CursorBackCardSaid : Prop := Claim7.holds Tryd.pinned (.plain (OpenSpec.ofChange cursorBackSpec)) cursorBackCard

/-- THE TIED CARD OF 'quipulaw11.CursorOnce'. -/
def cursorOnceCard : Claim7 := { stood := { row := cursorOnceRow, standIns := [], harness := (true, "0953d8c7ef9c6f700342ad21dd6edbac4c33efa1dbe9aa7dc9ea399d126b4702"), looks := true }, kinds := [], alts := [], laidByText := true, laidKinds := [.data, .pinned], laidTests := true, laidLooks := .later }
def CursorOnceCardSaid : Prop := Claim7.holds Tryd.pinned (.plain (OpenSpec.ofChange cursorOnceSpec)) cursorOnceCard

/-- THE TIED CARD OF 'quipulaw11.CursorJoins'. -/
def cursorJoinsCard : Claim7 := { stood := { row := cursorJoinsRow, standIns := [], harness := (true, "0953d8c7ef9c6f700342ad21dd6edbac4c33efa1dbe9aa7dc9ea399d126b4702"), looks := true }, kinds := [], alts := [], laidByText := true, laidKinds := [.data, .pinned], laidTests := true, laidLooks := .later }
def CursorJoinsCardSaid : Prop := Claim7.holds Tryd.pinned (.plain (OpenSpec.ofChange cursorJoinsSpec)) cursorJoinsCard

/-- THE SECOND FORM's CARD OF 'quipulaw11.CursorLays'. -/
def cursorLaysUptoCard : Claim7 := { stood := { row := cursorLaysUptoRow, standIns := [], harness := (true, "0953d8c7ef9c6f700342ad21dd6edbac4c33efa1dbe9aa7dc9ea399d126b4702"), looks := true }, kinds := [], alts := [], laidByText := true, laidKinds := [.data, .pinned], laidTests := true, laidLooks := .later }
def CursorLaysUptoCardSaid : Prop := Claim7.holds Tryd.pinned (.plain (OpenSpec.upto cursorLaysSpec)) cursorLaysUptoCard

/-- THE SECOND FORM's CARD OF 'quipulaw11.CursorRunes'. -/
def cursorRunesUptoCard : Claim7 := { stood := { row := cursorRunesUptoRow, standIns := [], harness := (true, "0953d8c7ef9c6f700342ad21dd6edbac4c33efa1dbe9aa7dc9ea399d126b4702"), looks := true }, kinds := [], alts := [], laidByText := true, laidKinds := [.data, .pinned], laidTests := true, laidLooks := .later }
def CursorRunesUptoCardSaid : Prop := Claim7.holds Tryd.pinned (.plain (OpenSpec.upto cursorRunesSpec)) cursorRunesUptoCard

/-- THE SECOND FORM's CARD OF 'quipulaw11.CursorBack'. -/
def cursorBackUptoCard : Claim7 := { stood := { row := cursorBackUptoRow, standIns := [], harness := (true, "0953d8c7ef9c6f700342ad21dd6edbac4c33efa1dbe9aa7dc9ea399d126b4702"), looks := true }, kinds := [], alts := [], laidByText := true, laidKinds := [.data, .pinned], laidTests := true, laidLooks := .later }
def CursorBackUptoCardSaid : Prop := Claim7.holds Tryd.pinned (.plain (OpenSpec.upto cursorBackSpec)) cursorBackUptoCard

/-- THE SECOND FORM's CARD OF 'quipulaw11.CursorOnce'. -/
def cursorOnceUptoCard : Claim7 := { stood := { row := cursorOnceUptoRow, standIns := [], harness := (true, "0953d8c7ef9c6f700342ad21dd6edbac4c33efa1dbe9aa7dc9ea399d126b4702"), looks := true }, kinds := [], alts := [], laidByText := true, laidKinds := [.data, .pinned], laidTests := true, laidLooks := .later }
def CursorOnceUptoCardSaid : Prop := Claim7.holds Tryd.pinned (.plain (OpenSpec.upto cursorOnceSpec)) cursorOnceUptoCard

/-- THE SECOND FORM's CARD OF 'quipulaw11.CursorJoins'. -/
def cursorJoinsUptoCard : Claim7 := { stood := { row := cursorJoinsUptoRow, standIns := [], harness := (true, "0953d8c7ef9c6f700342ad21dd6edbac4c33efa1dbe9aa7dc9ea399d126b4702"), looks := true }, kinds := [], alts := [], laidByText := true, laidKinds := [.data, .pinned], laidTests := true, laidLooks := .later }
def CursorJoinsUptoCardSaid : Prop := Claim7.holds Tryd.pinned (.plain (OpenSpec.upto cursorJoinsSpec)) cursorJoinsUptoCard
end Rows
end Go.Proofs.YthknmkebdlnahaaDoor
