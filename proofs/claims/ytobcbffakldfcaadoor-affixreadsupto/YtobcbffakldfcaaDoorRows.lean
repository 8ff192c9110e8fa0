/-
  NARROWER THAN 'FOR EVERY INPUT', by the rows' own cells (each row's printed sentence says how): AffixTells: laid · AffixReads: laid · AffixBack: laid · AffixJoins: laid · AffixTurns: laid.
  DERIVED. THE GIVEN ROWS OF THIS SEAT. 5 by the template 'for every input the law returns true; each argument reads behind the call as it read before'; 0 by the template 'total and deterministic' (their statements: YtobcbffakldfcaaDoorTotals.lean).
  GIVEN WITH THE SEED: the statements are not yours to turn. If you find one false, say at which input.
  Laid BY PROGRAM, IN A SANDBOX (cutbox-rows.mjs): the forced cells as the released guide's own fill.sh prints them over the translation f161bae9e73ccbae… (all of the seat's roots in one cut). By AI agents, Wed Nov 11 2026. No macro, syntax, notation, axiom, sorry.
-/
import Derived.Test.YtobcbffakldfcaaDoorChecked
import GoSem.PinnedTables
import GoSem.Claim
import GoSem.ClaimJoined
import GoSem.ClaimMapViews
import Derived.JoinedTies
import Derived.KernelRfl
namespace Go.Proofs.YtobcbffakldfcaaDoor
/- THE CELL 'sum', in the pinned program and in every row, IS THE sha256 OF THE DUMP (.gsa) THAT YtobcbffakldfcaaDoorProg.lean LOADS. Nothing in Lean hashes anything: it is a label: what it is worth is what the hold of that sum in a sandbox is worth. -/
noncomputable def Tryd.pinned : Pinned := { name := "ytobcbffakldfcaadoor", sum := "f161bae9e73ccbaea7e51d683280a6f945c5a6d6e43b0a0760fc4f5a3fe710e3", checked := Tryd.checked }
namespace Rows
def none {H : Type} : Left H := { results := [], args := [] }

/- WHAT THE LISTED PACKAGE-LEVEL VARIABLES READ AS WHEN THE CALL BEGINS. Each datum BY PROGRAM (the guide's laid-datum.mjs) off the statement by which the dump's own 'gosem.cut.vars' lays the variable. In a bare row this is a premise. The card (YtobcbffakldfcaaDoorCards.lean) ties it to the program's text. -/
def laid_unicode_utf8_acceptRanges {H : Type} : DataW H := .agg [.agg [.lit (.int .u8 128), .lit (.int .u8 191)], .agg [.lit (.int .u8 160), .lit (.int .u8 191)], .agg [.lit (.int .u8 128), .lit (.int .u8 159)], .agg [.lit (.int .u8 144), .lit (.int .u8 191)], .agg [.lit (.int .u8 128), .lit (.int .u8 143)], .agg [.lit (.int .u8 0), .lit (.int .u8 0)], .agg [.lit (.int .u8 0), .lit (.int .u8 0)], .agg [.lit (.int .u8 0), .lit (.int .u8 0)], .agg [.lit (.int .u8 0), .lit (.int .u8 0)], .agg [.lit (.int .u8 0), .lit (.int .u8 0)], .agg [.lit (.int .u8 0), .lit (.int .u8 0)], .agg [.lit (.int .u8 0), .lit (.int .u8 0)], .agg [.lit (.int .u8 0), .lit (.int .u8 0)], .agg [.lit (.int .u8 0), .lit (.int .u8 0)], .agg [.lit (.int .u8 0), .lit (.int .u8 0)], .agg [.lit (.int .u8 0), .lit (.int .u8 0)]]
def laid_quipu_affix_signs {H : Type} : DataW H := .agg [.lit (.string []), .lit (.string [45]), .lit (.string [43]), .lit (.string [37]), .lit (.string [226, 128, 176]), .lit (.string [194, 164])]
def laid_quipu_affix_moves {H : Type} : DataW H := .agg [.agg [.lit (.int .i64 1), .lit (.int .i64 0)], .agg [.lit (.int .i64 0), .lit (.int .i64 2)], .agg [.lit (.int .i64 3), .lit (.int .i64 2)], .agg [.lit (.int .i64 2), .lit (.int .i64 0)]]
/-- One of Go's own tables, pinned by name: the form's constant. -/
def laid_unicode_utf8_first : DataW Unit := Go.Pinned.utf8First

/-- 'quipulaw13.AffixTells': WHATEVER THE INPUT: true; the input reads as it did. -/
def affixTellsSpec : ChangeSpec := { name := "affixTells", fn := fun _ => fun
  | [d1, d2, d3] => { results := [.lit (.bool true)], args := [d1, d2, d3] }
  | _ => none }
def affixTellsRow : OpenClaim := { program := "ytobcbffakldfcaadoor", sum := "f161bae9e73ccbaea7e51d683280a6f945c5a6d6e43b0a0760fc4f5a3fe710e3", func := "quipu/quipulaw13.AffixTells", spec := "affixTells", inPlace := ["internal/bytealg.IndexByteString", "internal/bytealg.IndexString", "internal/bytealg.CountString", "internal/abi.NoEscape", "internal/bytealg.MakeNoZero"], unfollowed := true, recurses := true, named := ["quipu/affix.signs", "unicode/utf8.first", "unicode/utf8.acceptRanges", "internal/bytealg.MaxLen", "quipu/affix.moves"], apart := false, laid := [("unicode/utf8.acceptRanges", laid_unicode_utf8_acceptRanges), ("quipu/affix.signs", laid_quipu_affix_signs), ("quipu/affix.moves", laid_quipu_affix_moves), ("unicode/utf8.first", laid_unicode_utf8_first)] }
def AffixTellsSaid : Prop := affixTellsRow.holds Tryd.pinned (OpenSpec.ofChange affixTellsSpec)

/-- ITS FALSE NEIGHBOUR: 'it returns false'. Refute it at one input. -/
def affixTellsWrong : ChangeSpec := { name := "affixTells", fn := fun _ => fun
  | [d1, d2, d3] => { results := [.lit (.bool false)], args := [d1, d2, d3] }
  | _ => none }
def AffixTellsWrongFalsely : Prop := affixTellsRow.holds Tryd.pinned (OpenSpec.ofChange affixTellsWrong)

/-- 'quipulaw13.AffixReads': WHATEVER THE INPUT: true; the input reads as it did. -/
def affixReadsSpec : ChangeSpec := { name := "affixReads", fn := fun _ => fun
  | [d] => { results := [.lit (.bool true)], args := [d] }
  | _ => none }
def affixReadsRow : OpenClaim := { program := "ytobcbffakldfcaadoor", sum := "f161bae9e73ccbaea7e51d683280a6f945c5a6d6e43b0a0760fc4f5a3fe710e3", func := "quipu/quipulaw13.AffixReads", spec := "affixReads", inPlace := ["internal/bytealg.IndexByteString", "internal/bytealg.IndexString", "internal/bytealg.CountString", "internal/abi.NoEscape", "internal/bytealg.MakeNoZero"], unfollowed := true, recurses := true, named := ["unicode/utf8.first", "unicode/utf8.acceptRanges", "quipu/affix.moves", "internal/bytealg.MaxLen", "quipu/affix.signs"], apart := false, laid := [("unicode/utf8.acceptRanges", laid_unicode_utf8_acceptRanges), ("quipu/affix.signs", laid_quipu_affix_signs), ("quipu/affix.moves", laid_quipu_affix_moves), ("unicode/utf8.first", laid_unicode_utf8_first)] }
def AffixReadsSaid : Prop := affixReadsRow.holds Tryd.pinned (OpenSpec.ofChange affixReadsSpec)

/-- ITS FALSE NEIGHBOUR: 'it returns false'. Refute it at one input. -/
def affixReadsWrong : ChangeSpec := { name := "affixReads", fn := fun _ => fun
  | [d] => { results := [.lit (.bool false)], args := [d] }
  | _ => none }
def AffixReadsWrongFalsely : Prop := affixReadsRow.holds Tryd.pinned (OpenSpec.ofChange affixReadsWrong)

/-- 'quipulaw13.AffixBack': WHATEVER THE INPUT: true; the input reads as it did. -/
def affixBackSpec : ChangeSpec := { name := "affixBack", fn := fun _ => fun
  | [d1, d2] => { results := [.lit (.bool true)], args := [d1, d2] }
  | _ => none }
def affixBackRow : OpenClaim := { program := "ytobcbffakldfcaadoor", sum := "f161bae9e73ccbaea7e51d683280a6f945c5a6d6e43b0a0760fc4f5a3fe710e3", func := "quipu/quipulaw13.AffixBack", spec := "affixBack", inPlace := ["internal/bytealg.IndexByteString", "internal/bytealg.IndexString", "internal/bytealg.CountString", "internal/abi.NoEscape", "internal/bytealg.MakeNoZero"], unfollowed := true, recurses := true, named := ["quipu/affix.signs", "unicode/utf8.first", "unicode/utf8.acceptRanges", "internal/bytealg.MaxLen", "quipu/affix.moves"], apart := false, laid := [("unicode/utf8.acceptRanges", laid_unicode_utf8_acceptRanges), ("quipu/affix.signs", laid_quipu_affix_signs), ("quipu/affix.moves", laid_quipu_affix_moves), ("unicode/utf8.first", laid_unicode_utf8_first)] }
def AffixBackSaid : Prop := affixBackRow.holds Tryd.pinned (OpenSpec.ofChange affixBackSpec)

/-- ITS FALSE NEIGHBOUR: 'it returns false'. Refute it at one input. -/
def affixBackWrong : ChangeSpec := { name := "affixBack", fn := fun _ => fun
  | [d1, d2] => { results := [.lit (.bool false)], args := [d1, d2] }
  | _ => none }
def AffixBackWrongFalsely : Prop := affixBackRow.holds Tryd.pinned (OpenSpec.ofChange affixBackWrong)

/-- 'quipulaw13.AffixJoins': WHATEVER THE INPUT: true; the input reads as it did. -/
def affixJoinsSpec : ChangeSpec := { name := "affixJoins", fn := fun _ => fun
  | [d1, d2] => { results := [.lit (.bool true)], args := [d1, d2] }
  | _ => none }
def affixJoinsRow : OpenClaim := { program := "ytobcbffakldfcaadoor", sum := "f161bae9e73ccbaea7e51d683280a6f945c5a6d6e43b0a0760fc4f5a3fe710e3", func := "quipu/quipulaw13.AffixJoins", spec := "affixJoins", inPlace := ["internal/bytealg.IndexByteString", "internal/bytealg.IndexString", "internal/bytealg.CountString", "internal/abi.NoEscape", "internal/bytealg.MakeNoZero"], unfollowed := true, recurses := true, named := ["unicode/utf8.first", "unicode/utf8.acceptRanges", "quipu/affix.moves", "internal/bytealg.MaxLen", "quipu/affix.signs"], apart := false, laid := [("unicode/utf8.acceptRanges", laid_unicode_utf8_acceptRanges), ("quipu/affix.signs", laid_quipu_affix_signs), ("quipu/affix.moves", laid_quipu_affix_moves), ("unicode/utf8.first", laid_unicode_utf8_first)] }
def AffixJoinsSaid : Prop := affixJoinsRow.holds Tryd.pinned (OpenSpec.ofChange affixJoinsSpec)

/-- ITS FALSE NEIGHBOUR: 'it returns false'. Refute it at one input. -/
def affixJoinsWrong : ChangeSpec := { name := "affixJoins", fn := fun _ => fun
  | [d1, d2] => { results := [.lit (.bool false)], args := [d1, d2] }
  | _ => none }
def AffixJoinsWrongFalsely : Prop := affixJoinsRow.holds Tryd.pinned (OpenSpec.ofChange affixJoinsWrong)

/-- 'quipulaw13.AffixTurns': WHATEVER THE INPUT: true; the input reads as it did. -/
def affixTurnsSpec : ChangeSpec := { name := "affixTurns", fn := fun _ => fun
  | [d1, d2, d3] => { results := [.lit (.bool true)], args := [d1, d2, d3] }
  | _ => none }
def affixTurnsRow : OpenClaim := { program := "ytobcbffakldfcaadoor", sum := "f161bae9e73ccbaea7e51d683280a6f945c5a6d6e43b0a0760fc4f5a3fe710e3", func := "quipu/quipulaw13.AffixTurns", spec := "affixTurns", inPlace := ["internal/bytealg.IndexByteString", "internal/bytealg.IndexString", "internal/bytealg.CountString", "internal/abi.NoEscape", "internal/bytealg.MakeNoZero"], unfollowed := true, recurses := true, named := ["unicode/utf8.first", "unicode/utf8.acceptRanges", "quipu/affix.moves", "internal/bytealg.MaxLen", "quipu/affix.signs"], apart := false, laid := [("unicode/utf8.acceptRanges", laid_unicode_utf8_acceptRanges), ("quipu/affix.signs", laid_quipu_affix_signs), ("quipu/affix.moves", laid_quipu_affix_moves), ("unicode/utf8.first", laid_unicode_utf8_first)] }
def AffixTurnsSaid : Prop := affixTurnsRow.holds Tryd.pinned (OpenSpec.ofChange affixTurnsSpec)

/-- ITS FALSE NEIGHBOUR: 'it returns false'. Refute it at one input. -/
def affixTurnsWrong : ChangeSpec := { name := "affixTurns", fn := fun _ => fun
  | [d1, d2, d3] => { results := [.lit (.bool false)], args := [d1, d2, d3] }
  | _ => none }
def AffixTurnsWrongFalsely : Prop := affixTurnsRow.holds Tryd.pinned (OpenSpec.ofChange affixTurnsWrong)

/- THE SECOND FORM. 'bulk': how many values and letters a reading holds, each counted each time it is reached (what is shared counts as often as it is met; a slice's spare places count too). A statement '..UptoSaid' is the law's where the arguments, and the package variables that the reading takes, are together of bulk at most 1048576: NARROWER than '..Said'. Prove '..Said' where nothing that the law and all that it calls make is longer than what came in: it says more and counts as full. Else prove '..UptoSaid'. A law counts once. -/
mutual
def uptoBulk {H : Type} : DataW H → Nat
  | .lit (.string bytes) => bytes.length + 1
  | .lit _ => 1
  | .nil => 1
  | .ptr d => uptoBulk d + 1
  | .slice elems spare => uptoBulkAll elems + uptoBulkAll spare + 1
  | .agg parts => uptoBulkAll parts + 1
  | .iface _ d => uptoBulk d + 1
  | .map entries => uptoBulkEntries entries + 1
  | .held _ => 1
def uptoBulkAll {H : Type} : List (DataW H) → Nat
  | [] => 0
  | d :: r => uptoBulk d + uptoBulkAll r
def uptoBulkEntries {H : Type} : List (Lit × DataW H) → Nat
  | [] => 0
  | x :: r => uptoBulkEntry x + uptoBulkEntries r
def uptoBulkEntry {H : Type} : Lit × DataW H → Nat
  | (.string bytes, d) => bytes.length + uptoBulk d + 1
  | (_, d) => uptoBulk d + 1
 end
def uptoSmall : (H : Type) → List (DataW H) → Bool := fun _ ds => decide (uptoBulkAll ds ≤ 1048576)
def OpenSpec.upto (s : _root_.Go.ChangeSpec) : _root_.Go.OpenSpec := { _root_.Go.OpenSpec.ofChange s with cond := some uptoSmall }

/-- 'quipulaw13.AffixTells', WHERE WHAT IT READS IS OF BULK AT MOST 1048576: true; the input reads as it did. -/
def affixTellsUptoRow : OpenClaim := { program := "ytobcbffakldfcaadoor", sum := "f161bae9e73ccbaea7e51d683280a6f945c5a6d6e43b0a0760fc4f5a3fe710e3", func := "quipu/quipulaw13.AffixTells", spec := "affixTells", inPlace := ["internal/bytealg.IndexByteString", "internal/bytealg.IndexString", "internal/bytealg.CountString", "internal/abi.NoEscape", "internal/bytealg.MakeNoZero"], unfollowed := true, recurses := true, named := ["quipu/affix.signs", "unicode/utf8.first", "unicode/utf8.acceptRanges", "internal/bytealg.MaxLen", "quipu/affix.moves"], apart := false, laid := [("unicode/utf8.acceptRanges", laid_unicode_utf8_acceptRanges), ("quipu/affix.signs", laid_quipu_affix_signs), ("quipu/affix.moves", laid_quipu_affix_moves), ("unicode/utf8.first", laid_unicode_utf8_first)], narrowed := true }
def AffixTellsUptoSaid : Prop := affixTellsUptoRow.holds Tryd.pinned (OpenSpec.upto affixTellsSpec)

/-- 'quipulaw13.AffixReads', WHERE WHAT IT READS IS OF BULK AT MOST 1048576: true; the input reads as it did. -/
def affixReadsUptoRow : OpenClaim := { program := "ytobcbffakldfcaadoor", sum := "f161bae9e73ccbaea7e51d683280a6f945c5a6d6e43b0a0760fc4f5a3fe710e3", func := "quipu/quipulaw13.AffixReads", spec := "affixReads", inPlace := ["internal/bytealg.IndexByteString", "internal/bytealg.IndexString", "internal/bytealg.CountString", "internal/abi.NoEscape", "internal/bytealg.MakeNoZero"], unfollowed := true, recurses := true, named := ["unicode/utf8.first", "unicode/utf8.acceptRanges", "quipu/affix.moves", "internal/bytealg.MaxLen", "quipu/affix.signs"], apart := false, laid := [("unicode/utf8.acceptRanges", laid_unicode_utf8_acceptRanges), ("quipu/affix.signs", laid_quipu_affix_signs), ("quipu/affix.moves", laid_quipu_affix_moves), ("unicode/utf8.first", laid_unicode_utf8_first)], narrowed := true }
def AffixReadsUptoSaid : Prop := affixReadsUptoRow.holds Tryd.pinned (OpenSpec.upto affixReadsSpec)

/-- 'quipulaw13.AffixBack', WHERE WHAT IT READS IS OF BULK AT MOST 1048576: true; the input reads as it did. -/
def affixBackUptoRow : OpenClaim := { program := "ytobcbffakldfcaadoor", sum := "f161bae9e73ccbaea7e51d683280a6f945c5a6d6e43b0a0760fc4f5a3fe710e3", func := "quipu/quipulaw13.AffixBack", spec := "affixBack", inPlace := ["internal/bytealg.IndexByteString", "internal/bytealg.IndexString", "internal/bytealg.CountString", "internal/abi.NoEscape", "internal/bytealg.MakeNoZero"], unfollowed := true, recurses := true, named := ["quipu/affix.signs", "unicode/utf8.first", "unicode/utf8.acceptRanges", "internal/bytealg.MaxLen", "quipu/affix.moves"], apart := false, laid := [("unicode/utf8.acceptRanges", laid_unicode_utf8_acceptRanges), ("quipu/affix.signs", laid_quipu_affix_signs), ("quipu/affix.moves", laid_quipu_affix_moves), ("unicode/utf8.first", laid_unicode_utf8_first)], narrowed := true }
def AffixBackUptoSaid : Prop := affixBackUptoRow.holds Tryd.pinned (OpenSpec.upto affixBackSpec)

/-- 'quipulaw13.AffixJoins', WHERE WHAT IT READS IS OF BULK AT MOST 1048576: true; the input reads as it did. -/
def affixJoinsUptoRow : OpenClaim := { program := "ytobcbffakldfcaadoor", sum := "f161bae9e73ccbaea7e51d683280a6f945c5a6d6e43b0a0760fc4f5a3fe710e3", func := "quipu/quipulaw13.AffixJoins", spec := "affixJoins", inPlace := ["internal/bytealg.IndexByteString", "internal/bytealg.IndexString", "internal/bytealg.CountString", "internal/abi.NoEscape", "internal/bytealg.MakeNoZero"], unfollowed := true, recurses := true, named := ["unicode/utf8.first", "unicode/utf8.acceptRanges", "quipu/affix.moves", "internal/bytealg.MaxLen", "quipu/affix.signs"], apart := false, laid := [("unicode/utf8.acceptRanges", laid_unicode_utf8_acceptRanges), ("quipu/affix.signs", laid_quipu_affix_signs), ("quipu/affix.moves", laid_quipu_affix_moves), ("unicode/utf8.first", laid_unicode_utf8_first)], narrowed := true }
def AffixJoinsUptoSaid : Prop := affixJoinsUptoRow.holds Tryd.pinned (OpenSpec.upto affixJoinsSpec)

/-- 'quipulaw13.AffixTurns', WHERE WHAT IT READS IS OF BULK AT MOST 1048576: true; the input reads as it did. -/
def affixTurnsUptoRow : OpenClaim := { program := "ytobcbffakldfcaadoor", sum := "f161bae9e73ccbaea7e51d683280a6f945c5a6d6e43b0a0760fc4f5a3fe710e3", func := "quipu/quipulaw13.AffixTurns", spec := "affixTurns", inPlace := ["internal/bytealg.IndexByteString", "internal/bytealg.IndexString", "internal/bytealg.CountString", "internal/abi.NoEscape", "internal/bytealg.MakeNoZero"], unfollowed := true, recurses := true, named := ["unicode/utf8.first", "unicode/utf8.acceptRanges", "quipu/affix.moves", "internal/bytealg.MaxLen", "quipu/affix.signs"], apart := false, laid := [("unicode/utf8.acceptRanges", laid_unicode_utf8_acceptRanges), ("quipu/affix.signs", laid_quipu_affix_signs), ("quipu/affix.moves", laid_quipu_affix_moves), ("unicode/utf8.first", laid_unicode_utf8_first)], narrowed := true }
def AffixTurnsUptoSaid : Prop := affixTurnsUptoRow.holds Tryd.pinned (OpenSpec.upto affixTurnsSpec)

end Rows
end Go.Proofs.YtobcbffakldfcaaDoor
