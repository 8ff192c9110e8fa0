/-
  What the rows' list of package variables gives, and a world that holds them.
-/
import Derived.Test.YtbfegnbaleclfaaGreatDoorRows
import Derived.Test.YtbfegnbaleclfaaGreatDoorAB6
import Derived.Lib.LaidTab
import Derived.Deep.DeepHandedRow
namespace Go.Proofs.YtbfegnbaleclfaaGreatDoor
open Go.RowKit

theorem tg : Tryz.prog.globalNamed "internal/strconv.uint64pow10" = some 0 := by kernel_rfl
theorem tgt : (Tryz.prog.globals[0]?).map (·.type) = some 123 := by kernel_rfl
theorem tc20 : Tryz.prog.cellsOf 123 = 20 := by kernel_rfl
theorem tc1 : Tryz.prog.cellsOf 59 = 1 := by kernel_rfl

theorem table {W : World} (h : laidMetH Tryz.prog [("math/bits.deBruijn32tab", Rows.laid_math_bits_deBruijn32tab), ("math/bits.deBruijn64tab", Rows.laid_math_bits_deBruijn64tab), ("internal/strconv.uint64pow10", Rows.laid_internal_strconv_uint64pow10), ("unicode/utf8.acceptRanges", Rows.laid_unicode_utf8_acceptRanges), ("strconv.ErrRange", Rows.laid_strconv_ErrRange), ("strconv.ErrSyntax", Rows.laid_strconv_ErrSyntax), ("unicode/utf8.first", Rows.laid_unicode_utf8_first)] W) : Tab W := by
  have h' : laidMet Tryz.prog [("math/bits.deBruijn32tab", Rows.laid_math_bits_deBruijn32tab), ("math/bits.deBruijn64tab", Rows.laid_math_bits_deBruijn64tab), ("internal/strconv.uint64pow10", Rows.laid_internal_strconv_uint64pow10), ("unicode/utf8.acceptRanges", Rows.laid_unicode_utf8_acceptRanges), ("strconv.ErrRange", Rows.laid_strconv_ErrRange), ("strconv.ErrSyntax", Rows.laid_strconv_ErrSyntax), ("unicode/utf8.first", Rows.laid_unicode_utf8_first)] W := h
  obtain ⟨ps, ⟨_, _, _, _, _, q1, _, _, _, _, ⟨_, _, _, _, _, q2, _, _, _, _, ⟨g', t', cs, fuel, p3, q3, hg', ht', hvar, hd, _, _⟩, _⟩, _⟩, _⟩ := h'
  obtain rfl := Option.some.inj (tg.symm.trans hg')
  obtain rfl := Option.some.inj (tgt.symm.trans ht')
  unfold Tab Lib.TabIs
  have hd' : DataW.trod (fun _ => ()) Tryz.prog W 0 (fun _ => true) false fuel 123 cs.toList = some (Lib.tabData .u64 Lib.pow10Tab, p3) := hd
  rw [hvar, ← Lib.cells_of_tab Tryz.underlying123 Tryz.underlying59 tc1 tc20 hd']

def tabVals : DataW Unit → Array Value
  | .agg l => (l.flatMap fun
      | .lit (.int k z) => [Value.int k z]
      | .agg l2 => l2.map fun
        | .lit (.int k z) => Value.int k z
        | _ => .int .u8 0
      | _ => []).toArray
  | _ => #[]

def putVals (d : DataW Unit) : Obj → Obj
  | .cells _ t frozen => .cells (tabVals d) t frozen
  | o => o

def errText : DataW Unit → ByteArray
  | .iface _ (.ptr (.agg [.lit (.string l)])) => ⟨l.toArray⟩
  | _ => ⟨#[]⟩

def putErr (b : Nat) : Obj → Obj
  | .cells _ t frozen => .cells #[.iface 154 (.pointer (some ⟨b, 0, none⟩))] t frozen
  | o => o

noncomputable def laidWorld (os : Os) : World :=
  { World.holding Tryz.prog os ⟨#[], #[], []⟩ with
    heap := (((((((((World.holding Tryz.prog os ⟨#[], #[], []⟩).heap.modify 4 (putVals Rows.laid_math_bits_deBruijn32tab)).modify 5 (putVals Rows.laid_math_bits_deBruijn64tab)).modify 0 (putVals Rows.laid_internal_strconv_uint64pow10)).modify 7 (putVals Rows.laid_unicode_utf8_acceptRanges)).modify 6 (putVals Rows.laid_unicode_utf8_first)).modify 3 (putErr (World.holding Tryz.prog os ⟨#[], #[], []⟩).heap.size)).modify 2 (putErr ((World.holding Tryz.prog os ⟨#[], #[], []⟩).heap.size + 1))).push (.cells #[.string (errText Rows.laid_strconv_ErrRange)] 156)).push (.cells #[.string (errText Rows.laid_strconv_ErrSyntax)] 156) }

end Go.Proofs.YtbfegnbaleclfaaGreatDoor
