/-
  What the rows' list of package variables gives, and a world that holds them.
-/
import Derived.Test.YtfcdjhjdiadbfaaDoorRows
import Derived.Test.YtfcdjhjdiadbfaaDoorFmtU
import Derived.Lib.LaidTab
import Derived.Deep.DeepHandedRow
namespace Go.Proofs.YtfcdjhjdiadbfaaDoor
open Go.RowKit

theorem tg : Tryd.prog.globalNamed "internal/strconv.uint64pow10" = some 2 := by kernel_rfl
theorem tgt : (Tryd.prog.globals[2]?).map (·.type) = some 132 := by kernel_rfl
theorem tc20 : Tryd.prog.cellsOf 132 = 20 := by kernel_rfl
theorem tc1 : Tryd.prog.cellsOf 59 = 1 := by kernel_rfl

theorem table {W : World} (h : laidMetH Tryd.prog [("math/bits.deBruijn32tab", Rows.laid_math_bits_deBruijn32tab), ("math/bits.deBruijn64tab", Rows.laid_math_bits_deBruijn64tab), ("internal/strconv.uint64pow10", Rows.laid_internal_strconv_uint64pow10)] W) : Tab W := by
  have h' : laidMet Tryd.prog [("math/bits.deBruijn32tab", Rows.laid_math_bits_deBruijn32tab), ("math/bits.deBruijn64tab", Rows.laid_math_bits_deBruijn64tab), ("internal/strconv.uint64pow10", Rows.laid_internal_strconv_uint64pow10)] W := h
  obtain ⟨ps, ⟨_, _, _, _, _, q1, _, _, _, _, ⟨_, _, _, _, _, q2, _, _, _, _, ⟨g', t', cs, fuel, p3, q3, hg', ht', hvar, hd, _, _⟩, _⟩, _⟩, _⟩ := h'
  obtain rfl := Option.some.inj (tg.symm.trans hg')
  obtain rfl := Option.some.inj (tgt.symm.trans ht')
  unfold Tab Lib.TabIs
  have hd' : DataW.trod (fun _ => ()) Tryd.prog W 0 (fun _ => true) false fuel 132 cs.toList = some (Lib.tabData .u64 Lib.pow10Tab, p3) := hd
  rw [hvar, ← Lib.cells_of_tab Tryd.underlying132 Tryd.underlying59 tc1 tc20 hd']

/-- The values of a table's reading. -/
def tabVals : DataW Unit → Array Value
  | .agg l => (l.map fun
      | .lit (.int k z) => Value.int k z
      | _ => .int .u8 0).toArray
  | _ => #[]

/-- A block that holds other values, of the same type. -/
def putVals (d : DataW Unit) : Obj → Obj
  | .cells _ t frozen => .cells (tabVals d) t frozen
  | o => o

/-- The settled world, the three tables holding what their initialisers lay. -/
noncomputable def laidWorld (os : Os) : World :=
  { World.holding Tryd.prog os ⟨#[], #[], []⟩ with
    heap := (((World.holding Tryd.prog os ⟨#[], #[], []⟩).heap.modify 4 (putVals Rows.laid_math_bits_deBruijn32tab)).modify 5 (putVals Rows.laid_math_bits_deBruijn64tab)).modify 2 (putVals Rows.laid_internal_strconv_uint64pow10) }

end Go.Proofs.YtfcdjhjdiadbfaaDoor
