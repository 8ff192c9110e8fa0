/-
  What At, Digits and Step answer, case by case.
  What the rows' list of package variables gives, and a world that holds them.
-/
import Derived.Test.YtcclbcnmkaobpaaGreatDoorZB6
import Derived.Test.YtcclbcnmkaobpaaGreatDoorRows
import Derived.Test.YtcclbcnmkaobpaaGreatDoorZB9
import Derived.Lib.LaidTab
import Derived.Deep.DeepHandedRow
namespace Go.Proofs.YtcclbcnmkaobpaaGreatDoor
open Go.RowKit

section
variable {ca : Int} {na : Bool} {l : List UInt8} {ea p m : Int}

theorem atR_no (h : ¬ MayD ca na l ea) : atR ca na l ea p m = (zeroD, 52) := by unfold atR; rw [if_pos h]
theorem atR_mode (h : MayD ca na l ea) (hm : m < 0 ∨ 8 ≤ m) : atR ca na l ea p m = (zeroD, 60) := by unfold atR; rw [if_neg (fun g => g h), if_pos hm]
theorem atR_place (h : MayD ca na l ea) (hm : ¬ (m < 0 ∨ 8 ≤ m)) (hp : p < -4000 ∨ 4000 < p) : atR ca na l ea p m = (zeroD, 61) := by unfold atR; rw [if_neg (fun g => g h), if_neg hm, if_pos hp]
theorem atR_in (h : MayD ca na l ea) (hm : ¬ (m < 0 ∨ 8 ≤ m)) (hp : ¬ (p < -4000 ∨ 4000 < p)) : atR ca na l ea p m = rndD ⟨ca.toNat, na, l, ea⟩ 1 p m.toNat := by unfold atR; rw [if_neg (fun g => g h), if_neg hm, if_neg hp]
variable {cb : Int} {nb : Bool} {k : List UInt8} {eb : Int}
theorem stepR_bno (hb : ¬ MayD cb nb k eb) : stepR ca na l ea cb nb k eb m = (zeroD, 52) := by unfold stepR; rw [if_pos hb]
theorem stepR_no (hb : MayD cb nb k eb) (h : ¬ MayD ca na l ea) : stepR ca na l ea cb nb k eb m = (zeroD, 52) := by unfold stepR; rw [if_neg (fun g => g hb), if_pos h]
theorem stepR_mode (hb : MayD cb nb k eb) (h : MayD ca na l ea) (hm : m < 0 ∨ 8 ≤ m) : stepR ca na l ea cb nb k eb m = (zeroD, 60) := by unfold stepR; rw [if_neg (fun g => g hb), if_neg (fun g => g h), if_pos hm]
theorem stepR_bad (hb : MayD cb nb k eb) (h : MayD ca na l ea) (hm : ¬ (m < 0 ∨ 8 ≤ m)) (hs : ¬ StepD cb nb k) : stepR ca na l ea cb nb k eb m = (zeroD, 62) := by unfold stepR; rw [if_neg (fun g => g hb), if_neg (fun g => g h), if_neg hm, if_pos hs]
theorem stepR_in (hb : MayD cb nb k eb) (h : MayD ca na l ea) (hm : ¬ (m < 0 ∨ 8 ≤ m)) (hs : StepD cb nb k) : stepR ca na l ea cb nb k eb m = rndD ⟨ca.toNat, na, l, ea⟩ (decV k) eb m.toNat := by unfold stepR; rw [if_neg (fun g => g hb), if_neg (fun g => g h), if_neg hm, if_neg (fun g => g hs)]
end

theorem At_of {ca : Int} {na : Bool} {ta : ByteArray} {ea p m : Int} {r : DecT × Int} (hr : atR ca na (bys ta) ea p m = r) : ∀ W, Tab W → Calls Tryz.prog 11 #[dcV ca na ta ea, .int .i64 p, .int .i64 m] W fun e w' => e = .returned (decErr r) ∧ Below W.heap.size W w' := by
  intro W hT
  have := At_any ca na ta ea p m W hT
  rw [hr] at this
  exact this

theorem tellF_mayR (neg : Bool) (N : Nat) (e : Int) : May (tellF neg N e).1 := by
  by_cases h : May (finD neg N e)
  · rw [tellF_yes h]; exact h
  · rw [tellF_no h]; exact may_zero false

theorem rndD_may {d : DecT} (h : May d) (N : Nat) (x : Int) (m : Nat) : May (rndD d N x m).1 := by
  by_cases hz : d.dig = []
  · rw [rndD_zero hz]; exact h
  · rw [rndD_fin hz]; exact tellF_mayR _ _ _

end Go.Proofs.YtcclbcnmkaobpaaGreatDoor

namespace Go.Proofs.YtcclbcnmkaobpaaGreatDoor
open Go.RowKit

theorem tg : Tryz.prog.globalNamed "internal/strconv.uint64pow10" = some 3 := by kernel_rfl
theorem tgt : (Tryz.prog.globals[3]?).map (·.type) = some 182 := by kernel_rfl
theorem tc20 : Tryz.prog.cellsOf 182 = 20 := by kernel_rfl
theorem tc1 : Tryz.prog.cellsOf 77 = 1 := by kernel_rfl

theorem table {W : World} (h : laidMetH Tryz.prog [("math/bits.deBruijn32tab", Rows.laid_math_bits_deBruijn32tab), ("math/bits.deBruijn64tab", Rows.laid_math_bits_deBruijn64tab), ("internal/strconv.uint64pow10", Rows.laid_internal_strconv_uint64pow10), ("unicode/utf8.acceptRanges", Rows.laid_unicode_utf8_acceptRanges), ("unicode/utf8.first", Rows.laid_unicode_utf8_first)] W) : Tab W := by
  have h' : laidMet Tryz.prog [("math/bits.deBruijn32tab", Rows.laid_math_bits_deBruijn32tab), ("math/bits.deBruijn64tab", Rows.laid_math_bits_deBruijn64tab), ("internal/strconv.uint64pow10", Rows.laid_internal_strconv_uint64pow10), ("unicode/utf8.acceptRanges", Rows.laid_unicode_utf8_acceptRanges), ("unicode/utf8.first", Rows.laid_unicode_utf8_first)] W := h
  obtain ⟨ps, ⟨_, _, _, _, _, q1, _, _, _, _, ⟨_, _, _, _, _, q2, _, _, _, _, ⟨g', t', cs, fuel, p3, q3, hg', ht', hvar, hd, _, _⟩, _⟩, _⟩, _⟩ := h'
  obtain rfl := Option.some.inj (tg.symm.trans hg')
  obtain rfl := Option.some.inj (tgt.symm.trans ht')
  unfold Tab Lib.TabIs
  have hd' : DataW.trod (fun _ => ()) Tryz.prog W 0 (fun _ => true) false fuel 182 cs.toList = some (Lib.tabData .u64 Lib.pow10Tab, p3) := hd
  rw [hvar, ← Lib.cells_of_tab Tryz.underlying182 Tryz.underlying77 tc1 tc20 hd']

/-- The values of a table's reading, whose places hold one number or a few. -/
def tabVals : DataW Unit → Array Value
  | .agg l => (l.flatMap fun
      | .lit (.int k z) => [Value.int k z]
      | .agg l2 => l2.map fun
        | .lit (.int k z) => Value.int k z
        | _ => .int .u8 0
      | _ => []).toArray
  | _ => #[]

/-- A block that holds other values, of the same type. -/
def putVals (d : DataW Unit) : Obj → Obj
  | .cells _ t frozen => .cells (tabVals d) t frozen
  | o => o

/-- The settled world, the five tables holding what their initialisers lay. -/
noncomputable def laidWorld (os : Os) : World :=
  { World.holding Tryz.prog os ⟨#[], #[], []⟩ with
    heap := (((((World.holding Tryz.prog os ⟨#[], #[], []⟩).heap.modify 6 (putVals Rows.laid_math_bits_deBruijn32tab)).modify 7 (putVals Rows.laid_math_bits_deBruijn64tab)).modify 3 (putVals Rows.laid_internal_strconv_uint64pow10)).modify 5 (putVals Rows.laid_unicode_utf8_acceptRanges)).modify 4 (putVals Rows.laid_unicode_utf8_first) }

end Go.Proofs.YtcclbcnmkaobpaaGreatDoor
