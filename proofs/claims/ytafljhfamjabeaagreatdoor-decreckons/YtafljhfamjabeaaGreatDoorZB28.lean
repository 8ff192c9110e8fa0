/-
  What quipuref05's Mul answers of any two that may be; the walk of DecReckons.
  What the rows' list of package variables gives, and a world that holds them.
-/
import Derived.Test.YtafljhfamjabeaaGreatDoorZB26
import Derived.Test.YtafljhfamjabeaaGreatDoorZB27
import Derived.Test.YtafljhfamjabeaaGreatDoorZB14
import Derived.Test.YtafljhfamjabeaaGreatDoorRows
import Derived.Test.YtafljhfamjabeaaGreatDoorZB4
import Derived.Lib.LaidTab
import Derived.Deep.DeepHandedRow
namespace Go.Proofs.YtafljhfamjabeaaGreatDoor
open Go.RowKit

theorem zv_prod (x y : Bool) (m n : Nat) : zv x m * zv y n = zv (x != y) (m * n) := by
  cases x <;> cases y <;> simp [zv, Int.neg_mul, Int.mul_neg]

theorem rmul_fin_d (a b : DecT) (ha : May a) (hb : May b) (ca : a.cls = 0) (cb : b.cls = 0) (W : World) : Calls Tryz.prog 31 #[decVal a, decVal b] W fun e w' => e = .returned (decErr (prodT a b)) ∧ Below W.heap.size W w' := by
  have fa := may_fz ha ca
  have fb := may_fz hb cb
  have la := fa.lo
  have lb := fb.lo
  have ha2 := fa.hi
  have hb2 := fb.hi
  have mya := fun W => rmay_d ha W
  have myb := fun W => rmay_d hb W
  rw [decVal_0 ca, decVal_0 cb]
  rw [ca] at mya
  rw [cb] at myb
  unfold prodT
  rw [if_pos ⟨ca, cb⟩]
  have sa : (⟨a.dig.toArray⟩ : ByteArray).size ≤ 1000 := by rw [size_mk0]; exact fa.len
  have sb : (⟨b.dig.toArray⟩ : ByteArray).size ≤ 1000 := by rw [size_mk0]; exact fb.len
  have da : DigB (bys ⟨a.dig.toArray⟩) := by rw [bys_mk]; exact fa.dig
  have db : DigB (bys ⟨b.dig.toArray⟩) := by rw [bys_mk]; exact fb.dig
  have e1 : zv a.neg (decV (bys ⟨a.dig.toArray⟩)) * zv b.neg (decV (bys ⟨b.dig.toArray⟩)) = zv (a.neg != b.neg) (decV a.dig * decV b.dig) := by rw [bys_mk, bys_mk, zv_prod]
  have hsz : sizeN (zv a.neg (decV (bys ⟨a.dig.toArray⟩)) * zv b.neg (decV (bys ⟨b.dig.toArray⟩))).natAbs ≤ 20000 := by
    rw [e1, zv_abs]
    have p1 := decV_lt _ a.dig rfl fa.dig
    have p2 := decV_lt _ b.dig rfl fb.dig
    have := fa.len
    have := fb.len
    exact Nat.le_trans (sizeN_le (lt_prod p1 p2) (by omega)) (by omega)
  have g := rmul_fin a.neg b.neg ⟨a.dig.toArray⟩ ⟨b.dig.toArray⟩ a.exp b.exp W mya myb sa sb da db ⟨by omega, by omega, by omega, by omega⟩ hsz
  rw [e1, zv_abs] at g
  have e2 : (if zv (a.neg != b.neg) (decV a.dig * decV b.dig) = 0 then (!(a.neg == b.neg)) else decide (zv (a.neg != b.neg) (decV a.dig * decV b.dig) < 0)) = (a.neg != b.neg) := by
    by_cases h0 : zv (a.neg != b.neg) (decV a.dig * decV b.dig) = 0
    · rw [if_pos h0]; rfl
    · rw [if_neg h0]
      cases hn : (a.neg != b.neg)
      · rw [hn] at h0
        simp only [zv, Bool.false_eq_true, if_false] at h0 ⊢
        exact decide_eq_false (by omega)
      · rw [hn] at h0
        simp only [zv, if_true] at h0 ⊢
        exact decide_eq_true (by omega)
  rw [e2] at g
  exact g

theorem dig_zero {d : DecT} (h : May d) (h0 : d.cls = 0) (hz : d.dig = []) : d = ⟨0, d.neg, [], 0⟩ := by
  rcases may_cases h with ⟨n, rfl⟩ | h | ⟨n, rfl⟩ | rfl
  · rfl
  · exact absurd hz h.ne
  · cases h0
  · cases h0

theorem rmul_d (a b : DecT) (ha : May a) (hb : May b) (W : World) : Calls Tryz.prog 31 #[decVal a, decVal b] W fun e w' => e = .returned (decErr (prodT a b)) ∧ Below W.heap.size W w' := by
  have mya := fun W => rmay_d ha W
  have myb := fun W => rmay_d hb W
  by_cases a2 : a.cls = 2
  · have e : prodT a b = (nanD, 0) := by unfold prodT; rw [if_neg (fun h => by omega), if_pos (.inl a2)]
    rw [e]
    obtain rfl := may_nan ha a2
    exact rmul_nan1 (b.cls : Int) false b.neg ⟨#[]⟩ ⟨b.dig.toArray⟩ 0 b.exp W mya myb
  by_cases b2 : b.cls = 2
  · have e : prodT a b = (nanD, 0) := by unfold prodT; rw [if_neg (fun h => by omega), if_pos (.inr (.inl b2))]
    rw [e]
    have ha' : ((a.cls : Int) == 2) = false := beq_false_of_ne (by omega)
    obtain rfl := may_nan hb b2
    exact rmul_nan2 (a.cls : Int) a.neg false ⟨a.dig.toArray⟩ ⟨#[]⟩ a.exp 0 W mya myb ha'
  by_cases a0 : a.cls = 0
  · by_cases b0 : b.cls = 0
    · exact rmul_fin_d a b ha hb a0 b0 W
    · by_cases hz : a.dig = []
      · have e : prodT a b = (nanD, 0) := by unfold prodT; rw [if_neg (fun h => b0 h.2), if_pos (.inr (.inr (.inl ⟨a0, hz⟩)))]
        rw [e]
        obtain ⟨n, rfl⟩ := may_inf hb b0 b2
        rw [dig_zero ha a0 hz] at mya ⊢
        exact rmul_z1 a.neg n ⟨#[]⟩ 0 0 W mya myb
      · have e : prodT a b = (⟨1, a.neg != b.neg, [], 0⟩, 0) := by
          unfold prodT
          rw [if_neg (fun h => b0 h.2), if_neg]
          rintro (h | h | ⟨_, h⟩ | ⟨h, _⟩)
          · exact a2 h
          · exact b2 h
          · exact hz h
          · exact b0 h
        rw [e, decVal_0 a0]
        rw [a0] at mya
        obtain ⟨n, rfl⟩ := may_inf hb b0 b2
        exact rmul_f1 a.neg n ⟨a.dig.toArray⟩ ⟨#[]⟩ a.exp 0 W mya myb (by rw [size_mk0]; exact fun g => hz (List.length_eq_zero_iff.1 g))
  · by_cases b0 : b.cls = 0
    · by_cases hz : b.dig = []
      · have e : prodT a b = (nanD, 0) := by unfold prodT; rw [if_neg (fun h => a0 h.1), if_pos (.inr (.inr (.inr ⟨b0, hz⟩)))]
        rw [e]
        obtain ⟨n, rfl⟩ := may_inf ha a0 a2
        rw [dig_zero hb b0 hz] at myb ⊢
        exact rmul_1z n b.neg ⟨#[]⟩ 0 0 W mya myb
      · have e : prodT a b = (⟨1, a.neg != b.neg, [], 0⟩, 0) := by
          unfold prodT
          rw [if_neg (fun h => a0 h.1), if_neg]
          rintro (h | h | ⟨h, _⟩ | ⟨_, h⟩)
          · exact a2 h
          · exact b2 h
          · exact a0 h
          · exact hz h
        rw [e, decVal_0 b0]
        rw [b0] at myb
        obtain ⟨n, rfl⟩ := may_inf ha a0 a2
        exact rmul_1f n b.neg ⟨#[]⟩ ⟨b.dig.toArray⟩ 0 b.exp W mya myb (by rw [size_mk0]; exact fun g => hz (List.length_eq_zero_iff.1 g))
    · have e : prodT a b = (⟨1, a.neg != b.neg, [], 0⟩, 0) := by
        unfold prodT
        rw [if_neg (fun h => a0 h.1), if_neg]
        rintro (h | h | ⟨h, _⟩ | ⟨h, _⟩)
        · exact a2 h
        · exact b2 h
        · exact a0 h
        · exact b0 h
      rw [e]
      obtain ⟨n, rfl⟩ := may_inf ha a0 a2
      obtain ⟨m, rfl⟩ := may_inf hb b0 b2
      exact rmul_inf n m ⟨#[]⟩ ⟨#[]⟩ 0 0 W mya myb

theorem dreckons_walk (w : World) (htab : Tab w) (ca : Int) (na : Bool) (ta : ByteArray) (ea : Int) (cb : Int) (nb : Bool) (tb : ByteArray) (eb : Int) : Calls Tryz.prog 8 #[dcV ca na ta ea, dcV cb nb tb eb] w fun e w' => e = .returned (.bool true) ∧ Below w.heap.size w w' := by
  by_cases ha : MayD ca na (bys ta) ea
  · by_cases hb : MayD cb nb (bys tb) eb
    · have A := fun W (hT : Tab W) => Add_d _ _ (mayD_d ha) (mayD_d hb) W hT
      have M := fun W (hT : Tab W) => Mul_d _ _ (mayD_d ha) (mayD_d hb) W hT
      have RA := fun W (_ : Tab W) => radd_d _ _ (mayD_d ha) (mayD_d hb) W
      have RM := fun W (_ : Tab W) => rmul_d _ _ (mayD_d ha) (mayD_d hb) W
      rw [← dcV_d ca na ta ea (mayD_nn ha), ← dcV_d cb nb tb eb (mayD_nn hb)] at A M RA RM
      generalize sumT ⟨ca.toNat, na, bys ta, ea⟩ ⟨cb.toNat, nb, bys tb, eb⟩ = x at A RA
      generalize prodT ⟨ca.toNat, na, bys ta, ea⟩ ⟨cb.toNat, nb, bys tb, eb⟩ = y at M RM
      exact decReckons_gen ca na ta ea cb nb tb eb x.1.cls x.1.neg ⟨x.1.dig.toArray⟩ x.1.exp x.2 y.1.cls y.1.neg ⟨y.1.dig.toArray⟩ y.1.exp y.2 w htab A RA M RM
    · have mya := fun W => rmay_yes ca na ta ea W ha
      have myb := fun W => rmay_no cb nb tb eb W hb
      exact decReckons_gen ca na ta ea cb nb tb eb 0 false ⟨#[]⟩ 0 52 0 false ⟨#[]⟩ 0 52 w htab (fun W _ => Add_no2 ca na ta ea cb nb tb eb W ha hb) (fun W _ => radd_no2 ca na ta ea cb nb tb eb W ha hb) (fun W _ => Mul_no2 ca na ta ea cb nb tb eb W ha hb) (fun W _ => rmul_no2 ca cb na nb ta tb ea eb W mya myb)
  · have mya := fun W => rmay_no ca na ta ea W ha
    exact decReckons_gen ca na ta ea cb nb tb eb 0 false ⟨#[]⟩ 0 52 0 false ⟨#[]⟩ 0 52 w htab (fun W _ => Add_no1 ca na ta ea cb nb tb eb W ha) (fun W _ => radd_no1 ca na ta ea cb nb tb eb W ha) (fun W _ => Mul_no1 ca na ta ea cb nb tb eb W ha) (fun W _ => rmul_no1 ca cb na nb ta tb ea eb W mya)

end Go.Proofs.YtafljhfamjabeaaGreatDoor

namespace Go.Proofs.YtafljhfamjabeaaGreatDoor
open Go.RowKit

theorem tg : Tryz.prog.globalNamed "internal/strconv.uint64pow10" = some 3 := by kernel_rfl
theorem tgt : (Tryz.prog.globals[3]?).map (·.type) = some 184 := by kernel_rfl
theorem tc20 : Tryz.prog.cellsOf 184 = 20 := by kernel_rfl
theorem tc1 : Tryz.prog.cellsOf 78 = 1 := by kernel_rfl

theorem table {W : World} (h : laidMetH Tryz.prog [("math/bits.deBruijn32tab", Rows.laid_math_bits_deBruijn32tab), ("math/bits.deBruijn64tab", Rows.laid_math_bits_deBruijn64tab), ("internal/strconv.uint64pow10", Rows.laid_internal_strconv_uint64pow10), ("unicode/utf8.acceptRanges", Rows.laid_unicode_utf8_acceptRanges), ("strconv.ErrRange", Rows.laid_strconv_ErrRange), ("strconv.ErrSyntax", Rows.laid_strconv_ErrSyntax), ("unicode/utf8.first", Rows.laid_unicode_utf8_first)] W) : Tab W := by
  have h' : laidMet Tryz.prog [("math/bits.deBruijn32tab", Rows.laid_math_bits_deBruijn32tab), ("math/bits.deBruijn64tab", Rows.laid_math_bits_deBruijn64tab), ("internal/strconv.uint64pow10", Rows.laid_internal_strconv_uint64pow10), ("unicode/utf8.acceptRanges", Rows.laid_unicode_utf8_acceptRanges), ("strconv.ErrRange", Rows.laid_strconv_ErrRange), ("strconv.ErrSyntax", Rows.laid_strconv_ErrSyntax), ("unicode/utf8.first", Rows.laid_unicode_utf8_first)] W := h
  obtain ⟨ps, ⟨_, _, _, _, _, q1, _, _, _, _, ⟨_, _, _, _, _, q2, _, _, _, _, ⟨g', t', cs, fuel, p3, q3, hg', ht', hvar, hd, _, _⟩, _⟩, _⟩, _⟩ := h'
  obtain rfl := Option.some.inj (tg.symm.trans hg')
  obtain rfl := Option.some.inj (tgt.symm.trans ht')
  unfold Tab Lib.TabIs
  have hd' : DataW.trod (fun _ => ()) Tryz.prog W 0 (fun _ => true) false fuel 184 cs.toList = some (Lib.tabData .u64 Lib.pow10Tab, p3) := hd
  rw [hvar, ← Lib.cells_of_tab Tryz.underlying184 Tryz.underlying78 tc1 tc20 hd']

/-- The values of a table's reading, whose places hold one number or a few. -/
def tabVals : DataW Unit → Array Value
  | .agg l => (l.flatMap fun
      | .lit (.int k z) => [Value.int k z]
      | .agg l2 => l2.map fun
        | .lit (.int k z) => Value.int k z
        | _ => .int .u8 0
      | _ => []).toArray
  | _ => #[]

/-- A block that holds other values, of the same type. -/
def putVals (d : DataW Unit) : Obj → Obj
  | .cells _ t frozen => .cells (tabVals d) t frozen
  | o => o

/-- The text that an error of the library's bears. -/
def errText : DataW Unit → ByteArray
  | .iface _ (.ptr (.agg [.lit (.string l)])) => ⟨l.toArray⟩
  | _ => ⟨#[]⟩

/-- A block that holds an error of the library's, whose text lies in block b. -/
def putErr (b : Nat) : Obj → Obj
  | .cells _ t frozen => .cells #[.iface 178 (.pointer (some ⟨b, 0, none⟩))] t frozen
  | o => o

/-- The settled world, the five tables and the two errors holding what their initialisers lay. -/
noncomputable def laidWorld (os : Os) : World :=
  { World.holding Tryz.prog os ⟨#[], #[], []⟩ with
    heap := (((((((((World.holding Tryz.prog os ⟨#[], #[], []⟩).heap.modify 8 (putVals Rows.laid_math_bits_deBruijn32tab)).modify 9 (putVals Rows.laid_math_bits_deBruijn64tab)).modify 3 (putVals Rows.laid_internal_strconv_uint64pow10)).modify 5 (putVals Rows.laid_unicode_utf8_acceptRanges)).modify 4 (putVals Rows.laid_unicode_utf8_first)).modify 2 (putErr (World.holding Tryz.prog os ⟨#[], #[], []⟩).heap.size)).modify 1 (putErr ((World.holding Tryz.prog os ⟨#[], #[], []⟩).heap.size + 1))).push (.cells #[.string (errText Rows.laid_strconv_ErrRange)] 180)).push (.cells #[.string (errText Rows.laid_strconv_ErrSyntax)] 180) }

end Go.Proofs.YtafljhfamjabeaaGreatDoor
