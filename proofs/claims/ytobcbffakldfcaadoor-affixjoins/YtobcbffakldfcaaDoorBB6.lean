/-
  What the rows' list of package variables gives, and a world that holds them (affix's two tables beside the library's).
-/
import Derived.Test.YtobcbffakldfcaaDoorRows
import Derived.Test.YtobcbffakldfcaaDoorBB2
import Derived.Shelf.Vars
import Derived.Lib.LaidU8
import Derived.Deep.DeepHandedRow
namespace Go.Proofs.YtobcbffakldfcaaDoor
open Go.RowKit

theorem laid_first : (Rows.laid_unicode_utf8_first : DataW Unit) = Lib.firstData := by kernel_rfl
theorem laid_accept : (Rows.laid_unicode_utf8_acceptRanges : DataW Unit) = Lib.acceptData := by kernel_rfl
theorem cellsAR : Tryd.prog.cellsOf 110 = 2 := by kernel_rfl
theorem cellsU8 : Tryd.prog.cellsOf 5 = 1 := by kernel_rfl
theorem cellsFT : Tryd.prog.cellsOf 108 = 256 := by kernel_rfl

theorem first_of {W : World} (h : Lib.VarReads Tryd.prog W "unicode/utf8.first" Lib.firstData) : ∀ c, c < 256 → W.cell? ⟨2, c, none⟩ = some (.int .u8 (Lib.firstT c : Int)) := by
  intro c hc
  obtain ⟨g, t, cs, fuel, p, hg, hty, hvar, hd⟩ := h
  have eg : g = 2 := Option.some.inj (hg.symm.trans (by kernel_rfl))
  subst eg
  have et : t = 108 := Option.some.inj (hty.symm.trans (by kernel_rfl))
  subst et
  have hcs := Lib.cells_of_tab Tryd.underlying108 Tryd.underlying5 cellsU8 cellsFT hd
  rw [World.var?_cell hg hvar c, ← Array.getElem?_toList, hcs]
  simp [Lib.firstTab, hc]

theorem accept_of {W : World} (h : Lib.VarReads Tryd.prog W "unicode/utf8.acceptRanges" Lib.acceptData) : ∀ i, i < 16 → W.cell? ⟨3, 2 * i, none⟩ = some (.int .u8 (Lib.accLo i : Int)) ∧ W.cell? ⟨3, 2 * i + 1, none⟩ = some (.int .u8 (Lib.accHi i : Int)) := by
  intro i hi
  obtain ⟨g, t, cs, fuel, p, hg, hty, hvar, hd⟩ := h
  have eg : g = 3 := Option.some.inj (hg.symm.trans (by kernel_rfl))
  subst eg
  have et : t = 111 := Option.some.inj (hty.symm.trans (by kernel_rfl))
  subst et
  obtain ⟨fu, d, q, hdi, he⟩ := Lib.array_elem Tryd.underlying111 hd i hi
  rw [cellsAR] at he
  have hdv : d = .agg ([(Lib.accLo i : Int), (Lib.accHi i : Int)].map fun z => .lit (.int .u8 z)) := by
    rw [List.getElem?_map, List.getElem?_range hi] at hdi
    exact (Option.some.inj hdi).symm
  subst hdv
  have fields : ∀ (j : Nat) (f : Field), (Tryd.prog.fieldsOf 110)[j]? = some f → Tryd.prog.underlying f.type = some (.int .u8) ∧ f.offset = j ∧ Tryd.prog.cellsOf f.type = 1 := by
    intro j f hj
    have e2 : Tryd.prog.fieldsOf 110 = #[(Tryd.prog.fieldsOf 110)[0]!, (Tryd.prog.fieldsOf 110)[1]!] := by kernel_rfl
    rw [e2] at hj
    match j, hj with
    | 0, hj => simp at hj; subst hj; exact ⟨by kernel_rfl, by kernel_rfl, by kernel_rfl⟩
    | 1, hj => simp at hj; subst hj; exact ⟨by kernel_rfl, by kernel_rfl, by kernel_rfl⟩
    | j + 2, hj => simp at hj
  have hcs := Lib.ints_of_struct (fs := Tryd.prog.fieldsOf 110) (by kernel_rfl) fields (by kernel_rfl) he
  have q0 := congrArg (fun l => l[0]?) hcs
  have q1 := congrArg (fun l => l[1]?) hcs
  simp only [List.getElem?_take, List.getElem?_drop] at q0 q1
  refine ⟨?_, ?_⟩
  · rw [World.var?_cell hg hvar (2 * i), ← Array.getElem?_toList, Nat.mul_comm]
    simpa using q0
  · rw [World.var?_cell hg hvar (2 * i + 1), ← Array.getElem?_toList, Nat.mul_comm]
    simpa using q1

theorem cellsMv : Tryd.prog.cellsOf 80 = 2 := by kernel_rfl
theorem cellsStr : Tryd.prog.cellsOf 9 = 1 := by kernel_rfl

theorem signs_of {W : World} (h : Lib.VarReads Tryd.prog W "quipu/affix.signs" Rows.laid_quipu_affix_signs) (i : Nat) (hi : i < 6) (l : List UInt8) (hl : (Rows.laid_quipu_affix_signs : DataW Unit) = .agg (([[], [45], [43], [37], [226, 128, 176], [194, 164]] : List (List UInt8)).map fun x => .lit (.string x))) (he : ([[], [45], [43], [37], [226, 128, 176], [194, 164]] : List (List UInt8))[i]? = some l) : W.cell? ⟨0, i, none⟩ = some (.string ⟨l.toArray⟩) := by
  obtain ⟨g, t, cs, fuel, p, hg, hty, hvar, hd⟩ := h
  have eg : g = 0 := Option.some.inj (hg.symm.trans (by kernel_rfl))
  subst eg
  have et : t = 50 := Option.some.inj (hty.symm.trans (by kernel_rfl))
  subst et
  rw [hl] at hd
  obtain ⟨fu, d, q, hdi, hel⟩ := Lib.array_elem Tryd.underlying50 hd i hi
  rw [cellsStr] at hel
  obtain ⟨z, e0, f0, _⟩ := DataW.trod_string Tryd.underlying9 hel
  rw [List.getElem?_map, he] at hdi
  have e1 : (DataW.lit (.string l) : DataW Unit) = d := Option.some.inj hdi
  have e2 : z.data.toList = l := by
    have e3 := e1.trans (congrArg Prod.fst f0)
    simp only [DataW.lit.injEq, Lit.string.injEq] at e3
    exact e3.symm
  have q0 := congrArg (fun l => l[0]?) e0
  simp only [List.getElem?_take, List.getElem?_drop] at q0
  rw [World.var?_cell hg hvar i, ← Array.getElem?_toList]
  have ez : z = ⟨l.toArray⟩ := by rw [← e2]
  rw [← ez]
  simpa using q0

theorem moves_of {W : World} (h : Lib.VarReads Tryd.prog W "quipu/affix.moves" Rows.laid_quipu_affix_moves) (i : Nat) (hi : i < 4) (a b : Int) (hl : (Rows.laid_quipu_affix_moves : DataW Unit) = .agg (([(1, 0), (0, 2), (3, 2), (2, 0)] : List (Int × Int)).map fun x => .agg ([x.1, x.2].map fun z => .lit (.int .i64 z)))) (he : ([(1, 0), (0, 2), (3, 2), (2, 0)] : List (Int × Int))[i]? = some (a, b)) : W.cell? ⟨1, 2 * i, none⟩ = some (.int .i64 a) ∧ W.cell? ⟨1, 2 * i + 1, none⟩ = some (.int .i64 b) := by
  obtain ⟨g, t, cs, fuel, p, hg, hty, hvar, hd⟩ := h
  have eg : g = 1 := Option.some.inj (hg.symm.trans (by kernel_rfl))
  subst eg
  have et : t = 81 := Option.some.inj (hty.symm.trans (by kernel_rfl))
  subst et
  rw [hl] at hd
  obtain ⟨fu, d, q, hdi, hel⟩ := Lib.array_elem Tryd.underlying81 hd i hi
  rw [cellsMv] at hel
  rw [List.getElem?_map, he] at hdi
  have hdv : d = .agg ([a, b].map fun z => .lit (.int .i64 z)) := (Option.some.inj hdi).symm
  subst hdv
  have fields : ∀ (j : Nat) (f : Field), (Tryd.prog.fieldsOf 80)[j]? = some f → Tryd.prog.underlying f.type = some (.int .i64) ∧ f.offset = j ∧ Tryd.prog.cellsOf f.type = 1 := by
    intro j f hj
    have e2 : Tryd.prog.fieldsOf 80 = #[(Tryd.prog.fieldsOf 80)[0]!, (Tryd.prog.fieldsOf 80)[1]!] := by kernel_rfl
    rw [e2] at hj
    match j, hj with
    | 0, hj => simp at hj; subst hj; exact ⟨by kernel_rfl, by kernel_rfl, by kernel_rfl⟩
    | 1, hj => simp at hj; subst hj; exact ⟨by kernel_rfl, by kernel_rfl, by kernel_rfl⟩
    | j + 2, hj => simp at hj
  have hcs := Lib.ints_of_struct (fs := Tryd.prog.fieldsOf 80) (by kernel_rfl) fields (by kernel_rfl) hel
  have q0 := congrArg (fun l => l[0]?) hcs
  have q1 := congrArg (fun l => l[1]?) hcs
  simp only [List.getElem?_take, List.getElem?_drop] at q0 q1
  refine ⟨?_, ?_⟩
  · rw [World.var?_cell hg hvar (2 * i), ← Array.getElem?_toList, Nat.mul_comm]
    simpa using q0
  · rw [World.var?_cell hg hvar (2 * i + 1), ← Array.getElem?_toList, Nat.mul_comm]
    simpa using q1

theorem table {W : World} (h : laidMetH Tryd.prog [("unicode/utf8.acceptRanges", Rows.laid_unicode_utf8_acceptRanges), ("quipu/affix.signs", Rows.laid_quipu_affix_signs), ("quipu/affix.moves", Rows.laid_quipu_affix_moves), ("unicode/utf8.first", Rows.laid_unicode_utf8_first)] W) (hs : W.ShapedOpen Tryd.prog) : Wd W := by
  have h' : laidMet Tryd.prog [("unicode/utf8.acceptRanges", Rows.laid_unicode_utf8_acceptRanges), ("quipu/affix.signs", Rows.laid_quipu_affix_signs), ("quipu/affix.moves", Rows.laid_quipu_affix_moves), ("unicode/utf8.first", Rows.laid_unicode_utf8_first)] W := h
  have h3 := Lib.laidMet.reads h' (n := "unicode/utf8.first") (d := Rows.laid_unicode_utf8_first) (by simp)
  have h4 := Lib.laidMet.reads h' (n := "unicode/utf8.acceptRanges") (d := Rows.laid_unicode_utf8_acceptRanges) (by simp)
  have h5 := Lib.laidMet.reads h' (n := "quipu/affix.signs") (d := Rows.laid_quipu_affix_signs) (by simp)
  have h6 := Lib.laidMet.reads h' (n := "quipu/affix.moves") (d := Rows.laid_quipu_affix_moves) (by simp)
  rw [laid_first] at h3
  rw [laid_accept] at h4
  have m0 := moves_of h6 0 (by decide) 1 0 rfl rfl
  have m1 := moves_of h6 1 (by decide) 0 2 rfl rfl
  have m2 := moves_of h6 2 (by decide) 3 2 rfl rfl
  have m3 := moves_of h6 3 (by decide) 2 0 rfl rfl
  exact ⟨⟨first_of h3, accept_of h4⟩, signs_of h5 0 (by decide) _ rfl rfl, signs_of h5 1 (by decide) _ rfl rfl, signs_of h5 2 (by decide) _ rfl rfl, signs_of h5 3 (by decide) _ rfl rfl, signs_of h5 4 (by decide) _ rfl rfl, signs_of h5 5 (by decide) _ rfl rfl, m0.1, m0.2, m1.1, m1.2, m2.1, m2.2, m3.1, m3.2,
    Go.Proofs.cell_of_shapedOpen_int (t := 3) (zero := #[.int .i64 0]) (k := .i64) hs (of_decide_eq_true (by kernel_rfl)) (by kernel_rfl) rfl (by kernel_rfl) (by kernel_rfl) Tryd.underlying3⟩

def tabVals : DataW Unit → Array Value
  | .agg l => (l.flatMap fun
      | .lit (.int k z) => [Value.int k z]
      | .lit (.string l) => [Value.string ⟨l.toArray⟩]
      | .agg l2 => l2.map fun
        | .lit (.int k z) => Value.int k z
        | _ => .int .u8 0
      | _ => []).toArray
  | _ => #[]

def putVals (d : DataW Unit) : Obj → Obj
  | .cells _ t frozen => .cells (tabVals d) t frozen
  | o => o

noncomputable def laidWorld (os : Os) : World :=
  { World.holding Tryd.prog os ⟨#[], #[], []⟩ with
    heap := ((((World.holding Tryd.prog os ⟨#[], #[], []⟩).heap.modify 3 (putVals Rows.laid_unicode_utf8_acceptRanges)).modify 2 (putVals Rows.laid_unicode_utf8_first)).modify 0 (putVals Rows.laid_quipu_affix_signs)).modify 1 (putVals Rows.laid_quipu_affix_moves) }

end Go.Proofs.YtobcbffakldfcaaDoor
