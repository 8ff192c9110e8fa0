/-
  From what a row of the given statements hands over (readings of the arguments, the bound on their bulk) to the words of the walks.
  An argument that is an api.Dec, as a row of the given statements hands it over.
  Arguments that are an api.Precision or an api.Shown, as a row of the given statements hands them over.
  An argument that is an api.Shown, with what it reads as; and how long its texts may be.
  An argument that is an api.Operands, with what it reads as; and how long its texts may be.
  Plain mathematics of adding and taking away with a carry, digit by digit.
-/
import Derived.Test.YtobloamnaemfnaaDoorRows
import Derived.Test.YtobloamnaemfnaaDoorYOwn
import Derived.ProofKit
import Derived.OpenShut
import Derived.JoinedCond
import Derived.ChangeSame
import Derived.Lib.SmallJoins
import Derived.ChangeArms
import Derived.SizedLaws
namespace Go.Proofs.YtobloamnaemfnaaDoor
open Go.ChangeShapes Go.WideShapes Go.ChangeAt Go.RowKit

theorem Tryd.own : ownKnob Tryd.prog.godebug = none := by kernel_rfl
theorem Tryd.laidOut : laidOutB Tryd.prog = true := by kernel_rfl
end Go.Proofs.YtobloamnaemfnaaDoor

namespace Go.Proofs.YtobloamnaemfnaaDoor
open Go.ChangeShapes Go.WideShapes Go.ChangeAt Go.RowKit

end Go.Proofs.YtobloamnaemfnaaDoor

namespace Go.Proofs.YtobloamnaemfnaaDoor
open Go.ChangeShapes Go.WideShapes Go.ChangeAt Go.RowKit

theorem array6 {α : Type} {cs : Array α} (h : cs.size = 6) : ∃ c0 c1 c2 c3 c4 c5, cs = #[c0, c1, c2, c3, c4, c5] := by
  obtain ⟨l⟩ := cs
  match l, h with
  | [c0, c1, c2, c3, c4, c5], _ => exact ⟨c0, c1, c2, c3, c4, c5, rfl⟩
theorem field_at {H : Type} {enc : TypeId × Value → H} {P : Program} {w : World} {base : Nat} {spare : Nat → Bool} {held : Bool} {t : TypeId} {fs : Array Field} {fuel : Nat} {cs : List Value} {x : DataW H × List MemPlace} (hs : P.underlying t = some (.struct fs)) (hf : DataW.trod enc P w base spare held fuel t cs = some x) (i : Nat) (f : Field) (hi : fs[i]? = some f) :
    ∃ n y, DataW.trod enc P w base spare held n f.type ((cs.drop f.offset).take (P.cellsOf f.type)) = some y := by
  obtain ⟨xs, n, _, _, _, hl, h⟩ := DataW.trod_struct hs hf
  have hlt : i < xs.length := by
    rcases Nat.lt_or_ge i fs.size with g | g
    · omega
    · rw [Array.getElem?_eq_none g] at hi; cases hi
  exact ⟨n, xs[i], by rw [h i f hi, List.getElem?_eq_getElem hlt]⟩

theorem Tryd.cellsSh : Tryd.prog.cellsOf 25 = 6 := by kernel_rfl
theorem Tryd.cellsIn : Tryd.prog.cellsOf 3 = 1 := by kernel_rfl
theorem Tryd.cellsBo : Tryd.prog.cellsOf 4 = 1 := by kernel_rfl
theorem Tryd.cellsSt : Tryd.prog.cellsOf 9 = 1 := by kernel_rfl

set_option maxRecDepth 100000 in
theorem viewS {H : Type} {enc : TypeId × Value → H} {W : World} {base : Nat} {v : Value} {d : DataW H} {p : List MemPlace} (hval : Value.okWide Tryd.prog W .any base 25 v) (h : DataW.Trod enc Tryd.prog W 0 (fun _ => true) true 25 v d p) :
    ∃ (c : Int) (n : Bool) (ti tf : ByteArray) (x : Int) (cm : Bool), v = .agg #[.int .i64 c, .bool n, .string ti, .string tf, .int .i64 x, .bool cm] := by
  obtain ⟨cs, rfl, hsz⟩ := okWide_struct Tryd.underlying25 hval
  obtain ⟨c0, c1, c2, c3, c4, c5, rfl⟩ := array6 (hsz.trans Tryd.cellsSh)
  clear hsz hval
  obtain ⟨fuel, hf⟩ := h
  obtain ⟨n0, y0, g0⟩ := field_at Tryd.underlying25 hf 0 _ rfl
  have k0 : DataW.trod enc Tryd.prog W 0 (fun _ => true) true n0 3 [c0] = some y0 := by simpa [Value.cells, Tryd.cellsIn] using g0
  obtain ⟨a0, e0, _⟩ := DataW.trod_int Tryd.underlying3 k0
  obtain ⟨n1, y1, g1⟩ := field_at Tryd.underlying25 hf 1 _ rfl
  have k1 : DataW.trod enc Tryd.prog W 0 (fun _ => true) true n1 4 [c1] = some y1 := by simpa [Value.cells, Tryd.cellsBo] using g1
  obtain ⟨a1, e1, _⟩ := DataW.trod_bool Tryd.underlying4 k1
  obtain ⟨n2, y2, g2⟩ := field_at Tryd.underlying25 hf 2 _ rfl
  have k2 : DataW.trod enc Tryd.prog W 0 (fun _ => true) true n2 9 [c2] = some y2 := by simpa [Value.cells, Tryd.cellsSt] using g2
  obtain ⟨a2, e2, _⟩ := DataW.trod_string Tryd.underlying9 k2
  obtain ⟨n3, y3, g3⟩ := field_at Tryd.underlying25 hf 3 _ rfl
  have k3 : DataW.trod enc Tryd.prog W 0 (fun _ => true) true n3 9 [c3] = some y3 := by simpa [Value.cells, Tryd.cellsSt] using g3
  obtain ⟨a3, e3, _⟩ := DataW.trod_string Tryd.underlying9 k3
  obtain ⟨n4, y4, g4⟩ := field_at Tryd.underlying25 hf 4 _ rfl
  have k4 : DataW.trod enc Tryd.prog W 0 (fun _ => true) true n4 3 [c4] = some y4 := by simpa [Value.cells, Tryd.cellsIn] using g4
  obtain ⟨a4, e4, _⟩ := DataW.trod_int Tryd.underlying3 k4
  obtain ⟨n5, y5, g5⟩ := field_at Tryd.underlying25 hf 5 _ rfl
  have k5 : DataW.trod enc Tryd.prog W 0 (fun _ => true) true n5 4 [c5] = some y5 := by simpa [Value.cells, Tryd.cellsBo] using g5
  obtain ⟨a5, e5, _⟩ := DataW.trod_bool Tryd.underlying4 k5
  simp at e0 e1 e2 e3 e4 e5
  subst e0 e1 e2 e3 e4 e5
  exact ⟨a0, a1, a2, a3, a4, a5, rfl⟩

end Go.Proofs.YtobloamnaemfnaaDoor

namespace Go.Proofs.YtobloamnaemfnaaDoor
open Go.ChangeShapes Go.WideShapes Go.ChangeAt Go.RowKit

theorem list6 {α : Type} {l : List α} (h : l.length = 6) : ∃ a b c d e f, l = [a, b, c, d, e, f] := by
  match l, h with
  | [a, b, c, d, e, f], _ => exact ⟨a, b, c, d, e, f, rfl⟩

end Go.Proofs.YtobloamnaemfnaaDoor

namespace Go.Proofs.YtobloamnaemfnaaDoor
open Go.ChangeShapes Go.WideShapes Go.ChangeAt Go.RowKit

theorem Tryd.cellsOp : Tryd.prog.cellsOf 23 = 6 := by kernel_rfl

set_option maxRecDepth 100000 in
theorem viewO {H : Type} {enc : TypeId × Value → H} {W : World} {base : Nat} {v : Value} {d : DataW H} {p : List MemPlace} (hval : Value.okWide Tryd.prog W .any base 23 v) (h : DataW.Trod enc Tryd.prog W 0 (fun _ => true) true 23 v d p) :
    ∃ (i : ByteArray) (n z : Int) (f t : ByteArray) (e : Int), v = .agg #[.string i, .int .i64 n, .int .i64 z, .string f, .string t, .int .i64 e] ∧ d = .agg [.lit (.string i.data.toList), .lit (.int .i64 n), .lit (.int .i64 z), .lit (.string f.data.toList), .lit (.string t.data.toList), .lit (.int .i64 e)] := by
  obtain ⟨cs, rfl, hsz⟩ := okWide_struct Tryd.underlying23 hval
  obtain ⟨c0, c1, c2, c3, c4, c5, rfl⟩ := array6 (hsz.trans Tryd.cellsOp)
  clear hsz hval
  obtain ⟨fuel, hf⟩ := h
  obtain ⟨xs, n, _, hx, _, hl, hg⟩ := DataW.trod_struct Tryd.underlying23 hf
  obtain ⟨y0, y1, y2, y3, y4, y5, rfl⟩ := list6 (l := xs) (by simpa using hl)
  have hd : d = .agg [y0.1, y1.1, y2.1, y3.1, y4.1, y5.1] := by simpa using congrArg Prod.fst hx
  have k0 : DataW.trod enc Tryd.prog W 0 (fun _ => true) true n 9 [c0] = some y0 := by simpa [Value.cells, Tryd.cellsSt] using hg 0 _ rfl
  obtain ⟨a0, e0, z0⟩ := DataW.trod_string Tryd.underlying9 k0
  have k1 : DataW.trod enc Tryd.prog W 0 (fun _ => true) true n 3 [c1] = some y1 := by simpa [Value.cells, Tryd.cellsIn] using hg 1 _ rfl
  obtain ⟨a1, e1, z1⟩ := DataW.trod_int Tryd.underlying3 k1
  have k2 : DataW.trod enc Tryd.prog W 0 (fun _ => true) true n 3 [c2] = some y2 := by simpa [Value.cells, Tryd.cellsIn] using hg 2 _ rfl
  obtain ⟨a2, e2, z2⟩ := DataW.trod_int Tryd.underlying3 k2
  have k3 : DataW.trod enc Tryd.prog W 0 (fun _ => true) true n 9 [c3] = some y3 := by simpa [Value.cells, Tryd.cellsSt] using hg 3 _ rfl
  obtain ⟨a3, e3, z3⟩ := DataW.trod_string Tryd.underlying9 k3
  have k4 : DataW.trod enc Tryd.prog W 0 (fun _ => true) true n 9 [c4] = some y4 := by simpa [Value.cells, Tryd.cellsSt] using hg 4 _ rfl
  obtain ⟨a4, e4, z4⟩ := DataW.trod_string Tryd.underlying9 k4
  have k5 : DataW.trod enc Tryd.prog W 0 (fun _ => true) true n 3 [c5] = some y5 := by simpa [Value.cells, Tryd.cellsIn] using hg 5 _ rfl
  obtain ⟨a5, e5, z5⟩ := DataW.trod_int Tryd.underlying3 k5
  simp at e0 e1 e2 e3 e4 e5
  subst e0 e1 e2 e3 e4 e5
  refine ⟨a0, a1, a2, a3, a4, a5, rfl, ?_⟩
  rw [hd]
  simp_all

theorem sized_oper {H : Type} {ts : List TypeId} {ds : List (DataW H)} (h : (DataW.weightsEach Tryd.prog ts ds).all (· ≤ reachBytes) = true) {j : Nat} {v z e : Int} {li lf lt : List UInt8} (ht : ts[j]? = some 23) (hd : ds[j]? = some (.agg [.lit (.string li), .lit (.int .i64 v), .lit (.int .i64 z), .lit (.string lf), .lit (.string lt), .lit (.int .i64 e)])) : li.length ≤ reachBytes ∧ lf.length ≤ reachBytes ∧ lt.length ≤ reachBytes := by
  have h1 := List.all_eq_true.1 h li.length (DataW.weights_mem_each ht hd _ (by simp [DataW.weights, DataW.weightsEach, Tryd.underlying23]))
  have h2 := List.all_eq_true.1 h lf.length (DataW.weights_mem_each ht hd _ (by simp [DataW.weights, DataW.weightsEach, Tryd.underlying23]))
  have h3 := List.all_eq_true.1 h lt.length (DataW.weights_mem_each ht hd _ (by simp [DataW.weights, DataW.weightsEach, Tryd.underlying23]))
  exact ⟨by simpa using h1, by simpa using h2, by simpa using h3⟩

end Go.Proofs.YtobloamnaemfnaaDoor

namespace Go.Proofs.YtobloamnaemfnaaDoor

end Go.Proofs.YtobloamnaemfnaaDoor
