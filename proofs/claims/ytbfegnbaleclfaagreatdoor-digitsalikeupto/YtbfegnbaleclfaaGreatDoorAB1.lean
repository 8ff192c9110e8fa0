/-
  From what a row of the given statements hands over (readings of the arguments, the bound on their bulk) to the words of the walks.
  An argument that is an api.Dec, as a row of the given statements hands it over.
  Arguments that are an api.Precision or an api.Shown, as a row of the given statements hands them over.
  An argument that is an api.Shown, with what it reads as; and how long its texts may be.
  Plain mathematics of adding and taking away with a carry, digit by digit.
-/
import Derived.Test.YtbfegnbaleclfaaGreatDoorRows
import Derived.Test.YtbfegnbaleclfaaGreatDoorAOwn
import Derived.ProofKit
import Derived.OpenShut
import Derived.JoinedCond
import Derived.ChangeSame
import Derived.Lib.SmallJoins
import Derived.ChangeArms
import Derived.SizedLaws
namespace Go.Proofs.YtbfegnbaleclfaaGreatDoor
open Go.ChangeShapes Go.WideShapes Go.ChangeAt Go.RowKit

theorem Tryz.own : ownKnob Tryz.prog.godebug = none := by kernel_rfl
theorem Tryz.laidOut : laidOutB Tryz.prog = true := by kernel_rfl
end Go.Proofs.YtbfegnbaleclfaaGreatDoor

namespace Go.Proofs.YtbfegnbaleclfaaGreatDoor
open Go.ChangeShapes Go.WideShapes Go.ChangeAt Go.RowKit

end Go.Proofs.YtbfegnbaleclfaaGreatDoor

namespace Go.Proofs.YtbfegnbaleclfaaGreatDoor
open Go.ChangeShapes Go.WideShapes Go.ChangeAt Go.RowKit

theorem array6 {α : Type} {cs : Array α} (h : cs.size = 6) : ∃ c0 c1 c2 c3 c4 c5, cs = #[c0, c1, c2, c3, c4, c5] := by
  obtain ⟨l⟩ := cs
  match l, h with
  | [c0, c1, c2, c3, c4, c5], _ => exact ⟨c0, c1, c2, c3, c4, c5, rfl⟩
theorem Tryz.cellsSh : Tryz.prog.cellsOf 23 = 6 := by kernel_rfl
theorem Tryz.cellsIn : Tryz.prog.cellsOf 3 = 1 := by kernel_rfl
theorem Tryz.cellsBo : Tryz.prog.cellsOf 4 = 1 := by kernel_rfl
theorem Tryz.cellsSt : Tryz.prog.cellsOf 9 = 1 := by kernel_rfl

end Go.Proofs.YtbfegnbaleclfaaGreatDoor

namespace Go.Proofs.YtbfegnbaleclfaaGreatDoor
open Go.ChangeShapes Go.WideShapes Go.ChangeAt Go.RowKit

theorem list6 {α : Type} {l : List α} (h : l.length = 6) : ∃ a b c d e f, l = [a, b, c, d, e, f] := by
  match l, h with
  | [a, b, c, d, e, f], _ => exact ⟨a, b, c, d, e, f, rfl⟩

set_option maxRecDepth 100000 in
theorem viewH {H : Type} {enc : TypeId × Value → H} {W : World} {base : Nat} {v : Value} {d : DataW H} {p : List MemPlace} (hval : Value.okWide Tryz.prog W .any base 23 v) (h : DataW.Trod enc Tryz.prog W 0 (fun _ => true) true 23 v d p) :
    ∃ (c : Int) (n : Bool) (ti tf : ByteArray) (x : Int) (cm : Bool), v = .agg #[.int .i64 c, .bool n, .string ti, .string tf, .int .i64 x, .bool cm] ∧ d = .agg [.lit (.int .i64 c), .lit (.bool n), .lit (.string ti.data.toList), .lit (.string tf.data.toList), .lit (.int .i64 x), .lit (.bool cm)] := by
  obtain ⟨cs, rfl, hsz⟩ := okWide_struct Tryz.underlying23 hval
  obtain ⟨c0, c1, c2, c3, c4, c5, rfl⟩ := array6 (hsz.trans Tryz.cellsSh)
  clear hsz hval
  obtain ⟨fuel, hf⟩ := h
  obtain ⟨xs, n, _, hx, _, hl, hg⟩ := DataW.trod_struct Tryz.underlying23 hf
  obtain ⟨y0, y1, y2, y3, y4, y5, rfl⟩ := list6 (l := xs) (by simpa using hl)
  have hd : d = .agg [y0.1, y1.1, y2.1, y3.1, y4.1, y5.1] := by simpa using congrArg Prod.fst hx
  have k0 : DataW.trod enc Tryz.prog W 0 (fun _ => true) true n 3 [c0] = some y0 := by simpa [Value.cells, Tryz.cellsIn] using hg 0 _ rfl
  obtain ⟨a0, e0, z0⟩ := DataW.trod_int Tryz.underlying3 k0
  have k1 : DataW.trod enc Tryz.prog W 0 (fun _ => true) true n 4 [c1] = some y1 := by simpa [Value.cells, Tryz.cellsBo] using hg 1 _ rfl
  obtain ⟨a1, e1, z1⟩ := DataW.trod_bool Tryz.underlying4 k1
  have k2 : DataW.trod enc Tryz.prog W 0 (fun _ => true) true n 9 [c2] = some y2 := by simpa [Value.cells, Tryz.cellsSt] using hg 2 _ rfl
  obtain ⟨a2, e2, z2⟩ := DataW.trod_string Tryz.underlying9 k2
  have k3 : DataW.trod enc Tryz.prog W 0 (fun _ => true) true n 9 [c3] = some y3 := by simpa [Value.cells, Tryz.cellsSt] using hg 3 _ rfl
  obtain ⟨a3, e3, z3⟩ := DataW.trod_string Tryz.underlying9 k3
  have k4 : DataW.trod enc Tryz.prog W 0 (fun _ => true) true n 3 [c4] = some y4 := by simpa [Value.cells, Tryz.cellsIn] using hg 4 _ rfl
  obtain ⟨a4, e4, z4⟩ := DataW.trod_int Tryz.underlying3 k4
  have k5 : DataW.trod enc Tryz.prog W 0 (fun _ => true) true n 4 [c5] = some y5 := by simpa [Value.cells, Tryz.cellsBo] using hg 5 _ rfl
  obtain ⟨a5, e5, z5⟩ := DataW.trod_bool Tryz.underlying4 k5
  simp at e0 e1 e2 e3 e4 e5
  subst e0 e1 e2 e3 e4 e5
  refine ⟨a0, a1, a2, a3, a4, a5, rfl, ?_⟩
  rw [hd]
  simp_all

end Go.Proofs.YtbfegnbaleclfaaGreatDoor

namespace Go.Proofs.YtbfegnbaleclfaaGreatDoor

end Go.Proofs.YtbfegnbaleclfaaGreatDoor
