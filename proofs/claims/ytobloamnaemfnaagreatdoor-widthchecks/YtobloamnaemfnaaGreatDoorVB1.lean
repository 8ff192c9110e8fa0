/-
  From what a row of the given statements hands over (readings of the arguments, the bound on their bulk) to the words of the walks.
  An argument that is an api.Dec, as a row of the given statements hands it over.
  Arguments that are an api.Precision or an api.Shown, as a row of the given statements hands them over.
  Plain mathematics of adding and taking away with a carry, digit by digit.
-/
import Derived.Test.YtobloamnaemfnaaGreatDoorRows
import Derived.Test.YtobloamnaemfnaaGreatDoorVOwn
import Derived.ProofKit
import Derived.OpenShut
import Derived.JoinedCond
import Derived.ChangeSame
import Derived.Lib.SmallJoins
import Derived.ChangeArms
namespace Go.Proofs.YtobloamnaemfnaaGreatDoor
open Go.ChangeShapes Go.WideShapes Go.ChangeAt Go.RowKit

theorem Tryz.own : ownKnob Tryz.prog.godebug = none := by kernel_rfl
theorem Tryz.laidOut : laidOutB Tryz.prog = true := by kernel_rfl
end Go.Proofs.YtobloamnaemfnaaGreatDoor

namespace Go.Proofs.YtobloamnaemfnaaGreatDoor
open Go.ChangeShapes Go.WideShapes Go.ChangeAt Go.RowKit

theorem Tryz.cellsD : Tryz.prog.cellsOf 23 = 4 := by kernel_rfl

end Go.Proofs.YtobloamnaemfnaaGreatDoor

namespace Go.Proofs.YtobloamnaemfnaaGreatDoor
open Go.ChangeShapes Go.WideShapes Go.ChangeAt Go.RowKit

theorem array14 {α : Type} {cs : Array α} (h : cs.size = 14) : ∃ c0 c1 c2 c3 c4 c5 c6 c7 c8 c9 c10 c11 c12 c13, cs = #[c0, c1, c2, c3, c4, c5, c6, c7, c8, c9, c10, c11, c12, c13] := by
  obtain ⟨l⟩ := cs
  match l, h with
  | [c0, c1, c2, c3, c4, c5, c6, c7, c8, c9, c10, c11, c12, c13], _ => exact ⟨c0, c1, c2, c3, c4, c5, c6, c7, c8, c9, c10, c11, c12, c13, rfl⟩

theorem field_at {H : Type} {enc : TypeId × Value → H} {P : Program} {w : World} {base : Nat} {spare : Nat → Bool} {held : Bool} {t : TypeId} {fs : Array Field} {fuel : Nat} {cs : List Value} {x : DataW H × List MemPlace} (hs : P.underlying t = some (.struct fs)) (hf : DataW.trod enc P w base spare held fuel t cs = some x) (i : Nat) (f : Field) (hi : fs[i]? = some f) :
    ∃ n y, DataW.trod enc P w base spare held n f.type ((cs.drop f.offset).take (P.cellsOf f.type)) = some y := by
  obtain ⟨xs, n, _, _, _, hl, h⟩ := DataW.trod_struct hs hf
  have hlt : i < xs.length := by
    rcases Nat.lt_or_ge i fs.size with g | g
    · omega
    · rw [Array.getElem?_eq_none g] at hi; cases hi
  exact ⟨n, xs[i], by rw [h i f hi, List.getElem?_eq_getElem hlt]⟩

theorem Tryz.cellsPr : Tryz.prog.cellsOf 30 = 14 := by kernel_rfl
theorem Tryz.cellsIn : Tryz.prog.cellsOf 3 = 1 := by kernel_rfl
theorem Tryz.cellsBo : Tryz.prog.cellsOf 4 = 1 := by kernel_rfl
theorem Tryz.cellsSt : Tryz.prog.cellsOf 9 = 1 := by kernel_rfl

set_option maxRecDepth 100000 in
theorem viewP {H : Type} {enc : TypeId × Value → H} {W : World} {base : Nat} {v : Value} {d : DataW H} {p : List MemPlace} (hval : Value.okWide Tryz.prog W .any base 30 v) (h : DataW.Trod enc Tryz.prog W 0 (fun _ => true) true 30 v d p) :
    ∃ (k : Int) (mf : Int) (xf : Int) (ms : Int) (xs : Int) (st : Bool) (cs : Int) (ns : Bool) (ts : ByteArray) (es : Int) (md : Int) (hd : Bool) (im : Int) (ix : Int), v = .agg #[.int .i64 k, .int .i64 mf, .int .i64 xf, .int .i64 ms, .int .i64 xs, .bool st, .int .i64 cs, .bool ns, .string ts, .int .i64 es, .int .i64 md, .bool hd, .int .i64 im, .int .i64 ix] := by
  obtain ⟨cs, rfl, hsz⟩ := okWide_struct Tryz.underlying30 hval
  obtain ⟨c0, c1, c2, c3, c4, c5, c6, c7, c8, c9, c10, c11, c12, c13, rfl⟩ := array14 (hsz.trans Tryz.cellsPr)
  clear hsz hval
  obtain ⟨fuel, hf⟩ := h
  obtain ⟨n0, y0, g0⟩ := field_at Tryz.underlying30 hf 0 _ rfl
  have k0 : DataW.trod enc Tryz.prog W 0 (fun _ => true) true n0 3 [c0] = some y0 := by simpa [Value.cells, Tryz.cellsIn] using g0
  obtain ⟨a0, e0, _⟩ := DataW.trod_int Tryz.underlying3 k0
  obtain ⟨n1, y1, g1⟩ := field_at Tryz.underlying30 hf 1 _ rfl
  have k1 : DataW.trod enc Tryz.prog W 0 (fun _ => true) true n1 3 [c1] = some y1 := by simpa [Value.cells, Tryz.cellsIn] using g1
  obtain ⟨a1, e1, _⟩ := DataW.trod_int Tryz.underlying3 k1
  obtain ⟨n2, y2, g2⟩ := field_at Tryz.underlying30 hf 2 _ rfl
  have k2 : DataW.trod enc Tryz.prog W 0 (fun _ => true) true n2 3 [c2] = some y2 := by simpa [Value.cells, Tryz.cellsIn] using g2
  obtain ⟨a2, e2, _⟩ := DataW.trod_int Tryz.underlying3 k2
  obtain ⟨n3, y3, g3⟩ := field_at Tryz.underlying30 hf 3 _ rfl
  have k3 : DataW.trod enc Tryz.prog W 0 (fun _ => true) true n3 3 [c3] = some y3 := by simpa [Value.cells, Tryz.cellsIn] using g3
  obtain ⟨a3, e3, _⟩ := DataW.trod_int Tryz.underlying3 k3
  obtain ⟨n4, y4, g4⟩ := field_at Tryz.underlying30 hf 4 _ rfl
  have k4 : DataW.trod enc Tryz.prog W 0 (fun _ => true) true n4 3 [c4] = some y4 := by simpa [Value.cells, Tryz.cellsIn] using g4
  obtain ⟨a4, e4, _⟩ := DataW.trod_int Tryz.underlying3 k4
  obtain ⟨n5, y5, g5⟩ := field_at Tryz.underlying30 hf 5 _ rfl
  have k5 : DataW.trod enc Tryz.prog W 0 (fun _ => true) true n5 4 [c5] = some y5 := by simpa [Value.cells, Tryz.cellsBo] using g5
  obtain ⟨a5, e5, _⟩ := DataW.trod_bool Tryz.underlying4 k5
  obtain ⟨n6, y6, g6⟩ := field_at Tryz.underlying30 hf 6 _ rfl
  have k6 : DataW.trod enc Tryz.prog W 0 (fun _ => true) true n6 23 [c6, c7, c8, c9] = some y6 := by simpa [Value.cells, Tryz.cellsD] using g6
  obtain ⟨m0, z0, q0⟩ := field_at Tryz.underlying23 k6 0 _ rfl
  have r0 : DataW.trod enc Tryz.prog W 0 (fun _ => true) true m0 3 [c6] = some z0 := by simpa [Value.cells, Tryz.cellsIn] using q0
  obtain ⟨a6, e6, _⟩ := DataW.trod_int Tryz.underlying3 r0
  obtain ⟨m1, z1, q1⟩ := field_at Tryz.underlying23 k6 1 _ rfl
  have r1 : DataW.trod enc Tryz.prog W 0 (fun _ => true) true m1 4 [c7] = some z1 := by simpa [Value.cells, Tryz.cellsBo] using q1
  obtain ⟨a7, e7, _⟩ := DataW.trod_bool Tryz.underlying4 r1
  obtain ⟨m2, z2, q2⟩ := field_at Tryz.underlying23 k6 2 _ rfl
  have r2 : DataW.trod enc Tryz.prog W 0 (fun _ => true) true m2 9 [c8] = some z2 := by simpa [Value.cells, Tryz.cellsSt] using q2
  obtain ⟨a8, e8, _⟩ := DataW.trod_string Tryz.underlying9 r2
  obtain ⟨m3, z3, q3⟩ := field_at Tryz.underlying23 k6 3 _ rfl
  have r3 : DataW.trod enc Tryz.prog W 0 (fun _ => true) true m3 3 [c9] = some z3 := by simpa [Value.cells, Tryz.cellsIn] using q3
  obtain ⟨a9, e9, _⟩ := DataW.trod_int Tryz.underlying3 r3
  obtain ⟨n7, y7, g7⟩ := field_at Tryz.underlying30 hf 7 _ rfl
  have k7 : DataW.trod enc Tryz.prog W 0 (fun _ => true) true n7 3 [c10] = some y7 := by simpa [Value.cells, Tryz.cellsIn] using g7
  obtain ⟨a10, e10, _⟩ := DataW.trod_int Tryz.underlying3 k7
  obtain ⟨n8, y8, g8⟩ := field_at Tryz.underlying30 hf 8 _ rfl
  have k8 : DataW.trod enc Tryz.prog W 0 (fun _ => true) true n8 4 [c11] = some y8 := by simpa [Value.cells, Tryz.cellsBo] using g8
  obtain ⟨a11, e11, _⟩ := DataW.trod_bool Tryz.underlying4 k8
  obtain ⟨n9, y9, g9⟩ := field_at Tryz.underlying30 hf 9 _ rfl
  have k9 : DataW.trod enc Tryz.prog W 0 (fun _ => true) true n9 3 [c12] = some y9 := by simpa [Value.cells, Tryz.cellsIn] using g9
  obtain ⟨a12, e12, _⟩ := DataW.trod_int Tryz.underlying3 k9
  obtain ⟨n10, y10, g10⟩ := field_at Tryz.underlying30 hf 10 _ rfl
  have k10 : DataW.trod enc Tryz.prog W 0 (fun _ => true) true n10 3 [c13] = some y10 := by simpa [Value.cells, Tryz.cellsIn] using g10
  obtain ⟨a13, e13, _⟩ := DataW.trod_int Tryz.underlying3 k10
  simp at e0 e1 e2 e3 e4 e5 e6 e7 e8 e9 e10 e11 e12 e13
  subst e0 e1 e2 e3 e4 e5 e6 e7 e8 e9 e10 e11 e12 e13
  exact ⟨a0, a1, a2, a3, a4, a5, a6, a7, a8, a9, a10, a11, a12, a13, rfl⟩

end Go.Proofs.YtobloamnaemfnaaGreatDoor

namespace Go.Proofs.YtobloamnaemfnaaGreatDoor

def addC (b : Nat) (x y : Nat → Nat) : Nat → Nat
  | 0 => 0
  | i + 1 => (x i + y i + addC b x y i) / b

def addD (b : Nat) (x y : Nat → Nat) (i : Nat) : Nat := (x i + y i + addC b x y i) % b

theorem addC_le {b : Nat} {x y : Nat → Nat} (hx : ∀ i, x i < b) (hy : ∀ i, y i < b) : ∀ i, addC b x y i ≤ 1
  | 0 => by simp [addC]
  | i + 1 => by
    have h := addC_le hx hy i
    have h1 := hx i
    have h2 := hy i
    simp only [addC]
    have : x i + y i + addC b x y i < 2 * b := by omega
    have := (Nat.div_lt_iff_lt_mul (by omega)).2 this
    omega

theorem addD_lt {b : Nat} (hb : 0 < b) (x y : Nat → Nat) (i : Nat) : addD b x y i < b := Nat.mod_lt _ hb

theorem add_val (b : Nat) (x y : Nat → Nat) : ∀ n, V b x n + V b y n = V b (addD b x y) n + addC b x y n * b ^ n
  | 0 => by simp [V, addC]
  | n + 1 => by
    have ih := add_val b x y n
    simp only [V, addC, addD]
    have h := Nat.div_add_mod (x n + y n + addC b x y n) b
    generalize (x n + y n + addC b x y n) / b = q at *
    generalize (x n + y n + addC b x y n) % b = r at *
    have h2 : (b * q + r) * b ^ n = (x n + y n + addC b x y n) * b ^ n := by rw [h]
    rw [Nat.add_mul, Nat.add_mul, Nat.add_mul] at h2
    have h3 : b * q * b ^ n = q * b ^ (n + 1) := by rw [Nat.pow_succ, Nat.mul_comm b q, Nat.mul_assoc, Nat.mul_comm b]
    generalize V b (addD b x y) n = d at *
    omega

def subC (b : Nat) (x y : Nat → Nat) : Nat → Nat
  | 0 => 0
  | i + 1 => if x i < y i + subC b x y i then 1 else 0

def subD (b : Nat) (x y : Nat → Nat) (i : Nat) : Nat := (x i + b - y i - subC b x y i) % b

theorem subC_le {b : Nat} {x y : Nat → Nat} : ∀ i, subC b x y i ≤ 1
  | 0 => by simp [subC]
  | i + 1 => by simp only [subC]; split <;> omega

theorem subD_eq {b : Nat} {x y : Nat → Nat} (hx : ∀ i, x i < b) (hy : ∀ i, y i < b) (i : Nat) : subD b x y i + y i + subC b x y i = x i + subC b x y (i + 1) * b := by
  have h1 := hx i
  have h2 := hy i
  have h3 := subC_le (b := b) (x := x) (y := y) i
  simp only [subD, subC]
  split
  · rw [Nat.mod_eq_of_lt (by omega)]; omega
  · rw [show x i + b - y i - subC b x y i = (x i - y i - subC b x y i) + b by omega, Nat.add_mod_right, Nat.mod_eq_of_lt (by omega)]; omega

end Go.Proofs.YtobloamnaemfnaaGreatDoor
