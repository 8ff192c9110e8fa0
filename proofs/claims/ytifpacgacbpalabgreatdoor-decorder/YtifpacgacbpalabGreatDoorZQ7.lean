/-
  What quipulaw02.same does of two numbers that are the same.
  whole's functions in the words of the numbers themselves.
  Numbers that calls answer in a region that draws its order: where they lie, and what stays.
-/
import Derived.Test.YtifpacgacbpalabGreatDoorZWhole
import Derived.Test.YtifpacgacbpalabGreatDoorSame
import Derived.Deep.RegionHeld3
import Derived.Deep.DeepCutAuto
namespace Go.Proofs.YtifpacgacbpalabGreatDoor
open Go.RowKit

end Go.Proofs.YtifpacgacbpalabGreatDoor

namespace Go.Proofs.YtifpacgacbpalabGreatDoor
open Go.RowKit

/-- A sign and limbs are the number z, in whatever form. -/
def NV (s : Bool) (x : List Nat) (z : Int) : Prop := Ok B64 x ∧ zv s (num B64 x) = z
/-- A sign and limbs are the number z in its one form. -/
def NI (s : Bool) (x : List Nat) (z : Int) : Prop := s = decide (z < 0) ∧ Is B64 x z.natAbs

theorem NI.nv {s : Bool} {x : List Nat} {z : Int} (h : NI s x z) : NV s x z := by
  refine ⟨h.2.1, ?_⟩
  rw [h.2.2.2, h.1]
  unfold zv
  by_cases hz : z < 0
  · simp [hz]; omega
  · simp [hz]; omega

theorem NI.mk {s : Bool} {x : List Nat} {z : Int} (h : Hid (s = decide (z < 0))) (hi : Is B64 x z.natAbs) : NI s x z := ⟨h.out, hi⟩

theorem NI.uniq {s t : Bool} {x y : List Nat} {z u : Int} (h : NI s x z) (g : NI t y u) (e : z = u) : s = t ∧ x = y := by
  subst e
  exact ⟨h.1.trans g.1.symm, Is.uniq (by decide) h.2 g.2⟩

theorem NI.nil : NI false [] 0 := ⟨rfl, Is.none (by decide)⟩

theorem zv_mul (na nb : Bool) (x y : Nat) : zv (na != nb) (x * y) = zv na x * zv nb y := by
  cases na <;> cases nb <;> simp [zv, Int.neg_mul, Int.mul_neg]

section
variable (s t : Bool) (ao bo : Option Addr) (la ca lb cb : Nat) (xs ys : List Nat) (w : World) (hla : la ≤ ca) (hlb : lb ≤ cb) (hx : xs.length = la) (hy : ys.length = lb) (hax : At .u64 w ao xs) (hay : At .u64 w bo ys) (z u : Int) (hz : Hid (NV s xs z)) (hu : Hid (NV t ys u))
include hla hlb hx hy hax hay hz hu
theorem addz (hca : ca ≤ 10000000000) (hcb : cb ≤ 10000000000) : Calls Tryz.prog 38 #[.agg #[.bool s, .slice ao la ca], .agg #[.bool t, .slice bo lb cb]] w (WPost w (max la lb + 1) (z + u)) := by
  rw [← hz.out.2, ← hu.out.2]; exact addw_any s t ao bo la ca lb cb xs ys w hla hca hlb hcb hx hy hax hay hz.out.1 hu.out.1
end

theorem makez (s : Bool) (ao : Option Addr) (la ca : Nat) (xs : List Nat) (w : World) (hla : la ≤ ca) (hx : xs.length = la) (hax : At .u64 w ao xs) (z : Int) (hz : Hid (NV s xs z)) (hca : ca ≤ 1000000000000) :
    Calls Tryz.prog 58 #[.bool s, .slice ao la ca] w (WPost w la z) := by
  rw [← hz.out.2]; exact make_any s ao la ca xs w hla hca hx hax hz.out.1

theorem cmpZ_add (a b c : Int) : cmpZ (a + c) (b + c) = cmpZ a b := by
  unfold cmpZ
  simp [Int.add_lt_add_iff_right]

end Go.Proofs.YtifpacgacbpalabGreatDoor

namespace Go.Proofs.YtifpacgacbpalabGreatDoor
open Go.RowKit

/-- The numbers x lie at o, in a block from lo on and below hi. -/
def Res (k : IntKind) (W : World) (o : Option Addr) (x : List Nat) (lo hi : Nat) : Prop := At k W o x ∧ ∀ b f, x ≠ [] → o = some ⟨b, f, none⟩ → lo ≤ b ∧ b < hi

theorem Res.below {k : IntKind} {W W' : World} {o : Option Addr} {x : List Nat} {lo hi : Nat} (h : Res k W o x lo hi) (hb : Below W.heap.size W W') : Res k W' o x lo hi := ⟨h.1.below hb, h.2⟩

theorem Res.set {k : IntKind} {W : World} {o : Option Addr} {x : List Nat} {lo hi H i : Nat} (h : Res k W o x lo hi) (hH : H < lo ∨ hi ≤ H) (v : Value) : Res k (W.setCell ⟨H, i, none⟩ v) o x lo hi := by
  refine ⟨?_, h.2⟩
  rcases h.1 with h' | ⟨b, f, h1, h2, h3⟩
  · exact .inl h'
  · by_cases hx : x = []
    · exact .inl hx
    · have h4 := h.2 b f hx h1
      refine .inr ⟨b, f, h1, by simpa [World.setCell] using h2, fun j hj => ?_⟩
      rw [← h3 j hj]
      have hne : H ≠ b := by omega
      refine World.cell?_of_block ?_
      simp [World.setCell, Array.getElem?_modify, hne]

theorem Res.of_own {k : IntKind} {e : TypeId} {W : World} {base m cap : Nat} {o : Option Addr} {x : List Nat} (h : Own k e W base m (.slice o x.length cap) x) (hat : At k W o x) : Res k W o x base W.heap.size := by
  refine ⟨hat, fun b f hx e => ?_⟩
  rcases h with ⟨_, h2⟩ | ⟨g, full, h1, h2, h3, _⟩
  · exact absurd h2 hx
  · simp only [Value.slice.injEq] at h1
    rw [e] at h1
    simp only [Option.some.injEq, Addr.mk.injEq] at h1
    have := h3.lt
    omega

theorem bdrew (w : World) : Below w.heap.size w w.drew := ⟨rfl, rfl, rfl, Nat.le_refl _, fun _ _ => rfl⟩
theorem bal {w W : World} (h : Hid (Below w.heap.size w W)) (o : Obj) : Hid (Below w.heap.size w (W.alloc o)) := h.out.alloc h.out.size o

/-- What a call of whole answers in a region: the number z, in its one form. -/
structure WR (W W' : World) (m : Nat) (z : Int) (s : Bool) (o : Option Addr) (c : Nat) (r : List Nat) : Prop where
  ni : NI s r z
  le : r.length ≤ c
  few : c ≤ m
  res : Res .u64 W' o r W.heap.size W'.heap.size
  bel : Below W.heap.size W W'

theorem WR.of {W W' : World} {m : Nat} {z : Int} {e : Ending} (h : WPost W m z e W') : ∃ s o c r, e = .returned (.agg #[.bool s, .slice o (List.length r) c]) ∧ Hid (WR W W' m z s o c r) := by
  obtain ⟨s, v, r, hs, rfl, hown, his, hb⟩ := h
  obtain ⟨o, c, rfl, h1, h2, h3⟩ := hown.shape
  exact ⟨s, o, c, r, rfl, NI.mk hs his, h1, h2, Res.of_own hown h3, hb⟩

/-- Behind a region that calls twice and lays both answers in variables: block H holds the first, block K the second. -/
structure Both (w W : World) (T : TypeId) (H K : Nat) (x1 y1 x2 y2 : Value) (o1 : Option Addr) (r1 : List Nat) (o2 : Option Addr) (r2 : List Nat) (k : IntKind) : Prop where
  bel : Below w.heap.size w W
  p1 : Pair W H x1 y1 T
  p2 : Pair W K x2 y2 T
  at1 : At k W o1 r1
  at2 : At k W o2 r2

theorem both {w W : World} {T : TypeId} {H K : Nat} {a b c d x1 y1 x2 y2 : Value} {o1 o2 : Option Addr} {r1 r2 : List Nat} {k : IntKind} {l1 h1 l2 h2 : Nat} (hb : Below w.heap.size w W) (p1 : Pair W H a b T) (p2 : Pair W K c d T) (hH : w.heap.size ≤ H) (hK : w.heap.size ≤ K) (hne : H ≠ K)
    (f1 : Res k W o1 r1 l1 h1) (f2 : Res k W o2 r2 l2 h2) (e1 : (H < l1 ∨ h1 ≤ H) ∧ (K < l1 ∨ h1 ≤ K)) (e2 : (H < l2 ∨ h2 ≤ H) ∧ (K < l2 ∨ h2 ≤ K)) :
    Both w ((((W.setCell ⟨H, 0, none⟩ x1).setCell ⟨H, 1, none⟩ y1).setCell ⟨K, 0, none⟩ x2).setCell ⟨K, 1, none⟩ y2) T H K x1 y1 x2 y2 o1 r1 o2 r2 k := by
  refine ⟨(((hb.setCell hH _).setCell hH _).setCell hK _).setCell hK _, ?_, ?_, ?_, ?_⟩
  · exact ((p1.put _ _).other (by exact hne) _).other (by exact hne) _
  · exact ((p2.other (by exact Ne.symm hne) _).other (by exact Ne.symm hne) _).put _ _
  · exact ((((f1.set e1.1 _).set e1.1 _).set e1.2 _).set e1.2 _).1
  · exact ((((f2.set e2.1 _).set e2.1 _).set e2.2 _).set e2.2 _).1

section
variable {w W : World} {T : TypeId} {H : Nat} {a b x1 y1 x2 y2 : Value} {o1 o2 : Option Addr} {r1 r2 : List Nat} {k : IntKind} {l1 h1 l2 h2 : Nat}
/-- The first lies in a block that was there, the second in a new one. -/
theorem both_on (hb : Below w.heap.size w W) (p1 : Pair W H a b T) (hH : w.heap.size ≤ H) (f1 : Res k W o1 r1 l1 h1) (f2 : Res k W o2 r2 l2 h2) (e1 : H < l1 ∨ h1 ≤ H) (e2 : H < l2 ∨ h2 ≤ H) :
    Both w (((W.setCell ⟨H, 0, none⟩ x1).setCell ⟨H, 1, none⟩ y1).alloc (.cells #[x2, y2] T)) T H W.heap.size x1 y1 x2 y2 o1 r1 o2 r2 k := by
  have hb' := (hb.setCell (show w.heap.size ≤ (⟨H, 0, none⟩ : Addr).block from hH) x1).setCell (show w.heap.size ≤ (⟨H, 1, none⟩ : Addr).block from hH) y1
  refine ⟨hb'.alloc hb'.size _, (p1.put _ _).alloc _, Pair.newAt _ _ (by simp) _ _ _, ?_, ?_⟩
  · exact (((f1.set e1 x1).set e1 y1).1).below ((Below.refl _ _).alloc (Nat.le_refl _) _)
  · exact (((f2.set e2 x1).set e2 y1).1).below ((Below.refl _ _).alloc (Nat.le_refl _) _)
/-- The second lies in a block that was there, the first in a new one. -/
theorem both_no (hb : Below w.heap.size w W) (p1 : Pair W H a b T) (hH : w.heap.size ≤ H) (f1 : Res k W o1 r1 l1 h1) (f2 : Res k W o2 r2 l2 h2) (e1 : H < l1 ∨ h1 ≤ H) (e2 : H < l2 ∨ h2 ≤ H) :
    Both w (((W.setCell ⟨H, 0, none⟩ x2).setCell ⟨H, 1, none⟩ y2).alloc (.cells #[x1, y1] T)) T W.heap.size H x1 y1 x2 y2 o1 r1 o2 r2 k := by
  have h := both_on (x1 := x2) (y1 := y2) (x2 := x1) (y2 := y1) hb p1 hH f2 f1 e2 e1
  exact ⟨h.bel, h.p2, h.p1, h.at2, h.at1⟩
theorem both_nn (hb : Below w.heap.size w W) (f1 : Res k W o1 r1 l1 h1) (f2 : Res k W o2 r2 l2 h2) :
    Both w ((W.alloc (.cells #[x1, y1] T)).alloc (.cells #[x2, y2] T)) T W.heap.size (W.heap.size + 1) x1 y1 x2 y2 o1 r1 o2 r2 k := by
  have hb1 := hb.alloc hb.size (.cells #[x1, y1] T)
  refine ⟨hb1.alloc hb1.size _, (Pair.new _ _ _ _).alloc _, Pair.newAt _ _ (by simp) _ _ _, ?_, ?_⟩
  · exact (f1.1.below ((Below.refl _ _).alloc (Nat.le_refl _) _)).below ((Below.refl _ _).alloc (Nat.le_refl _) _)
  · exact (f2.1.below ((Below.refl _ _).alloc (Nat.le_refl _) _)).below ((Below.refl _ _).alloc (Nat.le_refl _) _)
theorem both_mm (hb : Below w.heap.size w W) (f1 : Res k W o1 r1 l1 h1) (f2 : Res k W o2 r2 l2 h2) :
    Both w ((W.alloc (.cells #[x2, y2] T)).alloc (.cells #[x1, y1] T)) T (W.heap.size + 1) W.heap.size x1 y1 x2 y2 o1 r1 o2 r2 k := by
  have h := both_nn (x1 := x2) (y1 := y2) (x2 := x1) (y2 := y1) (T := T) hb f2 f1
  exact ⟨h.bel, h.p2, h.p1, h.at2, h.at1⟩
end

/-- Where the ways through such a region meet: the variables' pointers and the world. -/
structure Cut2 (w : World) (z u : Int) (m n : Nat) (v1 v2 : Value) (W : World) : Prop where
  ex : ∃ (H K : Nat) (s1 : Bool) (o1 : Option Addr) (c1 : Nat) (r1 : List Nat) (s2 : Bool) (o2 : Option Addr) (c2 : Nat) (r2 : List Nat), v1 = .pointer (some ⟨H, 0, none⟩) ∧ v2 = .pointer (some ⟨K, 0, none⟩) ∧
    Both w W 63 H K (.bool s1) (.slice o1 r1.length c1) (.bool s2) (.slice o2 r2.length c2) o1 r1 o2 r2 .u64 ∧ NI s1 r1 z ∧ NI s2 r2 u ∧ r1.length ≤ c1 ∧ c1 ≤ m ∧ r2.length ≤ c2 ∧ c2 ≤ n

end Go.Proofs.YtifpacgacbpalabGreatDoor
