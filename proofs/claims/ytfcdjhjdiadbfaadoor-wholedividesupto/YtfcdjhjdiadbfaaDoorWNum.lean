/-
  whole's functions in the words of the numbers themselves.
-/
import Derived.Test.YtfcdjhjdiadbfaaDoorZWhole
import Derived.Test.YtfcdjhjdiadbfaaDoorWSame
namespace Go.Proofs.YtfcdjhjdiadbfaaDoor
open Go.RowKit

/-- A sign and limbs are the number z, in whatever form. -/
def NV (s : Bool) (x : List Nat) (z : Int) : Prop := Ok B64 x ∧ zv s (num B64 x) = z
/-- A sign and limbs are the number z in its one form. -/
def NI (s : Bool) (x : List Nat) (z : Int) : Prop := s = decide (z < 0) ∧ Is B64 x z.natAbs

theorem NI.nv {s : Bool} {x : List Nat} {z : Int} (h : NI s x z) : NV s x z := by
  refine ⟨h.2.1, ?_⟩
  rw [h.2.2.2, h.1]
  unfold zv
  by_cases hz : z < 0
  · simp [hz]; omega
  · simp [hz]; omega

theorem NI.mk {s : Bool} {x : List Nat} {z : Int} (h : Hid (s = decide (z < 0))) (hi : Is B64 x z.natAbs) : NI s x z := ⟨h.out, hi⟩

theorem NI.uniq {s t : Bool} {x y : List Nat} {z u : Int} (h : NI s x z) (g : NI t y u) (e : z = u) : s = t ∧ x = y := by
  subst e
  exact ⟨h.1.trans g.1.symm, Is.uniq (by decide) h.2 g.2⟩

theorem NI.nil : NI false [] 0 := ⟨rfl, Is.none (by decide)⟩

theorem zv_mul (na nb : Bool) (x y : Nat) : zv (na != nb) (x * y) = zv na x * zv nb y := by
  cases na <;> cases nb <;> simp [zv, Int.neg_mul, Int.mul_neg]

section
variable (s t : Bool) (ao bo : Option Addr) (la ca lb cb : Nat) (xs ys : List Nat) (w : World) (hla : la ≤ ca) (hlb : lb ≤ cb) (hx : xs.length = la) (hy : ys.length = lb) (hax : At .u64 w ao xs) (hay : At .u64 w bo ys) (z u : Int) (hz : Hid (NV s xs z)) (hu : Hid (NV t ys u))
include hla hlb hx hy hax hay hz hu
theorem addz (hca : ca ≤ 10000000000) (hcb : cb ≤ 10000000000) : Calls Tryd.prog 14 #[.agg #[.bool s, .slice ao la ca], .agg #[.bool t, .slice bo lb cb]] w (WPost w (max la lb + 1) (z + u)) := by
  rw [← hz.out.2, ← hu.out.2]; exact addw_any s t ao bo la ca lb cb xs ys w hla hca hlb hcb hx hy hax hay hz.out.1 hu.out.1
theorem subz (hca : ca ≤ 10000000000) (hcb : cb ≤ 10000000000) : Calls Tryd.prog 16 #[.agg #[.bool s, .slice ao la ca], .agg #[.bool t, .slice bo lb cb]] w (WPost w (max la lb + 1) (z - u)) := by
  rw [← hz.out.2, ← hu.out.2]; exact subw_any s t ao bo la ca lb cb xs ys w hla hca hlb hcb hx hy hax hay hz.out.1 hu.out.1
theorem mulz (hca : ca ≤ 10000000000) (hcb : cb ≤ 10000000000) : Calls Tryd.prog 17 #[.agg #[.bool s, .slice ao la ca], .agg #[.bool t, .slice bo lb cb]] w (WPost w (la + lb) (z * u)) := by
  rw [← hz.out.2, ← hu.out.2, ← zv_mul]; exact mulw_one s t ao bo la ca lb cb xs ys w hla hca hlb hcb hx hy hax hay hz.out.1 hu.out.1
theorem cmpz (hca : ca ≤ 10000000000) (hcb : cb ≤ 10000000000) (v : Int) (hv : Hid (cmpZ z u = v)) : Calls Tryd.prog 19 #[.agg #[.bool s, .slice ao la ca], .agg #[.bool t, .slice bo lb cb]] w fun e w' => e = .returned (.int .i64 v) ∧ Below w.heap.size w w' :=
  cmpw_any s t ao bo la ca lb cb xs ys w hla hca hlb hcb hx hy hax hay hz.out.1 hu.out.1 v (by rw [hz.out.2, hu.out.2]; exact hv.out)
theorem divz (hca : ca ≤ 100000000) (hcb : cb ≤ 100000000) (h0 : Hid (u ≠ 0)) : Calls Tryd.prog 21 #[.agg #[.bool s, .slice ao la ca], .agg #[.bool t, .slice bo lb cb]] w (WDPost w (max la lb + 2) (z / u) (z % u) 0) := by
  have hn : num B64 ys ≠ 0 := by
    intro h
    have := hu.out.2
    rw [h] at this
    refine h0.out ?_
    rw [← this]; unfold zv; split <;> rfl
  rw [← hz.out.2, ← hu.out.2]; exact divw_any s t ao bo la ca lb cb xs ys w hla hca hlb hcb hx hy hax hay hz.out.1 hu.out.1 hn
theorem divz0 (hca : ca ≤ 100000000) (hcb : cb ≤ 100000000) (h0 : Hid (u = 0)) : Calls Tryd.prog 21 #[.agg #[.bool s, .slice ao la ca], .agg #[.bool t, .slice bo lb cb]] w (WDPost w 0 0 0 22) := by
  have hn : num B64 ys = 0 := by
    have := hu.out.2
    rw [h0.out] at this
    unfold zv at this
    split at this <;> omega
  exact divw_zero s t ao bo la ca lb cb xs ys w hla hca hlb hcb hx hy hax hay hz.out.1 hu.out.1 hn
end

theorem negz (s : Bool) (ao : Option Addr) (la ca : Nat) (xs : List Nat) (w : World) (hla : la ≤ ca) (hx : xs.length = la) (hax : At .u64 w ao xs) (z : Int) (hz : Hid (NV s xs z)) (hca : ca ≤ 1000000000000) :
    Calls Tryd.prog 12 #[.agg #[.bool s, .slice ao la ca]] w (WPost w la (-z)) := by
  rw [← hz.out.2]; exact neg_any s ao la ca xs w hla hca hx hax hz.out.1
theorem makez (s : Bool) (ao : Option Addr) (la ca : Nat) (xs : List Nat) (w : World) (hla : la ≤ ca) (hx : xs.length = la) (hax : At .u64 w ao xs) (z : Int) (hz : Hid (NV s xs z)) (hca : ca ≤ 1000000000000) :
    Calls Tryd.prog 11 #[.bool s, .slice ao la ca] w (WPost w la z) := by
  rw [← hz.out.2]; exact make_any s ao la ca xs w hla hca hx hax hz.out.1

theorem samez (s t : Bool) (o p : Option Addr) (l c m d : Nat) (x y : List Nat) (w : World) (hl : l ≤ 1000000000000) (hx : x.length = l) (hy : y.length = m) (hax : At .u64 w o x) (hay : At .u64 w p y) (z u : Int) (hz : Hid (NI s x z)) (hu : Hid (NI t y u)) (e : z = u) :
    Calls Tryd.prog 22 #[.agg #[.bool s, .slice o l c], .agg #[.bool t, .slice p m d]] w fun e w' => e = .returned (.bool true) ∧ Below w.heap.size w w' := by
  obtain ⟨rfl, rfl⟩ := hz.out.uniq hu.out e
  obtain rfl : l = m := hx.symm.trans hy
  exact samew_true s o p l c d x w hl hx hax hay

theorem cmpZ_add (a b c : Int) : cmpZ (a + c) (b + c) = cmpZ a b := by
  unfold cmpZ
  simp [Int.add_lt_add_iff_right]

end Go.Proofs.YtfcdjhjdiadbfaaDoor
