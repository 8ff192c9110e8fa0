/-
  What whole.signed, whole.Make and whole.Neg do.
  What whole.Add, whole.Sub and whole.Mul do.
  What whole.Sub, Int.below and whole.Cmp do.
  What whole.DivMod does.
  What quipulaw02.same does of two numbers that are the same.
  whole's functions in the words of the numbers themselves.
  Numbers that calls answer in a region that draws its order: where they lie, and what stays.
  What whole.areDigits, whole.chunkOf and whole.Parse do.
  What whole.Text does: the number's decimal digits.
  nat's and whole's calls as package shortest makes them: over numbers, wherever their limbs lie.
  What whole.Parse does.
  whole's numbers with a sign, as package dec makes them; what dec's counted does.
  What dec's sum does.
-/
import Derived.Test.YtafljhfamjabeaaGreatDoorZNorm
import Derived.Test.YtafljhfamjabeaaGreatDoorZB4
import Derived.Handy
import Derived.Test.YtafljhfamjabeaaGreatDoorZB3
import Derived.Test.YtafljhfamjabeaaGreatDoorZSub
import Derived.Deep.RegionHeld3
import Derived.Test.YtafljhfamjabeaaGreatDoorZUint
import Derived.Test.YtafljhfamjabeaaGreatDoorZSame
import Derived.Deep.DeepCutAuto
import Derived.Test.YtafljhfamjabeaaGreatDoorZDown
import Derived.Test.YtafljhfamjabeaaGreatDoorZB1
import Derived.Test.YtafljhfamjabeaaGreatDoorZUintF
import Derived.Deep.CutRange
namespace Go.Proofs.YtafljhfamjabeaaGreatDoor
open Go.RowKit

/-- The whole number of a sign and an amount. -/
def zv (neg : Bool) (n : Nat) : Int := if neg then -(n : Int) else (n : Int)

/-- What whole's functions answer: the number z in its one form, the amount in memory that holds nothing else. -/
def WPost (w : World) (m : Nat) (z : Int) (e : Ending) (w' : World) : Prop :=
  ∃ s v r, Hid (s = decide (z < 0)) ∧ e = .returned (.agg #[.bool s, v]) ∧ Own .u64 78 w' w.heap.size m v r ∧ Is B64 r z.natAbs ∧ Below w.heap.size w w'

theorem zv_abs (neg : Bool) (n : Nat) : (zv neg n).natAbs = n := by unfold zv; split <;> omega

theorem zv_lt {neg : Bool} {n : Nat} {r : List Nat} (h : Is B64 r n) : decide (zv neg n < 0) = (neg && decide (0 < r.length)) := by
  cases neg
  · simp [zv]
  · have : (0 < r.length) ↔ n ≠ 0 := by
      constructor
      · intro h1 h2
        have := num_zero (by decide) h.2.1 (h.2.2.trans h2)
        rw [this] at h1; simp at h1
      · intro h1
        rcases hr : r with _ | ⟨x, t⟩
        · rw [hr] at h; exact absurd h.2.2.symm h1
        · simp
    simp only [zv, if_true, Bool.true_and]
    by_cases hn : n = 0
    · subst hn; simp [this]
    · rw [decide_eq_true (by omega), decide_eq_true (this.2 hn)]

set_option maxHeartbeats 400000 in
theorem signed_any (neg : Bool) (ao : Option Addr) (la ca : Nat) (w : World) :
    Calls Tryz.prog 122 #[.bool neg, .slice ao la ca] w fun e w' => e = .returned (.agg #[.bool (neg && decide (0 < la)), .slice ao la ca]) ∧ Below w.heap.size w w' := by
  cases neg
  · go_enter Tryz.func122, Tryz.ntmps122
    go_wp2
    go_returns
    exact ⟨rfl, (Below.refl _ _).alloc (Nat.le_refl _) _⟩
  · go_enter Tryz.func122, Tryz.ntmps122
    go_wp2
    go_returns
    exact ⟨by simp, (Below.refl _ _).alloc (Nat.le_refl _) _⟩

/-- A variable of two cells, in a block by itself. -/
def Pair (w : World) (b : Nat) (x y : Value) (t : TypeId) : Prop := w.heap[b]? = some (.cells #[x, y] t (0, 0))

section
variable {w w' : World} {b : Nat} {x y : Value} {t : TypeId}
theorem Pair.cell0 (h : Pair w b x y t) : w.cell? ⟨b, 0, none⟩ = some x := by unfold Pair at h; simp [World.cell?, h]
theorem Pair.cell1 (h : Pair w b x y t) : w.cell? ⟨b, 1, none⟩ = some y := by unfold Pair at h; simp [World.cell?, h]
theorem Pair.free (h : Pair w b x y t) (i : Nat) : w.frozen? ⟨b, i, none⟩ = false := by unfold Pair at h; simp [World.frozen?, h]
theorem Pair.new (w : World) (x y : Value) (t : TypeId) : Pair (w.alloc (.cells #[x, y] t)) w.heap.size x y t := heap_alloc_new _ _
theorem Pair.newAt (w : World) (n : Nat) (hn : w.heap.size = n) (x y : Value) (t : TypeId) : Pair (w.alloc (.cells #[x, y] t)) n x y t := by subst hn; exact Pair.new _ _ _ _
theorem Pair.lt (h : Pair w b x y t) : b < w.heap.size := lt_of_block h
theorem Pair.below (h : Pair w b x y t) {B : Nat} (hb : Below B w w') (hg : b < B) : Pair w' b x y t := by
  unfold Pair at *
  rw [hb.block b hg]; exact h
theorem Pair.alloc (h : Pair w b x y t) (o : Obj) : Pair (w.alloc o) b x y t := by
  have hlt := h.lt
  unfold Pair at *
  rw [Below.heap_alloc _ _ _ hlt]; exact h
theorem Pair.put (h : Pair w b x y t) (x' y' : Value) : Pair ((w.setCell ⟨b, 0, none⟩ x').setCell ⟨b, 1, none⟩ y') b x' y' t := by
  unfold Pair at *
  simp only [World.setCell, Array.getElem?_modify, if_true, h, Option.map_some]
  rfl
end

theorem results_pair {fn : Func} {a : Tmp} (h : fn.results = #[.cell a 89]) (tmps : Array Value) (H : Nat) (x y : Value) (w : World) (ht : tmps.getD a undef = .pointer (some ⟨H, 0, none⟩)) (hp : Pair w H x y 89) :
    (results fn tmps).run Tryz.prog w = .ok (.agg #[x, y]) w := by
  have c0 := hp.cell0
  have c1 := hp.cell1
  rw [Array.getD_eq_getD_getElem?] at ht
  simp [results, h, ht, go_sem, c0, c1]

theorem Own.put {k : IntKind} {e : TypeId} {w : World} {base m : Nat} {v : Value} {xs : List Nat} (h : Own k e w base m v xs) {a : Addr} (ha : a.block < base) (u : Value) : Own k e (w.setCell a u) base m v xs := by
  rcases h with h | ⟨g, full, h1, h2, hr, h3⟩
  · exact .inl h
  · exact .inr ⟨g, full, h1, h2, hr.other (by omega) u, h3⟩

/-- At a return: the result's variable lies in block H. -/
theorem WPost.ret {w w2 : World} {m base H : Nat} {z : Int} {s : Bool} {v x y : Value} {r : List Nat} (hs : Hid (s = decide (z < 0))) (hown : Own .u64 78 w2 base m v r) (h1 : w.heap.size ≤ H) (h2 : H < base) (his : Is B64 r z.natAbs) (hb : Below w.heap.size w w2) :
    WPost w m z (.returned (.agg #[.bool s, v])) ((w2.setCell ⟨H, 0, none⟩ x).setCell ⟨H, 1, none⟩ y) :=
  ⟨s, v, r, hs, rfl, ((hown.put (by exact h2) _).put (by exact h2) _).mono (by omega) (Nat.le_refl _), his, (hb.setCell h1 _).setCell h1 _⟩

/-- signed, of a list that is new and without noughts on top. -/
theorem signed_is (neg : Bool) (n m base : Nat) (v : Value) (r : List Nat) (w : World) (hown : Own .u64 78 w base m v r) (his : Is B64 r n) :
    Calls Tryz.prog 122 #[.bool neg, v] w fun e w' => ∃ s, Hid (s = decide (zv neg n < 0)) ∧ e = .returned (.agg #[.bool s, v]) ∧ Own .u64 78 w' base m v r ∧ Below w.heap.size w w' := by
  obtain ⟨ao, cap, rfl, _, _, _⟩ := hown.shape
  refine (signed_any neg ao r.length cap w).mono ?_
  rintro e w' ⟨rfl, hb⟩
  exact ⟨_, (zv_lt his).symm, rfl, hown.below hb, hb⟩

set_option maxHeartbeats 400000 in
theorem make_any (neg : Bool) (ao : Option Addr) (la ca : Nat) (xs : List Nat) (w : World) (hla : la ≤ ca) (hca : ca ≤ 1000000000000) (hx : xs.length = la) (hax : At .u64 w ao xs) (ox : Ok B64 xs) :
    Calls Tryz.prog 97 #[.bool neg, .slice ao la ca] w (WPost w la (zv neg (num B64 xs))) := by
  go_enter Tryz.func97, Tryz.ntmps97
  go_wp2_with fail
  refine (norm_any ao la ca xs _ hla (by omega) hx (hax.alloc _) ox).mono ?_
  rintro e w1 ⟨v, r, rfl, hown, his, hb⟩
  go_wp2_with fail
  refine (signed_is neg (num B64 xs) la _ v r _ hown his).mono ?_
  rintro e w2 ⟨sg, hsg, rfl, hown2, hb2⟩
  have pr := ((Pair.new w (.bool false) (.slice none 0 0) 89).below hb (Pair.new w (.bool false) (.slice none 0 0) 89).lt)
  have pr2 := pr.below hb2 pr.lt
  have c0 := pr2.cell0
  have c1 := pr2.cell1
  have f0 := pr2.free 0
  have f1 := pr2.free 1
  clear pr
  have hs := hown2.shape
  obtain ⟨o1, cp, rfl, _, _, _⟩ := hs
  go_wp2
  refine bodyPost_ret (results_pair rfl _ _ _ _ _ rfl (pr2.put _ _)) rfl ?_
  exact WPost.ret hsg hown2 (Nat.le_refl _) (by simp) (by rw [zv_abs]; exact his) (((Below.refl _ _).alloc (Nat.le_refl _) _).trans ((hb.mono (by simp)).trans (hb2.mono (by have := hb.size; simp at this; omega))))

end Go.Proofs.YtafljhfamjabeaaGreatDoor

namespace Go.Proofs.YtafljhfamjabeaaGreatDoor
open Go.RowKit

theorem hideW {p : Prop} (h : p) : Hid p := h

set_option maxHeartbeats 1000000 in
theorem outward_any (na nb : Bool) (ao bo : Option Addr) (la ca lb cb : Nat) (xs ys : List Nat) (w : World) (hla : la ≤ ca) (hca : ca ≤ 10000000000) (hlb : lb ≤ cb) (hcb : cb ≤ 10000000000)
    (hx : xs.length = la) (hy : ys.length = lb) (hax : At .u64 w ao xs) (hay : At .u64 w bo ys) (ox : Ok B64 xs) (oy : Ok B64 ys) :
    Calls Tryz.prog 93 #[.agg #[.bool na, .slice ao la ca], .agg #[.bool nb, .slice bo lb cb]] w (WPost w (max la lb + 1) (zv na (num B64 xs + num B64 ys))) := by
  go_enter Tryz.func93, Tryz.ntmps93
  go_wp2
  have hb0 : Below w.heap.size w (((w.alloc (Obj.cells #[Value.bool na, Value.slice ao la ca] 89)).alloc (Obj.cells #[Value.bool nb, Value.slice bo lb cb] 89)).alloc (Obj.cells #[Value.bool false, Value.slice none 0 0] 89)) := (((Below.refl _ _).alloc (Nat.le_refl _) _).alloc (by simp) _).alloc (by simp; omega) _
  have pr0 := Pair.newAt ((w.alloc (Obj.cells #[Value.bool na, Value.slice ao la ca] 89)).alloc (Obj.cells #[Value.bool nb, Value.slice bo lb cb] 89)) (w.heap.size + 1 + 1) (by simp) (.bool false) (.slice none 0 0) 89
  have ax0 := ((hax.alloc (Obj.cells #[Value.bool na, Value.slice ao la ca] 89)).alloc (Obj.cells #[Value.bool nb, Value.slice bo lb cb] 89)).alloc (Obj.cells #[Value.bool false, Value.slice none 0 0] 89)
  have ay0 := ((hay.alloc (Obj.cells #[Value.bool na, Value.slice ao la ca] 89)).alloc (Obj.cells #[Value.bool nb, Value.slice bo lb cb] 89)).alloc (Obj.cells #[Value.bool false, Value.slice none 0 0] 89)
  have pa0 := ((Pair.new w (.bool na) (.slice ao la ca) 89).alloc (Obj.cells #[Value.bool nb, Value.slice bo lb cb] 89)).alloc (Obj.cells #[Value.bool false, Value.slice none 0 0] 89)
  have pb0 := (Pair.newAt (w.alloc (Obj.cells #[Value.bool na, Value.slice ao la ca] 89)) (w.heap.size + 1) (by simp) (.bool nb) (.slice bo lb cb) 89).alloc (Obj.cells #[Value.bool false, Value.slice none 0 0] 89)
  generalize (((w.alloc (Obj.cells #[Value.bool na, Value.slice ao la ca] 89)).alloc (Obj.cells #[Value.bool nb, Value.slice bo lb cb] 89)).alloc (Obj.cells #[Value.bool false, Value.slice none 0 0] 89)) = w0 at *
  obtain ⟨H2, e2⟩ : ∃ H, H = w.heap.size + 1 + 1 := ⟨_, rfl⟩
  obtain ⟨H1, e1⟩ : ∃ H, H = w.heap.size + 1 := ⟨_, rfl⟩
  obtain ⟨H0, e0⟩ : ∃ H, H = w.heap.size := ⟨_, rfl⟩
  rw [← e2] at pr0
  rw [← e1] at pb0
  rw [← e0] at pa0
  have n02 : H0 ≠ H2 := by omega
  have n12 : H1 ≠ H2 := by omega
  have n20 : H2 ≠ H0 := by omega
  have n21 : H2 ≠ H1 := by omega
  have HLE : Hid (w.heap.size ≤ H2) := by show _ ≤ _; omega
  have HLT : Hid (H2 < w0.heap.size) := pr0.lt
  simp only [← e2]
  simp only [← e1]
  simp only [← e0]
  clear e2 e1 e0
  have AD : Hid (∀ w1, Like w1 w0 → Calls Tryz.prog 123 #[.slice ao la ca, .slice bo lb cb] w1 fun e w' => ∃ o1 cp r, e = .returned (.slice o1 (List.length r) cp) ∧ Hid (Own .u64 78 w' w0.heap.size (max la lb + 1) (.slice o1 (List.length r) cp) r) ∧ Hid (Is B64 r (num B64 xs + num B64 ys)) ∧ Hid (Below w0.heap.size w0 w') ∧ w'.cell? ⟨H0, 0, none⟩ = some (.bool na) ∧ w'.cell? ⟨H0, 1, none⟩ = some (.slice ao la ca) ∧ w'.cell? ⟨H1, 0, none⟩ = some (.bool nb) ∧ w'.cell? ⟨H1, 1, none⟩ = some (.slice bo lb cb)) := by
    intro w1 hw
    refine (add_any ao bo la ca lb cb xs ys _ hla (by omega) hlb (by omega) hx hy (ax0.like hw) (ay0.like hw) ox oy).mono ?_
    rintro e w' ⟨v, r, rfl, hown, his, hb⟩
    obtain ⟨o1, cp, rfl, _, _, _⟩ := hown.shape
    have hb' : Below w0.heap.size w0 w' := by rw [hw.1] at hb; exact (Like.bel hw _).trans hb
    have pa := pa0.below hb' pa0.lt
    have pb := pb0.below hb' pb0.lt
    rw [hw.1] at hown
    exact ⟨o1, cp, r, rfl, hown, his, hb', pa.cell0, pa.cell1, pb.cell0, pb.cell1⟩
  have SG : Hid (∀ w1 w2 o1 cp r, Hid (Own .u64 78 w1 w0.heap.size (max la lb + 1) (.slice o1 (List.length r) cp) r) → Hid (Is B64 r (num B64 xs + num B64 ys)) → Hid (Below w0.heap.size w0 w1) → Like w2 w1 → Calls Tryz.prog 122 #[.bool na, .slice o1 (List.length r) cp] w2 fun e w' =>
      ∃ s, Hid (s = decide (zv na (num B64 xs + num B64 ys) < 0)) ∧ e = .returned (.agg #[.bool s, .slice o1 (List.length r) cp]) ∧ Hid (Own .u64 78 w' w0.heap.size (max la lb + 1) (.slice o1 (List.length r) cp) r) ∧ Hid (Below w0.heap.size w0 w') ∧ Hid (Pair w' H2 (.bool false) (.slice none 0 0) 89) ∧
        w'.cell? ⟨H2, 0, none⟩ = some (.bool false) ∧ w'.cell? ⟨H2, 1, none⟩ = some (.slice none 0 0) ∧ w'.frozen? ⟨H2, 0, none⟩ = false ∧ w'.frozen? ⟨H2, 1, none⟩ = false ∧ w'.cell? ⟨H0, 0, none⟩ = some (.bool na) ∧ w'.cell? ⟨H0, 1, none⟩ = some (.slice ao la ca) ∧ w'.cell? ⟨H1, 0, none⟩ = some (.bool nb) ∧ w'.cell? ⟨H1, 1, none⟩ = some (.slice bo lb cb)) := by
    intro w1 w2 o1 cp r hown his hb1 hw
    refine (signed_is _ _ _ _ _ r w2 (hown.out.below (by exact Like.bel hw _)) his.out).mono ?_
    rintro e w' ⟨s, hs, rfl, hown2, hb2⟩
    have hb' : Below w0.heap.size w0 w' := hb1.out.trans (((Like.bel hw _).trans (hb2.mono (by rw [hw.1]; exact hb1.out.size))))
    have pr := pr0.below hb' pr0.lt
    have pa := pa0.below hb' pa0.lt
    have pb := pb0.below hb' pb0.lt
    exact ⟨s, hs, rfl, hown2, hb', pr, pr.cell0, pr.cell1, pr.free 0, pr.free 1, pa.cell0, pa.cell1, pb.cell0, pb.cell1⟩
  have a0 := pa0.cell0
  have a1 := pa0.cell1
  have b0 := pb0.cell0
  have b1 := pb0.cell1
  have HP := hideW pr0
  have HB0 := hideW hb0
  clear pa0 pb0 pr0 ax0 ay0 hax hay ox oy hb0
  go_region_held3 (fun w' => w'.cell? ⟨H0, 0, none⟩ = some (.bool na) ∧ w'.cell? ⟨H0, 1, none⟩ = some (.slice ao la ca) ∧ w'.cell? ⟨H1, 0, none⟩ = some (.bool nb) ∧ w'.cell? ⟨H1, 1, none⟩ = some (.slice bo lb cb)) (go_keep) (first | (go_at_call 123; refine (AD.out _ (by exact ⟨rfl, rfl, rfl, rfl⟩)).mono ?_; rintro e w1 ⟨o1, cp, r, rfl, hown1, his, hb1, k0, k1, k2, k3⟩) | (go_at_call 122; refine (SG.out _ _ _ _ _ hown1 his hb1 (by exact ⟨rfl, rfl, rfl, rfl⟩)).mono ?_; rintro e w2 ⟨sg, hsg, rfl, hown, hb2, pr, c0, c1, f0, f1, m0, m1, m2, m3⟩))
  go_wp2
  refine bodyPost_ret (results_pair rfl _ _ _ _ _ rfl (pr.out.put _ _)) rfl ?_
  exact WPost.ret (H := H2) hsg hown.out HLE.out HLT.out (by rw [zv_abs]; exact his.out) (HB0.out.trans (hb2.out.mono HB0.out.size))

/-- The sum of numbers with two signs: what the greater amount leaves. -/
theorem inward_val {na nb : Bool} {x y : Nat} (h : na ≠ nb) : zv na x + zv nb y = if x < y then zv nb (y - x) else zv na (x - y) := by
  cases na <;> cases nb <;> simp [zv] at * <;> split <;> omega

theorem outward_val (na : Bool) (x y : Nat) : zv na x + zv na y = zv na (x + y) := by
  cases na <;> simp [zv] <;> omega

set_option maxHeartbeats 1000000 in
theorem inward_less (na nb : Bool) (ao bo : Option Addr) (la ca lb cb : Nat) (xs ys : List Nat) (w : World) (hla : la ≤ ca) (hca : ca ≤ 10000000000) (hlb : lb ≤ cb) (hcb : cb ≤ 10000000000)
    (hx : xs.length = la) (hy : ys.length = lb) (hax : At .u64 w ao xs) (hay : At .u64 w bo ys) (ox : Ok B64 xs) (oy : Ok B64 ys) (hlt : Hid (num B64 xs < num B64 ys)) :
    Calls Tryz.prog 94 #[.agg #[.bool na, .slice ao la ca], .agg #[.bool nb, .slice bo lb cb]] w (WPost w (max la lb + 1) (zv nb (num B64 ys - num B64 xs))) := by
  go_enter Tryz.func94, Tryz.ntmps94
  go_wp2_with fail
  have hb0 : Below w.heap.size w (((w.alloc (Obj.cells #[Value.bool na, Value.slice ao la ca] 89)).alloc (Obj.cells #[Value.bool nb, Value.slice bo lb cb] 89)).alloc (Obj.cells #[Value.bool false, Value.slice none 0 0] 89)) := (((Below.refl _ _).alloc (Nat.le_refl _) _).alloc (by simp) _).alloc (by simp; omega) _
  have pr0 := Pair.newAt ((w.alloc (Obj.cells #[Value.bool na, Value.slice ao la ca] 89)).alloc (Obj.cells #[Value.bool nb, Value.slice bo lb cb] 89)) (w.heap.size + 1 + 1) (by simp) (.bool false) (.slice none 0 0) 89
  have ax0 := ((hax.alloc (Obj.cells #[Value.bool na, Value.slice ao la ca] 89)).alloc (Obj.cells #[Value.bool nb, Value.slice bo lb cb] 89)).alloc (Obj.cells #[Value.bool false, Value.slice none 0 0] 89)
  have ay0 := ((hay.alloc (Obj.cells #[Value.bool na, Value.slice ao la ca] 89)).alloc (Obj.cells #[Value.bool nb, Value.slice bo lb cb] 89)).alloc (Obj.cells #[Value.bool false, Value.slice none 0 0] 89)
  have pa0 := ((Pair.new w (.bool na) (.slice ao la ca) 89).alloc (Obj.cells #[Value.bool nb, Value.slice bo lb cb] 89)).alloc (Obj.cells #[Value.bool false, Value.slice none 0 0] 89)
  have pb0 := (Pair.newAt (w.alloc (Obj.cells #[Value.bool na, Value.slice ao la ca] 89)) (w.heap.size + 1) (by simp) (.bool nb) (.slice bo lb cb) 89).alloc (Obj.cells #[Value.bool false, Value.slice none 0 0] 89)
  generalize (((w.alloc (Obj.cells #[Value.bool na, Value.slice ao la ca] 89)).alloc (Obj.cells #[Value.bool nb, Value.slice bo lb cb] 89)).alloc (Obj.cells #[Value.bool false, Value.slice none 0 0] 89)) = w0 at *
  refine (sub_any ao bo la ca lb cb xs ys _ hla (by omega) hlb (by omega) hx hy ax0 ay0 ox oy).mono ?_
  rintro e w1 ⟨v, r, rfl, hown, _, hb⟩
  rw [if_pos hlt.out]
  have pr1 := pr0.below hb pr0.lt
  have ax1 := ax0.below hb
  have ay1 := ay0.below hb
  have pa1 := pa0.below hb pa0.lt
  have pb1 := pb0.below hb pb0.lt
  have a0 := pa1.cell0; have a1 := pa1.cell1; have b0 := pb1.cell0; have b1 := pb1.cell1
  clear ax0 ay0
  obtain ⟨o0, c0', rfl, _, _, _⟩ := hown.shape
  clear hown
  go_wp2_with fail
  refine (sub_any bo ao lb cb la ca ys xs _ hlb (by omega) hla (by omega) hy hx ay1 ax1 oy ox).mono ?_
  rintro e w2 ⟨v, r, rfl, hown, his, hb1⟩
  rw [if_neg (by have := hlt.out; omega)]
  have pr2 := pr1.below hb1 pr1.lt
  have pb2 := pb1.below hb1 pb1.lt
  clear a0 a1 b0 b1
  have b0 := pb2.cell0
  obtain ⟨o3, c3, rfl, _, _, _⟩ := hown.shape
  go_wp2_with fail
  refine (signed_is nb (num B64 ys - num B64 xs) _ _ _ r _ hown his).mono ?_
  rintro e w3 ⟨sg, hsg, rfl, hown2, hb2⟩
  have pr := pr2.below hb2 pr2.lt
  have hz1 := hb.size
  clear b0
  have c0 := pr.cell0
  have c1 := pr.cell1
  have f0 := pr.free 0
  have f1 := pr.free 1
  have hlt0 := pr0.lt
  go_wp2
  refine bodyPost_ret (results_pair rfl _ _ _ _ _ rfl (pr.put _ _)) rfl ?_
  exact WPost.ret (H := w.heap.size + 1 + 1) hsg (hown2.mono (Nat.le_refl _) (by omega)) (by omega) (by omega) (by rw [zv_abs]; exact his) (hb0.trans ((hb.mono hb0.size).trans ((hb1.mono (Nat.le_trans hb0.size hb.size)).trans (hb2.mono (Nat.le_trans hb0.size (Nat.le_trans hb.size hb1.size))))))

set_option maxHeartbeats 1000000 in
theorem inward_more (na nb : Bool) (ao bo : Option Addr) (la ca lb cb : Nat) (xs ys : List Nat) (w : World) (hla : la ≤ ca) (hca : ca ≤ 10000000000) (hlb : lb ≤ cb) (hcb : cb ≤ 10000000000)
    (hx : xs.length = la) (hy : ys.length = lb) (hax : At .u64 w ao xs) (hay : At .u64 w bo ys) (ox : Ok B64 xs) (oy : Ok B64 ys) (hlt : Hid (¬ num B64 xs < num B64 ys)) :
    Calls Tryz.prog 94 #[.agg #[.bool na, .slice ao la ca], .agg #[.bool nb, .slice bo lb cb]] w (WPost w (max la lb + 1) (zv na (num B64 xs - num B64 ys))) := by
  go_enter Tryz.func94, Tryz.ntmps94
  go_wp2_with fail
  have hb0 : Below w.heap.size w (((w.alloc (Obj.cells #[Value.bool na, Value.slice ao la ca] 89)).alloc (Obj.cells #[Value.bool nb, Value.slice bo lb cb] 89)).alloc (Obj.cells #[Value.bool false, Value.slice none 0 0] 89)) := (((Below.refl _ _).alloc (Nat.le_refl _) _).alloc (by simp) _).alloc (by simp; omega) _
  have pr0 := Pair.newAt ((w.alloc (Obj.cells #[Value.bool na, Value.slice ao la ca] 89)).alloc (Obj.cells #[Value.bool nb, Value.slice bo lb cb] 89)) (w.heap.size + 1 + 1) (by simp) (.bool false) (.slice none 0 0) 89
  have ax0 := ((hax.alloc (Obj.cells #[Value.bool na, Value.slice ao la ca] 89)).alloc (Obj.cells #[Value.bool nb, Value.slice bo lb cb] 89)).alloc (Obj.cells #[Value.bool false, Value.slice none 0 0] 89)
  have ay0 := ((hay.alloc (Obj.cells #[Value.bool na, Value.slice ao la ca] 89)).alloc (Obj.cells #[Value.bool nb, Value.slice bo lb cb] 89)).alloc (Obj.cells #[Value.bool false, Value.slice none 0 0] 89)
  have pa0 := ((Pair.new w (.bool na) (.slice ao la ca) 89).alloc (Obj.cells #[Value.bool nb, Value.slice bo lb cb] 89)).alloc (Obj.cells #[Value.bool false, Value.slice none 0 0] 89)
  have pb0 := (Pair.newAt (w.alloc (Obj.cells #[Value.bool na, Value.slice ao la ca] 89)) (w.heap.size + 1) (by simp) (.bool nb) (.slice bo lb cb) 89).alloc (Obj.cells #[Value.bool false, Value.slice none 0 0] 89)
  generalize (((w.alloc (Obj.cells #[Value.bool na, Value.slice ao la ca] 89)).alloc (Obj.cells #[Value.bool nb, Value.slice bo lb cb] 89)).alloc (Obj.cells #[Value.bool false, Value.slice none 0 0] 89)) = w0 at *
  refine (sub_any ao bo la ca lb cb xs ys _ hla (by omega) hlb (by omega) hx hy ax0 ay0 ox oy).mono ?_
  rintro e w1 ⟨v, r, rfl, hown, his, hb⟩
  rw [if_neg hlt.out]
  have pr1 := pr0.below hb pr0.lt
  have pa1 := pa0.below hb pa0.lt
  have a0 := pa1.cell0
  clear ax0 ay0 pb0
  obtain ⟨o3, c3, rfl, _, _, _⟩ := hown.shape
  go_wp2_with fail
  refine (signed_is na (num B64 xs - num B64 ys) _ _ _ r _ hown his).mono ?_
  rintro e w3 ⟨sg, hsg, rfl, hown2, hb2⟩
  have pr := pr1.below hb2 pr1.lt
  clear a0
  have c0 := pr.cell0
  have c1 := pr.cell1
  have f0 := pr.free 0
  have f1 := pr.free 1
  have hlt0 := pr0.lt
  go_wp2
  refine bodyPost_ret (results_pair rfl _ _ _ _ _ rfl (pr.put _ _)) rfl ?_
  exact WPost.ret (H := w.heap.size + 1 + 1) hsg (hown2.mono (Nat.le_refl _) (by omega)) (by omega) (by omega) (by rw [zv_abs]; exact his) (hb0.trans ((hb.mono hb0.size).trans (hb2.mono (Nat.le_trans hb0.size hb.size))))

set_option maxHeartbeats 1000000 in
theorem addw_ff (na nb : Bool) (hn : na = false) (hm : nb = false) (ao bo : Option Addr) (la ca lb cb : Nat) (xs ys : List Nat) (w : World) (hla : la ≤ ca) (hca : ca ≤ 10000000000) (hlb : lb ≤ cb) (hcb : cb ≤ 10000000000)
    (hx : xs.length = la) (hy : ys.length = lb) (hax : At .u64 w ao xs) (hay : At .u64 w bo ys) (ox : Ok B64 xs) (oy : Ok B64 ys) :
    Calls Tryz.prog 71 #[.agg #[.bool na, .slice ao la ca], .agg #[.bool nb, .slice bo lb cb]] w (WPost w (max la lb + 1) (zv false (num B64 xs + num B64 ys))) := by
  subst hn hm
  go_enter Tryz.func71, Tryz.ntmps71
  go_wp2_with fail
  have hb0 : Below w.heap.size w (((w.alloc (Obj.cells #[Value.bool false, Value.slice ao la ca] 89)).alloc (Obj.cells #[Value.bool false, Value.slice bo lb cb] 89)).alloc (Obj.cells #[Value.bool false, Value.slice none 0 0] 89)) := (((Below.refl _ _).alloc (Nat.le_refl _) _).alloc (by simp) _).alloc (by simp; omega) _
  have pr0 := Pair.newAt ((w.alloc (Obj.cells #[Value.bool false, Value.slice ao la ca] 89)).alloc (Obj.cells #[Value.bool false, Value.slice bo lb cb] 89)) (w.heap.size + 1 + 1) (by simp) (.bool false) (.slice none 0 0) 89
  have ax0 := ((hax.alloc (Obj.cells #[Value.bool false, Value.slice ao la ca] 89)).alloc (Obj.cells #[Value.bool false, Value.slice bo lb cb] 89)).alloc (Obj.cells #[Value.bool false, Value.slice none 0 0] 89)
  have ay0 := ((hay.alloc (Obj.cells #[Value.bool false, Value.slice ao la ca] 89)).alloc (Obj.cells #[Value.bool false, Value.slice bo lb cb] 89)).alloc (Obj.cells #[Value.bool false, Value.slice none 0 0] 89)
  generalize (((w.alloc (Obj.cells #[Value.bool false, Value.slice ao la ca] 89)).alloc (Obj.cells #[Value.bool false, Value.slice bo lb cb] 89)).alloc (Obj.cells #[Value.bool false, Value.slice none 0 0] 89)) = w0 at *
  refine (outward_any false false ao bo la ca lb cb xs ys _ hla hca hlb hcb hx hy ax0 ay0 ox oy).mono ?_
  rintro e w1 ⟨sg, v, r, hsg, rfl, hown, his, hb⟩
  have pr := pr0.below hb pr0.lt
  have c0 := pr.cell0
  have c1 := pr.cell1
  have f0 := pr.free 0
  have f1 := pr.free 1
  have hlt0 := pr0.lt
  have hs := hown.shape
  obtain ⟨o1, cp, rfl, _, _, _⟩ := hs
  go_wp2
  refine bodyPost_ret (results_pair rfl _ _ _ _ _ rfl (pr.put _ _)) rfl ?_
  exact WPost.ret (H := w.heap.size + 1 + 1) hsg hown (by omega) (by omega) his (hb0.trans (hb.mono hb0.size))

set_option maxHeartbeats 1000000 in
theorem addw_tt (na nb : Bool) (hn : na = true) (hm : nb = true) (ao bo : Option Addr) (la ca lb cb : Nat) (xs ys : List Nat) (w : World) (hla : la ≤ ca) (hca : ca ≤ 10000000000) (hlb : lb ≤ cb) (hcb : cb ≤ 10000000000)
    (hx : xs.length = la) (hy : ys.length = lb) (hax : At .u64 w ao xs) (hay : At .u64 w bo ys) (ox : Ok B64 xs) (oy : Ok B64 ys) :
    Calls Tryz.prog 71 #[.agg #[.bool na, .slice ao la ca], .agg #[.bool nb, .slice bo lb cb]] w (WPost w (max la lb + 1) (zv true (num B64 xs + num B64 ys))) := by
  subst hn hm
  go_enter Tryz.func71, Tryz.ntmps71
  go_wp2_with fail
  have hb0 : Below w.heap.size w (((w.alloc (Obj.cells #[Value.bool true, Value.slice ao la ca] 89)).alloc (Obj.cells #[Value.bool true, Value.slice bo lb cb] 89)).alloc (Obj.cells #[Value.bool false, Value.slice none 0 0] 89)) := (((Below.refl _ _).alloc (Nat.le_refl _) _).alloc (by simp) _).alloc (by simp; omega) _
  have pr0 := Pair.newAt ((w.alloc (Obj.cells #[Value.bool true, Value.slice ao la ca] 89)).alloc (Obj.cells #[Value.bool true, Value.slice bo lb cb] 89)) (w.heap.size + 1 + 1) (by simp) (.bool false) (.slice none 0 0) 89
  have ax0 := ((hax.alloc (Obj.cells #[Value.bool true, Value.slice ao la ca] 89)).alloc (Obj.cells #[Value.bool true, Value.slice bo lb cb] 89)).alloc (Obj.cells #[Value.bool false, Value.slice none 0 0] 89)
  have ay0 := ((hay.alloc (Obj.cells #[Value.bool true, Value.slice ao la ca] 89)).alloc (Obj.cells #[Value.bool true, Value.slice bo lb cb] 89)).alloc (Obj.cells #[Value.bool false, Value.slice none 0 0] 89)
  generalize (((w.alloc (Obj.cells #[Value.bool true, Value.slice ao la ca] 89)).alloc (Obj.cells #[Value.bool true, Value.slice bo lb cb] 89)).alloc (Obj.cells #[Value.bool false, Value.slice none 0 0] 89)) = w0 at *
  refine (outward_any true true ao bo la ca lb cb xs ys _ hla hca hlb hcb hx hy ax0 ay0 ox oy).mono ?_
  rintro e w1 ⟨sg, v, r, hsg, rfl, hown, his, hb⟩
  have pr := pr0.below hb pr0.lt
  have c0 := pr.cell0
  have c1 := pr.cell1
  have f0 := pr.free 0
  have f1 := pr.free 1
  have hlt0 := pr0.lt
  have hs := hown.shape
  obtain ⟨o1, cp, rfl, _, _, _⟩ := hs
  go_wp2
  refine bodyPost_ret (results_pair rfl _ _ _ _ _ rfl (pr.put _ _)) rfl ?_
  exact WPost.ret (H := w.heap.size + 1 + 1) hsg hown (by omega) (by omega) his (hb0.trans (hb.mono hb0.size))

set_option maxHeartbeats 1000000 in
theorem addw_ft_less (na nb : Bool) (hn : na = false) (hm : nb = true) (ao bo : Option Addr) (la ca lb cb : Nat) (xs ys : List Nat) (w : World) (hla : la ≤ ca) (hca : ca ≤ 10000000000) (hlb : lb ≤ cb) (hcb : cb ≤ 10000000000)
    (hx : xs.length = la) (hy : ys.length = lb) (hax : At .u64 w ao xs) (hay : At .u64 w bo ys) (ox : Ok B64 xs) (oy : Ok B64 ys) (hlt : Hid (num B64 xs < num B64 ys)) :
    Calls Tryz.prog 71 #[.agg #[.bool na, .slice ao la ca], .agg #[.bool nb, .slice bo lb cb]] w (WPost w (max la lb + 1) (zv true (num B64 ys - num B64 xs))) := by
  subst hn hm
  go_enter Tryz.func71, Tryz.ntmps71
  go_wp2_with fail
  have hb0 : Below w.heap.size w (((w.alloc (Obj.cells #[Value.bool false, Value.slice ao la ca] 89)).alloc (Obj.cells #[Value.bool true, Value.slice bo lb cb] 89)).alloc (Obj.cells #[Value.bool false, Value.slice none 0 0] 89)) := (((Below.refl _ _).alloc (Nat.le_refl _) _).alloc (by simp) _).alloc (by simp; omega) _
  have pr0 := Pair.newAt ((w.alloc (Obj.cells #[Value.bool false, Value.slice ao la ca] 89)).alloc (Obj.cells #[Value.bool true, Value.slice bo lb cb] 89)) (w.heap.size + 1 + 1) (by simp) (.bool false) (.slice none 0 0) 89
  have ax0 := ((hax.alloc (Obj.cells #[Value.bool false, Value.slice ao la ca] 89)).alloc (Obj.cells #[Value.bool true, Value.slice bo lb cb] 89)).alloc (Obj.cells #[Value.bool false, Value.slice none 0 0] 89)
  have ay0 := ((hay.alloc (Obj.cells #[Value.bool false, Value.slice ao la ca] 89)).alloc (Obj.cells #[Value.bool true, Value.slice bo lb cb] 89)).alloc (Obj.cells #[Value.bool false, Value.slice none 0 0] 89)
  generalize (((w.alloc (Obj.cells #[Value.bool false, Value.slice ao la ca] 89)).alloc (Obj.cells #[Value.bool true, Value.slice bo lb cb] 89)).alloc (Obj.cells #[Value.bool false, Value.slice none 0 0] 89)) = w0 at *
  refine (inward_less false true ao bo la ca lb cb xs ys _ hla hca hlb hcb hx hy ax0 ay0 ox oy hlt).mono ?_
  rintro e w1 ⟨sg, v, r, hsg, rfl, hown, his, hb⟩
  have pr := pr0.below hb pr0.lt
  have c0 := pr.cell0
  have c1 := pr.cell1
  have f0 := pr.free 0
  have f1 := pr.free 1
  have hlt0 := pr0.lt
  have hs := hown.shape
  obtain ⟨o1, cp, rfl, _, _, _⟩ := hs
  go_wp2
  refine bodyPost_ret (results_pair rfl _ _ _ _ _ rfl (pr.put _ _)) rfl ?_
  exact WPost.ret (H := w.heap.size + 1 + 1) hsg hown (by omega) (by omega) his (hb0.trans (hb.mono hb0.size))

set_option maxHeartbeats 1000000 in
theorem addw_ft_more (na nb : Bool) (hn : na = false) (hm : nb = true) (ao bo : Option Addr) (la ca lb cb : Nat) (xs ys : List Nat) (w : World) (hla : la ≤ ca) (hca : ca ≤ 10000000000) (hlb : lb ≤ cb) (hcb : cb ≤ 10000000000)
    (hx : xs.length = la) (hy : ys.length = lb) (hax : At .u64 w ao xs) (hay : At .u64 w bo ys) (ox : Ok B64 xs) (oy : Ok B64 ys) (hlt : Hid (¬ num B64 xs < num B64 ys)) :
    Calls Tryz.prog 71 #[.agg #[.bool na, .slice ao la ca], .agg #[.bool nb, .slice bo lb cb]] w (WPost w (max la lb + 1) (zv false (num B64 xs - num B64 ys))) := by
  subst hn hm
  go_enter Tryz.func71, Tryz.ntmps71
  go_wp2_with fail
  have hb0 : Below w.heap.size w (((w.alloc (Obj.cells #[Value.bool false, Value.slice ao la ca] 89)).alloc (Obj.cells #[Value.bool true, Value.slice bo lb cb] 89)).alloc (Obj.cells #[Value.bool false, Value.slice none 0 0] 89)) := (((Below.refl _ _).alloc (Nat.le_refl _) _).alloc (by simp) _).alloc (by simp; omega) _
  have pr0 := Pair.newAt ((w.alloc (Obj.cells #[Value.bool false, Value.slice ao la ca] 89)).alloc (Obj.cells #[Value.bool true, Value.slice bo lb cb] 89)) (w.heap.size + 1 + 1) (by simp) (.bool false) (.slice none 0 0) 89
  have ax0 := ((hax.alloc (Obj.cells #[Value.bool false, Value.slice ao la ca] 89)).alloc (Obj.cells #[Value.bool true, Value.slice bo lb cb] 89)).alloc (Obj.cells #[Value.bool false, Value.slice none 0 0] 89)
  have ay0 := ((hay.alloc (Obj.cells #[Value.bool false, Value.slice ao la ca] 89)).alloc (Obj.cells #[Value.bool true, Value.slice bo lb cb] 89)).alloc (Obj.cells #[Value.bool false, Value.slice none 0 0] 89)
  generalize (((w.alloc (Obj.cells #[Value.bool false, Value.slice ao la ca] 89)).alloc (Obj.cells #[Value.bool true, Value.slice bo lb cb] 89)).alloc (Obj.cells #[Value.bool false, Value.slice none 0 0] 89)) = w0 at *
  refine (inward_more false true ao bo la ca lb cb xs ys _ hla hca hlb hcb hx hy ax0 ay0 ox oy hlt).mono ?_
  rintro e w1 ⟨sg, v, r, hsg, rfl, hown, his, hb⟩
  have pr := pr0.below hb pr0.lt
  have c0 := pr.cell0
  have c1 := pr.cell1
  have f0 := pr.free 0
  have f1 := pr.free 1
  have hlt0 := pr0.lt
  have hs := hown.shape
  obtain ⟨o1, cp, rfl, _, _, _⟩ := hs
  go_wp2
  refine bodyPost_ret (results_pair rfl _ _ _ _ _ rfl (pr.put _ _)) rfl ?_
  exact WPost.ret (H := w.heap.size + 1 + 1) hsg hown (by omega) (by omega) his (hb0.trans (hb.mono hb0.size))

set_option maxHeartbeats 1000000 in
theorem addw_tf_less (na nb : Bool) (hn : na = true) (hm : nb = false) (ao bo : Option Addr) (la ca lb cb : Nat) (xs ys : List Nat) (w : World) (hla : la ≤ ca) (hca : ca ≤ 10000000000) (hlb : lb ≤ cb) (hcb : cb ≤ 10000000000)
    (hx : xs.length = la) (hy : ys.length = lb) (hax : At .u64 w ao xs) (hay : At .u64 w bo ys) (ox : Ok B64 xs) (oy : Ok B64 ys) (hlt : Hid (num B64 xs < num B64 ys)) :
    Calls Tryz.prog 71 #[.agg #[.bool na, .slice ao la ca], .agg #[.bool nb, .slice bo lb cb]] w (WPost w (max la lb + 1) (zv false (num B64 ys - num B64 xs))) := by
  subst hn hm
  go_enter Tryz.func71, Tryz.ntmps71
  go_wp2_with fail
  have hb0 : Below w.heap.size w (((w.alloc (Obj.cells #[Value.bool true, Value.slice ao la ca] 89)).alloc (Obj.cells #[Value.bool false, Value.slice bo lb cb] 89)).alloc (Obj.cells #[Value.bool false, Value.slice none 0 0] 89)) := (((Below.refl _ _).alloc (Nat.le_refl _) _).alloc (by simp) _).alloc (by simp; omega) _
  have pr0 := Pair.newAt ((w.alloc (Obj.cells #[Value.bool true, Value.slice ao la ca] 89)).alloc (Obj.cells #[Value.bool false, Value.slice bo lb cb] 89)) (w.heap.size + 1 + 1) (by simp) (.bool false) (.slice none 0 0) 89
  have ax0 := ((hax.alloc (Obj.cells #[Value.bool true, Value.slice ao la ca] 89)).alloc (Obj.cells #[Value.bool false, Value.slice bo lb cb] 89)).alloc (Obj.cells #[Value.bool false, Value.slice none 0 0] 89)
  have ay0 := ((hay.alloc (Obj.cells #[Value.bool true, Value.slice ao la ca] 89)).alloc (Obj.cells #[Value.bool false, Value.slice bo lb cb] 89)).alloc (Obj.cells #[Value.bool false, Value.slice none 0 0] 89)
  generalize (((w.alloc (Obj.cells #[Value.bool true, Value.slice ao la ca] 89)).alloc (Obj.cells #[Value.bool false, Value.slice bo lb cb] 89)).alloc (Obj.cells #[Value.bool false, Value.slice none 0 0] 89)) = w0 at *
  refine (inward_less true false ao bo la ca lb cb xs ys _ hla hca hlb hcb hx hy ax0 ay0 ox oy hlt).mono ?_
  rintro e w1 ⟨sg, v, r, hsg, rfl, hown, his, hb⟩
  have pr := pr0.below hb pr0.lt
  have c0 := pr.cell0
  have c1 := pr.cell1
  have f0 := pr.free 0
  have f1 := pr.free 1
  have hlt0 := pr0.lt
  have hs := hown.shape
  obtain ⟨o1, cp, rfl, _, _, _⟩ := hs
  go_wp2
  refine bodyPost_ret (results_pair rfl _ _ _ _ _ rfl (pr.put _ _)) rfl ?_
  exact WPost.ret (H := w.heap.size + 1 + 1) hsg hown (by omega) (by omega) his (hb0.trans (hb.mono hb0.size))

set_option maxHeartbeats 1000000 in
theorem addw_tf_more (na nb : Bool) (hn : na = true) (hm : nb = false) (ao bo : Option Addr) (la ca lb cb : Nat) (xs ys : List Nat) (w : World) (hla : la ≤ ca) (hca : ca ≤ 10000000000) (hlb : lb ≤ cb) (hcb : cb ≤ 10000000000)
    (hx : xs.length = la) (hy : ys.length = lb) (hax : At .u64 w ao xs) (hay : At .u64 w bo ys) (ox : Ok B64 xs) (oy : Ok B64 ys) (hlt : Hid (¬ num B64 xs < num B64 ys)) :
    Calls Tryz.prog 71 #[.agg #[.bool na, .slice ao la ca], .agg #[.bool nb, .slice bo lb cb]] w (WPost w (max la lb + 1) (zv true (num B64 xs - num B64 ys))) := by
  subst hn hm
  go_enter Tryz.func71, Tryz.ntmps71
  go_wp2_with fail
  have hb0 : Below w.heap.size w (((w.alloc (Obj.cells #[Value.bool true, Value.slice ao la ca] 89)).alloc (Obj.cells #[Value.bool false, Value.slice bo lb cb] 89)).alloc (Obj.cells #[Value.bool false, Value.slice none 0 0] 89)) := (((Below.refl _ _).alloc (Nat.le_refl _) _).alloc (by simp) _).alloc (by simp; omega) _
  have pr0 := Pair.newAt ((w.alloc (Obj.cells #[Value.bool true, Value.slice ao la ca] 89)).alloc (Obj.cells #[Value.bool false, Value.slice bo lb cb] 89)) (w.heap.size + 1 + 1) (by simp) (.bool false) (.slice none 0 0) 89
  have ax0 := ((hax.alloc (Obj.cells #[Value.bool true, Value.slice ao la ca] 89)).alloc (Obj.cells #[Value.bool false, Value.slice bo lb cb] 89)).alloc (Obj.cells #[Value.bool false, Value.slice none 0 0] 89)
  have ay0 := ((hay.alloc (Obj.cells #[Value.bool true, Value.slice ao la ca] 89)).alloc (Obj.cells #[Value.bool false, Value.slice bo lb cb] 89)).alloc (Obj.cells #[Value.bool false, Value.slice none 0 0] 89)
  generalize (((w.alloc (Obj.cells #[Value.bool true, Value.slice ao la ca] 89)).alloc (Obj.cells #[Value.bool false, Value.slice bo lb cb] 89)).alloc (Obj.cells #[Value.bool false, Value.slice none 0 0] 89)) = w0 at *
  refine (inward_more true false ao bo la ca lb cb xs ys _ hla hca hlb hcb hx hy ax0 ay0 ox oy hlt).mono ?_
  rintro e w1 ⟨sg, v, r, hsg, rfl, hown, his, hb⟩
  have pr := pr0.below hb pr0.lt
  have c0 := pr.cell0
  have c1 := pr.cell1
  have f0 := pr.free 0
  have f1 := pr.free 1
  have hlt0 := pr0.lt
  have hs := hown.shape
  obtain ⟨o1, cp, rfl, _, _, _⟩ := hs
  go_wp2
  refine bodyPost_ret (results_pair rfl _ _ _ _ _ rfl (pr.put _ _)) rfl ?_
  exact WPost.ret (H := w.heap.size + 1 + 1) hsg hown (by omega) (by omega) his (hb0.trans (hb.mono hb0.size))

/-- The sum of any two whole numbers. -/
theorem addw_any (na nb : Bool) (ao bo : Option Addr) (la ca lb cb : Nat) (xs ys : List Nat) (w : World) (hla : la ≤ ca) (hca : ca ≤ 10000000000) (hlb : lb ≤ cb) (hcb : cb ≤ 10000000000)
    (hx : xs.length = la) (hy : ys.length = lb) (hax : At .u64 w ao xs) (hay : At .u64 w bo ys) (ox : Ok B64 xs) (oy : Ok B64 ys) :
    Calls Tryz.prog 71 #[.agg #[.bool na, .slice ao la ca], .agg #[.bool nb, .slice bo lb cb]] w (WPost w (max la lb + 1) (zv na (num B64 xs) + zv nb (num B64 ys))) := by
  by_cases h : na = nb
  · subst h
    rw [outward_val]
    cases na
    · exact addw_ff false false rfl rfl ao bo la ca lb cb xs ys w hla hca hlb hcb hx hy hax hay ox oy
    · exact addw_tt true true rfl rfl ao bo la ca lb cb xs ys w hla hca hlb hcb hx hy hax hay ox oy
  · rw [inward_val h]
    split
    · next hlt =>
      cases na <;> cases nb
      · exact absurd rfl h
      · exact addw_ft_less false true rfl rfl ao bo la ca lb cb xs ys w hla hca hlb hcb hx hy hax hay ox oy hlt
      · exact addw_tf_less true false rfl rfl ao bo la ca lb cb xs ys w hla hca hlb hcb hx hy hax hay ox oy hlt
      · exact absurd rfl h
    · next hlt =>
      cases na <;> cases nb
      · exact absurd rfl h
      · exact addw_ft_more false true rfl rfl ao bo la ca lb cb xs ys w hla hca hlb hcb hx hy hax hay ox oy hlt
      · exact addw_tf_more true false rfl rfl ao bo la ca lb cb xs ys w hla hca hlb hcb hx hy hax hay ox oy hlt
      · exact absurd rfl h

end Go.Proofs.YtafljhfamjabeaaGreatDoor

namespace Go.Proofs.YtafljhfamjabeaaGreatDoor
open Go.RowKit

end Go.Proofs.YtafljhfamjabeaaGreatDoor

namespace Go.Proofs.YtafljhfamjabeaaGreatDoor
open Go.RowKit

/-- What whole.DivMod answers. -/
def WDPost (w : World) (m : Nat) (zq zr : Int) (err : Int) (e : Ending) (w' : World) : Prop :=
  ∃ s1 v1 r1 s2 v2 r2, Hid (s1 = decide (zq < 0)) ∧ Hid (s2 = decide (zr < 0)) ∧ e = .returned (.tuple #[.agg #[.bool s1, v1], .agg #[.bool s2, v2], .int .i64 err]) ∧
    Own .u64 78 w' w.heap.size m v1 r1 ∧ Own .u64 78 w' w.heap.size m v2 r2 ∧ Is B64 r1 zq.natAbs ∧ Is B64 r2 zr.natAbs ∧ Below w.heap.size w w'

theorem Pair.other {w : World} {b : Nat} {x y : Value} {t : TypeId} (h : Pair w b x y t) {a : Addr} (ha : b ≠ a.block) (u : Value) : Pair (w.setCell a u) b x y t := by
  unfold Pair at *
  rw [Below.heap_setCell _ _ _ _ ha]; exact h

theorem WDPost.ret {w w2 : World} {m base H K : Nat} {zq zr err : Int} {s1 s2 : Bool} {v1 v2 x y x' y' : Value} {r1 r2 : List Nat} (h1 : Hid (s1 = decide (zq < 0))) (h2 : Hid (s2 = decide (zr < 0)))
    (o1 : Own .u64 78 w2 base m v1 r1) (o2 : Own .u64 78 w2 base m v2 r2) (l1 : w.heap.size ≤ H) (l2 : H < base) (l3 : w.heap.size ≤ K) (l4 : K < base) (i1 : Is B64 r1 zq.natAbs) (i2 : Is B64 r2 zr.natAbs) (hb : Below w.heap.size w w2) :
    WDPost w m zq zr err (.returned (.tuple #[.agg #[.bool s1, v1], .agg #[.bool s2, v2], .int .i64 err])) ((((w2.setCell ⟨H, 0, none⟩ x).setCell ⟨H, 1, none⟩ y).setCell ⟨K, 0, none⟩ x').setCell ⟨K, 1, none⟩ y') :=
  ⟨s1, v1, r1, s2, v2, r2, h1, h2, rfl, ((((o1.put (by exact l2) _).put (by exact l2) _).put (by exact l4) _).put (by exact l4) _).mono (by omega) (Nat.le_refl _),
    ((((o2.put (by exact l2) _).put (by exact l2) _).put (by exact l4) _).put (by exact l4) _).mono (by omega) (Nat.le_refl _), i1, i2, (((hb.setCell l1 _).setCell l1 _).setCell l3 _).setCell l3 _⟩

end Go.Proofs.YtafljhfamjabeaaGreatDoor

namespace Go.Proofs.YtafljhfamjabeaaGreatDoor
open Go.RowKit

end Go.Proofs.YtafljhfamjabeaaGreatDoor

namespace Go.Proofs.YtafljhfamjabeaaGreatDoor
open Go.RowKit

/-- A sign and limbs are the number z, in whatever form. -/
def NV (s : Bool) (x : List Nat) (z : Int) : Prop := Ok B64 x ∧ zv s (num B64 x) = z
/-- A sign and limbs are the number z in its one form. -/
def NI (s : Bool) (x : List Nat) (z : Int) : Prop := s = decide (z < 0) ∧ Is B64 x z.natAbs

theorem NI.nv {s : Bool} {x : List Nat} {z : Int} (h : NI s x z) : NV s x z := by
  refine ⟨h.2.1, ?_⟩
  rw [h.2.2.2, h.1]
  unfold zv
  by_cases hz : z < 0
  · simp [hz]; omega
  · simp [hz]; omega

theorem NI.mk {s : Bool} {x : List Nat} {z : Int} (h : Hid (s = decide (z < 0))) (hi : Is B64 x z.natAbs) : NI s x z := ⟨h.out, hi⟩

theorem NI.nil : NI false [] 0 := ⟨rfl, Is.none (by decide)⟩

theorem zv_mul (na nb : Bool) (x y : Nat) : zv (na != nb) (x * y) = zv na x * zv nb y := by
  cases na <;> cases nb <;> simp [zv, Int.neg_mul, Int.mul_neg]

section
variable (s t : Bool) (ao bo : Option Addr) (la ca lb cb : Nat) (xs ys : List Nat) (w : World) (hla : la ≤ ca) (hlb : lb ≤ cb) (hx : xs.length = la) (hy : ys.length = lb) (hax : At .u64 w ao xs) (hay : At .u64 w bo ys) (z u : Int) (hz : Hid (NV s xs z)) (hu : Hid (NV t ys u))
include hla hlb hx hy hax hay hz hu
theorem addz (hca : ca ≤ 10000000000) (hcb : cb ≤ 10000000000) : Calls Tryz.prog 71 #[.agg #[.bool s, .slice ao la ca], .agg #[.bool t, .slice bo lb cb]] w (WPost w (max la lb + 1) (z + u)) := by
  rw [← hz.out.2, ← hu.out.2]; exact addw_any s t ao bo la ca lb cb xs ys w hla hca hlb hcb hx hy hax hay hz.out.1 hu.out.1
end

end Go.Proofs.YtafljhfamjabeaaGreatDoor

namespace Go.Proofs.YtafljhfamjabeaaGreatDoor
open Go.RowKit

/-- The numbers x lie at o, in a block from lo on and below hi. -/
def Res (k : IntKind) (W : World) (o : Option Addr) (x : List Nat) (lo hi : Nat) : Prop := At k W o x ∧ ∀ b f, x ≠ [] → o = some ⟨b, f, none⟩ → lo ≤ b ∧ b < hi

theorem Res.below {k : IntKind} {W W' : World} {o : Option Addr} {x : List Nat} {lo hi : Nat} (h : Res k W o x lo hi) (hb : Below W.heap.size W W') : Res k W' o x lo hi := ⟨h.1.below hb, h.2⟩

theorem Res.set {k : IntKind} {W : World} {o : Option Addr} {x : List Nat} {lo hi H i : Nat} (h : Res k W o x lo hi) (hH : H < lo ∨ hi ≤ H) (v : Value) : Res k (W.setCell ⟨H, i, none⟩ v) o x lo hi := by
  refine ⟨?_, h.2⟩
  rcases h.1 with h' | ⟨b, f, h1, h2, h3⟩
  · exact .inl h'
  · by_cases hx : x = []
    · exact .inl hx
    · have h4 := h.2 b f hx h1
      refine .inr ⟨b, f, h1, by simpa [World.setCell] using h2, fun j hj => ?_⟩
      rw [← h3 j hj]
      have hne : H ≠ b := by omega
      refine World.cell?_of_block ?_
      simp [World.setCell, Array.getElem?_modify, hne]

theorem Res.of_own {k : IntKind} {e : TypeId} {W : World} {base m cap : Nat} {o : Option Addr} {x : List Nat} (h : Own k e W base m (.slice o x.length cap) x) (hat : At k W o x) : Res k W o x base W.heap.size := by
  refine ⟨hat, fun b f hx e => ?_⟩
  rcases h with ⟨_, h2⟩ | ⟨g, full, h1, h2, h3, _⟩
  · exact absurd h2 hx
  · simp only [Value.slice.injEq] at h1
    rw [e] at h1
    simp only [Option.some.injEq, Addr.mk.injEq] at h1
    have := h3.lt
    omega

theorem bdrew (w : World) : Below w.heap.size w w.drew := ⟨rfl, rfl, rfl, Nat.le_refl _, fun _ _ => rfl⟩
theorem bal {w W : World} (h : Hid (Below w.heap.size w W)) (o : Obj) : Hid (Below w.heap.size w (W.alloc o)) := h.out.alloc h.out.size o

/-- What a call of whole answers in a region: the number z, in its one form. -/
structure WR (W W' : World) (m : Nat) (z : Int) (s : Bool) (o : Option Addr) (c : Nat) (r : List Nat) : Prop where
  ni : NI s r z
  le : r.length ≤ c
  few : c ≤ m
  res : Res .u64 W' o r W.heap.size W'.heap.size
  bel : Below W.heap.size W W'

theorem WR.of {W W' : World} {m : Nat} {z : Int} {e : Ending} (h : WPost W m z e W') : ∃ s o c r, e = .returned (.agg #[.bool s, .slice o (List.length r) c]) ∧ Hid (WR W W' m z s o c r) := by
  obtain ⟨s, v, r, hs, rfl, hown, his, hb⟩ := h
  obtain ⟨o, c, rfl, h1, h2, h3⟩ := hown.shape
  exact ⟨s, o, c, r, rfl, NI.mk hs his, h1, h2, Res.of_own hown h3, hb⟩

/-- Behind a region that calls twice and lays both answers in variables: block H holds the first, block K the second. -/
structure Both (w W : World) (T : TypeId) (H K : Nat) (x1 y1 x2 y2 : Value) (o1 : Option Addr) (r1 : List Nat) (o2 : Option Addr) (r2 : List Nat) (k : IntKind) : Prop where
  bel : Below w.heap.size w W
  p1 : Pair W H x1 y1 T
  p2 : Pair W K x2 y2 T
  at1 : At k W o1 r1
  at2 : At k W o2 r2

theorem both {w W : World} {T : TypeId} {H K : Nat} {a b c d x1 y1 x2 y2 : Value} {o1 o2 : Option Addr} {r1 r2 : List Nat} {k : IntKind} {l1 h1 l2 h2 : Nat} (hb : Below w.heap.size w W) (p1 : Pair W H a b T) (p2 : Pair W K c d T) (hH : w.heap.size ≤ H) (hK : w.heap.size ≤ K) (hne : H ≠ K)
    (f1 : Res k W o1 r1 l1 h1) (f2 : Res k W o2 r2 l2 h2) (e1 : (H < l1 ∨ h1 ≤ H) ∧ (K < l1 ∨ h1 ≤ K)) (e2 : (H < l2 ∨ h2 ≤ H) ∧ (K < l2 ∨ h2 ≤ K)) :
    Both w ((((W.setCell ⟨H, 0, none⟩ x1).setCell ⟨H, 1, none⟩ y1).setCell ⟨K, 0, none⟩ x2).setCell ⟨K, 1, none⟩ y2) T H K x1 y1 x2 y2 o1 r1 o2 r2 k := by
  refine ⟨(((hb.setCell hH _).setCell hH _).setCell hK _).setCell hK _, ?_, ?_, ?_, ?_⟩
  · exact ((p1.put _ _).other (by exact hne) _).other (by exact hne) _
  · exact ((p2.other (by exact Ne.symm hne) _).other (by exact Ne.symm hne) _).put _ _
  · exact ((((f1.set e1.1 _).set e1.1 _).set e1.2 _).set e1.2 _).1
  · exact ((((f2.set e2.1 _).set e2.1 _).set e2.2 _).set e2.2 _).1

section
variable {w W : World} {T : TypeId} {H : Nat} {a b x1 y1 x2 y2 : Value} {o1 o2 : Option Addr} {r1 r2 : List Nat} {k : IntKind} {l1 h1 l2 h2 : Nat}
end

end Go.Proofs.YtafljhfamjabeaaGreatDoor

namespace Go.Proofs.YtafljhfamjabeaaGreatDoor
open Go.RowKit

set_option maxRecDepth 100000 in
set_option maxHeartbeats 1000000 in
theorem chunkOf_any (s : ByteArray) (w : World) (hn : s.size ≤ 19) (hd : DigB (bys s)) :
    Calls Tryz.prog 127 #[.string s] w fun e w' => e = .returned (.int .u64 ((decV (bys s) : Nat) : Int)) ∧ w' = w := by
  obtain ⟨n, hnn⟩ : ∃ n, n = s.size := ⟨_, rfl⟩
  have HD : Hid (DigB (bys s)) := hd
  have hl := bys_len s
  have HL : Hid ((bys s).length = n) := by rw [hnn]; exact hl
  clear hd hl
  go_enter Tryz.func127, Tryz.ntmps127
  go_wp2
  go_loopw [3, 4, 7] (fun c _ i wr => ∃ k : Nat, k ≤ n ∧ c = .int .u64 ((decV ((bys s).take k) : Nat) : Int) ∧ i = .int .i64 (k : Int) ∧ wr = w) (fun _ _ i _ => n - (intOf i).toNat)
  case atStart => exact ⟨0, Nat.zero_le _, by simp [decV], rfl, rfl⟩
  case round =>
    obtain ⟨k, hk, rfl, rfl, rfl⟩ := hrel
    by_cases hlt : k < n
    · have hlt' : (k : Int) < (s.size : Int) := by omega
      have hks : k < s.size := by omega
      have hb := HD.out k (by rw [HL.out]; exact hlt)
      have hg := byt_get s k hks
      have hv := decV_lt k ((bys s).take k) (by rw [List.length_take, HL.out]; omega) (HD.out.take k)
      have hp : (10 : Nat) ^ k ≤ 10 ^ 18 := Nat.pow_le_pow_right (by omega) (by omega)
      have hp18 : (10 : Nat) ^ 18 = 1000000000000000000 := by decide +kernel
      have hs := decV_succ (bys s) (k := k) (by rw [HL.out]; exact hlt)
      obtain ⟨x, hx⟩ : ∃ x, x = decV ((bys s).take k) := ⟨_, rfl⟩
      obtain ⟨b, hbb⟩ : ∃ b, b = byt (bys s) k := ⟨_, rfl⟩
      rw [← hx, ← hbb] at hs
      rw [← hx] at hv ⊢
      rw [← hbb] at hb hg
      have hx18 : x < 1000000000000000000 := by omega
      have w1 : IntKind.u64.wrap (IntKind.u64.wrap ((x : Int) * 10) + ((b : Int) - 48) % 256) = ((decV ((bys s).take (k + 1)) : Nat) : Int) := by
        rw [hs, IntKind.wrap_u64, IntKind.wrap_u64]; omega
      have W1 := hide w1
      have HG := hide hg
      clear hs hv hp hp18 hx hbb w1 hg hx18
      go_wp2
      rw [HG.out, W1.out]
      exact ⟨⟨k + 1, by omega, rfl, by go_num, trivial⟩, by simp [intOf]; omega⟩
    · obtain rfl : k = n := by omega
      have hlt' : ¬ (k : Int) < (s.size : Int) := by omega
      have e : (bys s).take k = bys s := List.take_of_length_le (by rw [HL.out]; omega)
      rw [e]
      go_wp2
      go_ret
      exact ⟨rfl, rfl⟩

set_option maxRecDepth 100000 in
set_option maxHeartbeats 1000000 in
theorem areDigits_zero (s : ByteArray) (w : World) (n : Nat) (hn : s.size = n) (hle : n ≤ 10000) (hpos : 0 < s.size) (z : Bool) (hz : z = true ↔ DigB (bys s)) (he : s.toList.isEmpty = false) (h48 : ∀ h : 0 < s.size, s[0].toNat = 48) (hq : (s.toList == [48]) = true) :
    Calls Tryz.prog 125 #[.string s] w fun e w' => e = .returned (.bool z) ∧ w' = w := by
  have HZ := hide hz
  have hl := bys_len s
  have HL : Hid ((bys s).length = n) := by rw [← hn]; exact hl
  clear hz hl
  go_enter Tryz.func125, Tryz.ntmps125
  go_wp2
  go_loopw [3, 17] (fun _ i wr => ∃ k : Nat, k ≤ n ∧ i = .int .i64 (k : Int) ∧ wr = w ∧ (∀ j, j < k → 48 ≤ byt (bys s) j ∧ byt (bys s) j ≤ 57)) (fun _ i _ => n - (intOf i).toNat)
  case atStart => exact ⟨0, Nat.zero_le _, rfl, rfl, fun j hj => by omega⟩
  case round =>
    obtain ⟨k, hk, rfl, rfl, hall⟩ := hrel
    have HA := hide hall
    clear hall
    by_cases hlt : k < n
    · have hlt' : (k : Int) < (s.size : Int) := by omega
      have hks : k < s.size := by omega
      have hg : ∀ h : k < s.size, s[k].toNat = byt (bys s) k := fun h => byt_get s k h
      obtain ⟨b, hb⟩ : ∃ b, b = byt (bys s) k := ⟨_, rfl⟩
      rw [← hb] at hg
      have HB := hide hb
      clear hb
      by_cases h1 : b < 48
      · have h1' : (b : Int) < 48 := by omega
        have ez : z = false := by
          rcases hzz : z with _ | _
          · rfl
          · exfalso
            have := (HZ.out.1 hzz) k (by rw [HL.out]; exact hlt)
            rw [← HB.out] at this; omega
        subst ez
        go_wp2
        go_ret
        exact ⟨rfl, rfl⟩
      · have h1' : ¬ (b : Int) < 48 := by omega
        by_cases h2 : 57 < b
        · have h2' : (57 : Int) < (b : Int) := by omega
          have ez : z = false := by
            rcases hzz : z with _ | _
            · rfl
            · exfalso
              have := (HZ.out.1 hzz) k (by rw [HL.out]; exact hlt)
              rw [← HB.out] at this; omega
          subst ez
          go_wp2
          go_ret
          exact ⟨rfl, rfl⟩
        · have h2' : ¬ (57 : Int) < (b : Int) := by omega
          have hn' : ∀ j, j < k + 1 → 48 ≤ byt (bys s) j ∧ byt (bys s) j ≤ 57 := by
            intro j hj
            by_cases e : j = k
            · rw [e, ← HB.out]; omega
            · exact HA.out j (by omega)
          have HN := hide hn'
          clear hn'
          go_wp2
          exact ⟨⟨k + 1, by omega, by go_num, trivial, HN.out⟩, by simp [intOf]; omega⟩
    · obtain rfl : k = n := by omega
      have hlt' : ¬ (k : Int) < (s.size : Int) := by omega
      have ez : z = true := HZ.out.2 (fun j hj => HA.out j (by rw [HL.out] at hj; exact hj))
      subst ez
      go_wp2
      go_ret
      exact ⟨rfl, rfl⟩

set_option maxRecDepth 100000 in
set_option maxHeartbeats 1000000 in
theorem areDigits_other (s : ByteArray) (w : World) (n : Nat) (hn : s.size = n) (hle : n ≤ 10000) (hpos : 0 < s.size) (z : Bool) (hz : z = true ↔ DigB (bys s)) (he : s.toList.isEmpty = false) (d : Nat) (hd : ∀ h : 0 < s.size, s[0].toNat = d) (h48 : ((d : Int) == 48) = false) :
    Calls Tryz.prog 125 #[.string s] w fun e w' => e = .returned (.bool z) ∧ w' = w := by
  have HZ := hide hz
  have hl := bys_len s
  have HL : Hid ((bys s).length = n) := by rw [← hn]; exact hl
  clear hz hl
  go_enter Tryz.func125, Tryz.ntmps125
  go_wp2
  go_loopw [3, 17] (fun _ i wr => ∃ k : Nat, k ≤ n ∧ i = .int .i64 (k : Int) ∧ wr = w ∧ (∀ j, j < k → 48 ≤ byt (bys s) j ∧ byt (bys s) j ≤ 57)) (fun _ i _ => n - (intOf i).toNat)
  case atStart => exact ⟨0, Nat.zero_le _, rfl, rfl, fun j hj => by omega⟩
  case round =>
    obtain ⟨k, hk, rfl, rfl, hall⟩ := hrel
    have HA := hide hall
    clear hall
    by_cases hlt : k < n
    · have hlt' : (k : Int) < (s.size : Int) := by omega
      have hks : k < s.size := by omega
      have hg : ∀ h : k < s.size, s[k].toNat = byt (bys s) k := fun h => byt_get s k h
      obtain ⟨b, hb⟩ : ∃ b, b = byt (bys s) k := ⟨_, rfl⟩
      rw [← hb] at hg
      have HB := hide hb
      clear hb
      by_cases h1 : b < 48
      · have h1' : (b : Int) < 48 := by omega
        have ez : z = false := by
          rcases hzz : z with _ | _
          · rfl
          · exfalso
            have := (HZ.out.1 hzz) k (by rw [HL.out]; exact hlt)
            rw [← HB.out] at this; omega
        subst ez
        go_wp2
        go_ret
        exact ⟨rfl, rfl⟩
      · have h1' : ¬ (b : Int) < 48 := by omega
        by_cases h2 : 57 < b
        · have h2' : (57 : Int) < (b : Int) := by omega
          have ez : z = false := by
            rcases hzz : z with _ | _
            · rfl
            · exfalso
              have := (HZ.out.1 hzz) k (by rw [HL.out]; exact hlt)
              rw [← HB.out] at this; omega
          subst ez
          go_wp2
          go_ret
          exact ⟨rfl, rfl⟩
        · have h2' : ¬ (57 : Int) < (b : Int) := by omega
          have hn' : ∀ j, j < k + 1 → 48 ≤ byt (bys s) j ∧ byt (bys s) j ≤ 57 := by
            intro j hj
            by_cases e : j = k
            · rw [e, ← HB.out]; omega
            · exact HA.out j (by omega)
          have HN := hide hn'
          clear hn'
          go_wp2
          exact ⟨⟨k + 1, by omega, by go_num, trivial, HN.out⟩, by simp [intOf]; omega⟩
    · obtain rfl : k = n := by omega
      have hlt' : ¬ (k : Int) < (s.size : Int) := by omega
      have ez : z = true := HZ.out.2 (fun j hj => HA.out j (by rw [HL.out] at hj; exact hj))
      subst ez
      go_wp2
      go_ret
      exact ⟨rfl, rfl⟩

set_option maxRecDepth 100000 in
set_option maxHeartbeats 400000 in
theorem areDigits_empty (s : ByteArray) (w : World) (he : s.toList.isEmpty = true) :
    Calls Tryz.prog 125 #[.string s] w fun e w' => e = .returned (.bool false) ∧ w' = w := by
  go_enter Tryz.func125, Tryz.ntmps125
  go_wp2
  go_ret
  exact ⟨rfl, rfl⟩

set_option maxRecDepth 100000 in
set_option maxHeartbeats 400000 in
theorem areDigits_ahead (s : ByteArray) (w : World) (he : s.toList.isEmpty = false) (hpos : 0 < s.size) (h48 : ∀ h : 0 < s.size, s[0].toNat = 48) (hq : (s.toList == [48]) = false) :
    Calls Tryz.prog 125 #[.string s] w fun e w' => e = .returned (.bool false) ∧ w' = w := by
  go_enter Tryz.func125, Tryz.ntmps125
  go_wp2
  go_ret
  exact ⟨rfl, rfl⟩

theorem areDigits_any (s : ByteArray) (w : World) (hle : s.size ≤ 10000) (z : Bool) (hz : z = true ↔ OkT (bys s)) :
    Calls Tryz.prog 125 #[.string s] w fun e w' => e = .returned (.bool z) ∧ w' = w := by
  have hl := bys_len s
  rcases Nat.eq_zero_or_pos s.size with h0 | hpos
  · have hb : bys s = [] := List.length_eq_zero_iff.1 (by rw [hl]; exact h0)
    have ez : z = false := by
      rcases hzz : z with _ | _
      · rfl
      · exact absurd hb (hz.1 hzz).1
    subst ez
    exact areDigits_empty s w (by rw [sl, hb]; rfl)
  · have hne : bys s ≠ [] := fun h => by rw [h] at hl; simp at hl; omega
    have he : s.toList.isEmpty = false := by rw [sl]; simp [hne]
    have hg : ∀ h : 0 < s.size, s[0].toNat = byt (bys s) 0 := fun h => byt_get s 0 h
    by_cases h48 : byt (bys s) 0 = 48
    · rw [h48] at hg
      by_cases hq : bys s = [48]
      · refine areDigits_zero s w _ rfl hle hpos z ?_ he hg (by rw [sl, hq]; rfl)
        rw [hz]; unfold OkT
        exact ⟨fun h => h.2.2, fun h => ⟨hne, fun _ => hq, h⟩⟩
      · have ez : z = false := by
          rcases hzz : z with _ | _
          · rfl
          · exact absurd ((hz.1 hzz).2.1 h48) hq
        subst ez
        exact areDigits_ahead s w he hpos hg (by rw [sl]; simp [hq])
    · refine areDigits_other s w _ rfl hle hpos z ?_ he _ hg (by rw [beq_eq_false_iff_ne]; omega)
      rw [hz]; unfold OkT
      exact ⟨fun h => h.2.2, fun h => ⟨hne, fun e => absurd e h48, h⟩⟩

end Go.Proofs.YtafljhfamjabeaaGreatDoor

namespace Go.Proofs.YtafljhfamjabeaaGreatDoor
open Go.RowKit

/-- The m lowest decimal digits of r, noughts ahead of them too. -/
def padD : Nat → Nat → List UInt8
  | 0, _ => []
  | m + 1, r => padD m (r / 10) ++ [UInt8.ofNat (48 + r % 10)]

theorem dd_append : ∀ (m q r : Nat), q ≠ 0 → r < 10 ^ m → Lib.decDigits (q * 10 ^ m + r) = Lib.decDigits q ++ padD m r
  | 0, q, r, _, hr => by
    have : r = 0 := by simpa using hr
    subst this; simp [padD]
  | m + 1, q, r, hq, hr => by
    have hp : 0 < 10 ^ m := Nat.pow_pos (by omega)
    have h1 : 1 * 10 ^ m ≤ q * 10 ^ m := Nat.mul_le_mul_right _ (by omega)
    have e0 : q * 10 ^ (m + 1) = q * 10 ^ m * 10 := by rw [Nat.pow_succ, Nat.mul_assoc]
    have e1 : (q * 10 ^ (m + 1) + r) / 10 = q * 10 ^ m + r / 10 := by rw [e0]; omega
    have e2 : (q * 10 ^ (m + 1) + r) % 10 = r % 10 := by rw [e0]; omega
    have hb : ¬ q * 10 ^ (m + 1) + r < 10 := by rw [e0]; omega
    rw [dd_big hb, e1, e2, dd_append m q (r / 10) hq (by rw [Nat.pow_succ] at hr; omega)]
    simp [padD]

theorem padD_zero : ∀ m, padD m 0 = List.replicate m (48 : UInt8)
  | 0 => rfl
  | m + 1 => by
    show padD m (0 / 10) ++ [UInt8.ofNat (48 + 0 % 10)] = _
    rw [Nat.zero_div, padD_zero m, List.replicate_succ']
    rfl

theorem padD_eq : ∀ (m r : Nat), 1 ≤ m → r < 10 ^ m → padD m r = List.replicate (m - (Lib.decDigits r).length) (48 : UInt8) ++ Lib.decDigits r
  | 0, _, h, _ => absurd h (by omega)
  | m + 1, r, _, hr => by
    by_cases h : r < 10
    · show padD m (r / 10) ++ [UInt8.ofNat (48 + r % 10)] = _
      rw [Nat.div_eq_of_lt h, padD_zero, Nat.mod_eq_of_lt h, Lib.decDigits_one h]
      simp
    · have hm : 1 ≤ m := by
        rcases m with _ | m
        · simp at hr; omega
        · omega
      show padD m (r / 10) ++ [UInt8.ofNat (48 + r % 10)] = _
      rw [padD_eq m (r / 10) hm (by rw [Nat.pow_succ] at hr; omega), dd_big h]
      simp

theorem nd_lower : ∀ k u : Nat, 1 ≤ u → Lib.nDigits u = k + 1 → 10 ^ k ≤ u
  | 0, u, h, _ => by simpa using h
  | k + 1, u, h, hn => by
    by_cases h10 : u < 10
    · rw [Lib.nDigits_small h10] at hn; omega
    · rw [Lib.nDigits_big h10] at hn
      have := nd_lower k (u / 10) (by omega) (by omega)
      rw [Nat.pow_succ]; omega

theorem nd_le {u t : Nat} (h : u < 10 ^ t) (ht : 1 ≤ t) : Lib.nDigits u ≤ t := by
  by_cases h0 : u = 0
  · subst h0; rw [Lib.nDigits_small (by omega)]; exact ht
  · rcases hn : Lib.nDigits u with _ | k
    · omega
    · have := nd_lower k u (by omega) hn
      rcases Nat.lt_or_ge k t with h' | h'
      · omega
      · have := Nat.pow_le_pow_right (show 0 < 10 by omega) h'; omega

theorem text_len {N la : Nat} (h : N < B64 ^ la) (j : Nat) : (Lib.decDigits (N / U19 ^ j)).length ≤ 20 * la + 1 := by
  rw [Lib.decDigits_length]
  refine nd_le (t := 20 * la + 1) ?_ (by omega)
  have h1 : B64 ^ la ≤ (10 ^ 20) ^ la := Nat.pow_le_pow_left (by decide +kernel) la
  rw [← Nat.pow_mul] at h1
  have h2 := Nat.div_le_self N (U19 ^ j)
  have h3 : (10 : Nat) ^ (20 * la) ≤ 10 ^ (20 * la + 1) := Nat.pow_le_pow_right (by omega) (by omega)
  omega

theorem repeat0 (c : Nat) : Lib.repeatL [48] c = List.replicate c (48 : UInt8) := by
  induction c with
  | zero => rfl
  | succ c ih => rw [Lib.repeatL, ih]; rfl

theorem chunk_text {N k : Nat} (h : N / U19 ^ (k + 1) ≠ 0) : Lib.decDigits (N / U19 ^ k) = Lib.decDigits (N / U19 ^ (k + 1)) ++ (List.replicate (19 - (Lib.decDigits (chunkD N k)).length) (48 : UInt8) ++ Lib.decDigits (chunkD N k)) := by
  have hU : U19 = 10 ^ 19 := by decide +kernel
  have e : N / U19 ^ k = N / U19 ^ (k + 1) * 10 ^ 19 + chunkD N k := by
    unfold chunkD
    rw [Nat.pow_succ, ← Nat.div_div_eq_div_mul]
    have := Nat.div_add_mod (N / U19 ^ k) U19
    rw [← hU, Nat.mul_comm]; omega
  have hlt : chunkD N k < 10 ^ 19 := by rw [← hU]; exact Nat.mod_lt _ (by decide)
  rw [← padD_eq 19 _ (by omega) hlt, ← dd_append 19 _ _ h hlt, ← e]

theorem chunk_dd {N k : Nat} : (Lib.decDigits (chunkD N k)).length ≤ 19 := by
  rw [Lib.decDigits_length]
  refine nd_le ?_ (by omega)
  have hU : U19 = 10 ^ 19 := by decide +kernel
  rw [← hU]; exact Nat.mod_lt _ (by decide)

theorem chunk_lt (N k : Nat) : chunkD N k < 18446744073709551616 := Nat.lt_trans (Nat.mod_lt _ (by decide)) (show U19 < 18446744073709551616 by decide)

/-- A builder stays, where what it lies in stays. -/
theorem bld_below {T e : TypeId} {B b : Nat} {p : Value} {bs : List Value} {w w' : World} (h : Lib.BuilderAt T e B b p bs w) (hb : Below w.heap.size w w') : Lib.BuilderAt T e B b p bs w' := by
  obtain ⟨h1, v, h2, h3, h4⟩ := h
  refine ⟨h1, v, ?_, h3.kept (row := none) ⟨hb.os, hb.tape, hb.output, hb.size, fun k hk _ => hb.block k hk⟩ ?_, h4⟩
  · rw [hb.block b (lt_of_block h2)]; exact h2
  · cases hv : v.ownBlock with
    | none => exact .inl rfl
    | some g => exact .inr (by simp)

theorem bld_new (w : World) : Lib.IsBuilder 117 5 w.heap.size w.heap.size [] (w.alloc (.cells #[.pointer none, .slice none 0 0] 117)) :=
  .inl ⟨Nat.le_refl _, .slice none 0 0, heap_alloc_new _ _, World.ownsRow_nil _ _ _ _, by simp [Value.ownBlock]⟩

set_option maxRecDepth 100000 in
set_option maxHeartbeats 2000000 in
theorem text_any (ao : Option Addr) (la ca : Nat) (xs : List Nat) (w : World) (hla : la ≤ ca) (hca : ca ≤ 5000000) (hx : xs.length = la) (hax : At .u64 w ao xs) (ox : Ok B64 xs) (htab : Tab w) :
    Calls Tryz.prog 73 #[.slice ao la ca] w fun e w' => e = .returned (.string ⟨(Lib.decDigits (num B64 xs)).toArray⟩) ∧ Below w.heap.size w w' := by
  obtain ⟨N, hN⟩ : ∃ N, N = num B64 xs := ⟨_, rfl⟩
  have HN : Hid (N < B64 ^ la) := by rw [hN, ← hx]; exact num_lt ox
  have cu := cut_any ao la ca xs w hla hca hx hax ox
  rw [← hN] at cu ⊢
  have CU := hide cu
  have HTAB : Hid (Tab w) := htab
  clear cu hN hax ox htab
  go_enter Tryz.func73, Tryz.ntmps73
  go_wp2_with fail
  refine CU.out.mono ?_
  rintro e w1 ⟨co, cc, cs, rfl, hcl, hcat, his, hcm, hb1⟩
  rcases hcs : cs.length with _ | t
  · have hz : cs = [] := List.length_eq_zero_iff.1 hcs
    have hN0 : N = 0 := by rw [hz] at his; exact his.2.2.symm
    clear hcat his hcl hcm hz HN
    subst hN0
    go_wp2
    go_ret
    exact ⟨by rw [Lib.decDigits_one (by omega)]; rfl, hb1⟩
  · obtain ⟨cb, cf, rfl, hcb, hcell⟩ : ∃ cb cf, co = some ⟨cb, cf, none⟩ ∧ cb < w1.heap.size ∧ ∀ i, i < cs.length → w1.cell? ⟨cb, cf + i, none⟩ = some (.int .u64 ((dg cs i : Nat) : Int)) := by
      rcases hcat with h | h
      · rw [h] at hcs; simp at hcs
      · exact h
    have hdig : ∀ j, dg cs j = chunkD N j := fun j => by rw [← dig_at (by decide) his.1 j, his.2.2]; rfl
    have hcell' : ∀ j, j ≤ t → w1.cell? ⟨cb, cf + j, none⟩ = some (.int .u64 ((chunkD N j : Nat) : Int)) := fun j hj => by rw [hcell j (by omega), hdig]
    have htop : N / U19 ^ t ≠ 0 := by
      intro e
      have h1 := his.2.1 t hcs
      rw [hdig t] at h1
      unfold chunkD at h1
      rw [e, Nat.zero_mod] at h1
      exact h1 rfl
    have hall : ∀ j, j ≤ t → N / U19 ^ j ≠ 0 := by
      intro j hj e
      refine htop (Nat.div_eq_of_lt ?_)
      have h1 : N < U19 ^ j := by
        rcases Nat.lt_or_ge N (U19 ^ j) with h | h
        · exact h
        · have := Nat.div_pos h (Nat.pow_pos (show 0 < U19 by decide)); omega
      exact Nat.lt_of_lt_of_le h1 (Nat.pow_le_pow_right (by decide) hj)
    have hfirst : Lib.decDigits (chunkD N t) = Lib.decDigits (N / U19 ^ t) := by
      have h1 := num_lt his.1
      rw [his.2.2, hcs, Nat.pow_succ] at h1
      unfold chunkD
      rw [Nat.mod_eq_of_lt ((Nat.div_lt_iff_lt_mul (Nat.pow_pos (by decide))).2 (by rw [Nat.mul_comm]; exact h1))]
    have HC := hide hcell'
    have HALL := hide hall
    have htl : t ≤ 2 * la := by omega
    have c0 := HC.out t (Nat.le_refl _)
    have hlt : (t : Int) < ((t + 1 : Nat) : Int) := by omega
    have hnt : ¬ (t : Int) < 0 := by omega
    have c0' : (w1.alloc (Obj.cells #[Value.pointer none, Value.slice none 0 0] 117)).cell? ⟨cb, cf + t, none⟩ = some (.int .u64 ((chunkD N t : Nat) : Int)) := by
      rw [World.cell?_of_block (w := w1) (Below.heap_alloc _ _ _ hcb)]; exact c0
    obtain ⟨d0, hd0⟩ : ∃ d, d = chunkD N t := ⟨_, rfl⟩
    have fm := fun W hT => fmtUint_any (chunkD N t) (chunk_lt N t) W hT
    rw [← hd0] at c0' fm hfirst
    obtain ⟨ds, hds⟩ : ∃ ds : ByteArray, ds = ⟨(Lib.decDigits d0).toArray⟩ := ⟨_, rfl⟩
    rw [← hds] at fm
    have FM := hide fm
    have HDS := hide hds
    have HF := hide hfirst
    have hbn := bld_new w1
    have hT2 : Tab (w1.alloc (Obj.cells #[Value.pointer none, Value.slice none 0 0] 117)) := (HTAB.out.below hb1).alloc _
    have HT2 := hide hT2
    have HBN := hide hbn
    have hb12 : Below w1.heap.size w1 (w1.alloc (Obj.cells #[Value.pointer none, Value.slice none 0 0] 117)) := (Below.refl _ _).alloc (Nat.le_refl _) _
    have HB12 := hide hb12
    have HB1 := hide hb1
    have hlen : ∀ j, (Lib.decDigits (N / U19 ^ j)).length ≤ 20 * la + 1 := text_len HN.out
    have HLEN := hide hlen
    clear hcat hcell hdig hcell' htop hall hfirst fm hd0 hds c0 his hcl hcm hbn hT2 hb12 hb1 hlen hcs
    go_wp2_with fail
    refine (FM.out _ HT2.out).mono ?_
    rintro e w3 ⟨rfl, hb3⟩
    have hbu3 : Lib.IsBuilder 117 5 w1.heap.size w1.heap.size [] w3 := by
      rcases HBN.out with h | h
      · exact .inl (bld_below h hb3)
      · exact .inr (bld_below h hb3)
    have hb13 := HB12.out.trans (hb3.mono HB12.out.size)
    have hsz3 := hb13.size
    have hds0 : ds.size ≤ 200000000 := by
      rw [HDS.out]
      show (Lib.decDigits d0).length ≤ _
      rw [HF.out]
      have := HLEN.out t
      omega
    clear hb3 c0'
    go_wp2_with fail
    refine (writeString_any w1.heap.size w1.heap.size [] ds _ hbu3 (by simp; omega) hsz3).mono ?_
    rintro e w4 ⟨rfl, hbu4, hb4⟩
    have hbt : Lib.BuilderAt 117 5 w1.heap.size w1.heap.size (.pointer (some ⟨w1.heap.size, 0, none⟩)) (Lib.byteCells (Lib.decDigits (N / U19 ^ t))) w4 := by
      rw [← HF.out, ← Lib.strCells_toArray, ← HDS.out]; simpa using hbu4
    have hb14 := hb13.trans hb4
    have HBT := hide hbt
    have HB14 := hide hb14
    clear hbu3 hbu4 hb13 hb4 hsz3 hbt hb14
    go_wp2
    go_loopw [6, 7] (fun i _ wr => ∃ k : Nat, k ≤ t ∧ i = .int .i64 ((k : Int) - 1) ∧ Below w1.heap.size w1 wr ∧ Lib.BuilderAt 117 5 w1.heap.size w1.heap.size (.pointer (some ⟨w1.heap.size, 0, none⟩)) (Lib.byteCells (Lib.decDigits (N / U19 ^ k))) wr) (fun i _ _ => (intOf i + 1).toNat)
    case atStart => exact ⟨t, Nat.le_refl _, rfl, HB14.out, HBT.out⟩
    case round =>
      clear HBT HB14
      obtain ⟨k, hk, rfl, hbr, hbu⟩ := hrel
      have hszr := hbr.size
      rcases k with _ | k
      · rw [Nat.pow_zero, Nat.div_one] at hbu
        have hI : Lib.IsBuilder 117 5 w1.heap.size w1.heap.size (Lib.byteCells (Lib.decDigits N)) wr := .inr hbu
        clear hbu
        go_wp2_with fail
        refine (Tryz.Builder_String_any w1.heap.size w1.heap.size (Lib.decDigits N) _ hI hszr).mono ?_
        rintro e w5 ⟨rfl, hb5⟩
        have hbw := HB1.out.trans ((hbr.trans hb5).mono HB1.out.size)
        clear hI hb5 hbr
        go_wp2
        go_ret
        exact ⟨rfl, hbw⟩
      · have c0 : wr.cell? ⟨cb, cf + k, none⟩ = some (.int .u64 ((chunkD N k : Nat) : Int)) := (hbr.cell hcb).trans (HC.out k (by omega))
        have hct := chunk_text (N := N) (k := k) (HALL.out (k + 1) (by omega))
        have hd19 := chunk_dd (N := N) (k := k)
        have hlenk := HLEN.out k
        have hT : Tab wr := HTAB.out.below (HB1.out.trans (hbr.mono HB1.out.size))
        have fm := fun W hT => fmtUint_any (chunkD N k) (chunk_lt N k) W hT
        obtain ⟨d, hd⟩ : ∃ d, d = chunkD N k := ⟨_, rfl⟩
        rw [← hd] at c0 fm hct hd19
        obtain ⟨dz, hdz⟩ : ∃ dz : ByteArray, dz = ⟨(Lib.decDigits d).toArray⟩ := ⟨_, rfl⟩
        rw [← hdz] at fm
        obtain ⟨m, hm⟩ : ∃ m, m = (Lib.decDigits d).length := ⟨_, rfl⟩
        have hzs : dz.size = m := by rw [hdz, hm]; rfl
        obtain ⟨c, hc⟩ : ∃ c, c + m = 19 := ⟨19 - m, by omega⟩
        have hc1 : (19 : Int) - (m : Int) = (c : Int) := by omega
        have hcn : 19 - (Lib.decDigits d).length = c := by omega
        rw [hcn] at hct
        have FMk := hide fm
        have HDZ := hide hdz
        have HCT := hide hct
        have HZS := hide hzs
        have hkt : (k : Int) < ((t + 1 : Nat) : Int) := by omega
        have hbl : (Lib.decDigits (N / U19 ^ (k + 1))).length ≤ 20 * la + 1 := HLEN.out (k + 1)
        have HT := hide hT
        clear hct hd19 hlenk hd hdz hm hzs fm hcn hT
        go_wp2_with fail
        refine (FMk.out _ HT.out).mono ?_
        rintro e w5 ⟨rfl, hb5⟩
        have hbu5 := bld_below hbu hb5
        have hbr5 := hbr.trans (hb5.mono hszr)
        have hsz5 := hbr5.size
        have hzi : ((dz.size : Nat) : Int) = (m : Int) := by rw [HZS.out]
        clear hb5 hbu hbr c0 hszr
        obtain ⟨zs, hzs⟩ : ∃ zs : ByteArray, zs = ⟨(List.replicate c (48 : UInt8)).toArray⟩ := ⟨_, rfl⟩
        have rp : Calls Tryz.prog 96 #[.string ⟨#[48]⟩, .int .i64 (c : Int)] w5 fun e w' => e = .returned (.string zs) ∧ Below w5.heap.size w5 w' := by
          have h := Tryz.strings_Repeat ⟨#[48]⟩ c w5 (by omega) (by show 1 * c ≤ _; omega)
          rw [show (⟨#[48]⟩ : ByteArray).data.toList = [48] from rfl, repeat0, ← hzs] at h
          exact h
        have RP := hide rp
        have HZ0 := hide hzs
        have hz0 : zs.size = c := by rw [hzs]; show (List.replicate c (48 : UInt8)).length = c; simp
        clear rp hzs
        go_wp2_with fail
        refine RP.out.mono ?_
        rintro e w6 ⟨rfl, hb6⟩
        have hbu6 := bld_below hbu5 hb6
        have hbr6 := hbr5.trans (hb6.mono hsz5)
        have hsz6 := hbr6.size
        clear hb6 hbu5 hbr5 hsz5
        go_wp2_with fail
        refine (writeString_any w1.heap.size w1.heap.size _ zs _ (.inr hbu6) (by rw [Lib.byteCells_length]; omega) hsz6).mono ?_
        rintro e w7 ⟨rfl, hbu7, hb7⟩
        have hbr7 := hbr6.trans hb7
        have hsz7 := hbr7.size
        clear hb7 hbu6 hbr6 hsz6
        go_wp2_with fail
        refine (writeString_any w1.heap.size w1.heap.size _ dz _ (.inr hbu7) (by rw [List.length_append, Lib.byteCells_length, Lib.strCells_length, HZS.out]; omega) hsz7).mono ?_
        rintro e w8 ⟨rfl, hbu8, hb8⟩
        have hbr8 := hbr7.trans hb8
        rw [HZ0.out, HDZ.out, Lib.strCells_toArray, Lib.strCells_toArray, List.append_assoc, ← Lib.byteCells_append, ← Lib.byteCells_append, ← HCT.out] at hbu8
        have HB8 := hide hbu8
        have HBR8 := hide hbr8
        clear hb8 hbu7 hbr7 hsz7 hbu8 hbr8
        go_wp2
        go_roundw
        case rel => exact ⟨k, by omega, by go_num, HBR8.out, HB8.out⟩
        case measure => simp [intOf]

end Go.Proofs.YtafljhfamjabeaaGreatDoor

namespace Go.Proofs.YtafljhfamjabeaaGreatDoor
open Go.RowKit

/-- v is a list of limbs without noughts on top, the number n. -/
def Nt (w : World) (v : Value) (n : Nat) : Prop := ∃ o c xs, v = .slice o (List.length xs) c ∧ xs.length ≤ c ∧ c ≤ 1000000 ∧ At .u64 w o xs ∧ Is B64 xs n

/-- A number that is not too great. -/
def Sm (n : Nat) : Prop := n < B64 ^ 10000

theorem ten8000 : powT 10 8000 < B64 ^ 10000 := by decide +kernel
theorem Sm.of {n k : Nat} (h : n < 10 ^ k) (hk : k ≤ 8000) : Sm n :=
  Nat.lt_trans (Nat.lt_of_lt_of_le h (powT_ge (by omega) hk)) ten8000

theorem Nt.below {w w' : World} {v : Value} {n : Nat} (h : Nt w v n) (hb : Below w.heap.size w w') : Nt w' v n := by
  obtain ⟨o, c, xs, h1, h2, h3, h4, h5⟩ := h
  exact ⟨o, c, xs, h1, h2, h3, h4.below hb, h5⟩

theorem Nt.of {w : World} {v : Value} {n base m : Nat} {r : List Nat} (h : Own .u64 78 w base m v r) (his : Is B64 r n) (hm : m ≤ 1000000) : Nt w v n := by
  obtain ⟨o, c, rfl, h1, h2, h3⟩ := h.shape
  exact ⟨o, c, r, rfl, h1, by omega, h3, his⟩

/-- v lies from block 'base' on, if it lies anywhere. -/
def Far (base : Nat) (v : Value) : Prop := ∀ o l c, v = .slice o l c → ∀ a, o = some a → base ≤ a.block

theorem Far.of {w : World} {v : Value} {base m : Nat} {r : List Nat} (h : Own .u64 78 w base m v r) : Far base v := by
  intro o l c hv a ha
  rcases h with ⟨rfl, _⟩ | ⟨g, full, rfl, h2, _⟩
  · cases hv; cases ha
  · cases hv; cases ha; exact h2

theorem Far.mono {i j : Nat} {v : Value} (h : Far j v) (hij : i ≤ j) : Far i v := fun o l c hv a ha => Nat.le_trans hij (h o l c hv a ha)

theorem Nt.put {w : World} {v : Value} {n base : Nat} (h : Nt w v n) (hf : Far base v) {a : Addr} (ha : a.block < base) (u : Value) : Nt (w.setCell a u) v n := by
  obtain ⟨o, c, xs, rfl, h2, h3, h4, h5⟩ := h
  refine ⟨o, c, xs, rfl, h2, h3, ?_, h5⟩
  rcases h4 with h4 | ⟨b, f, rfl, hb, hc⟩
  · exact .inl h4
  · have := hf _ _ _ rfl _ rfl
    have hne : a.block ≠ b := by simp at this; omega
    refine .inr ⟨b, f, rfl, by simpa using hb, fun i hi => ?_⟩
    rw [World.cell?_of_block (w := w) (w' := w.setCell a u) (by simp only [World.setCell]; rw [Array.getElem?_modify, if_neg hne])]
    exact hc i hi

theorem is_len {xs : List Nat} {n : Nat} (h : Is B64 xs n) (hs : Sm n) : xs.length ≤ 10000 := by
  have h3 := trimmed_small (xs := xs) (t := 10000) (by rw [h.2.2]; exact hs)
  rw [trimmed_of_top h.2.1] at h3
  exact h3

/-- A number is answered. -/
def NtPost (w : World) (n : Nat) (e : Ending) (w' : World) : Prop := ∃ v, e = .returned v ∧ Nt w' v n ∧ Below w.heap.size w w' ∧ Far w.heap.size v

theorem nt_mul (a b : Value) (x y : Nat) (w : World) (ha : Nt w a x) (hb : Nt w b y) (hx : Sm x) (hy : Sm y) : Calls Tryz.prog 76 #[a, b] w (NtPost w (x * y)) := by
  obtain ⟨o, c, xs, rfl, h1, h2, h3, h4⟩ := ha
  obtain ⟨o', c', ys, rfl, h1', h2', h3', h4'⟩ := hb
  have l1 := is_len h4 hx
  have l2 := is_len h4' hy
  refine (mul_any o o' _ c _ c' xs ys w h1 (by omega) h1' (by omega) rfl rfl h3 h3' h4.1 h4'.1).mono ?_
  rintro e w' ⟨v, r, rfl, g1, g2, g3⟩
  rw [h4.2.2, h4'.2.2] at g2
  exact ⟨v, rfl, Nt.of g1 g2 (by omega), g3, Far.of g1⟩

theorem nt_text (a : Value) (x : Nat) (w : World) (ha : Nt w a x) (htab : Tab w) : Calls Tryz.prog 73 #[a] w fun e w' => e = .returned (.string ⟨(Lib.decDigits x).toArray⟩) ∧ Below w.heap.size w w' := by
  obtain ⟨o, c, xs, rfl, h1, h2, h3, h4⟩ := ha
  have h := text_any o _ c xs w h1 (by omega) rfl h3 h4.1 htab
  rw [h4.2.2] at h
  exact h

end Go.Proofs.YtafljhfamjabeaaGreatDoor

namespace Go.Proofs.YtafljhfamjabeaaGreatDoor
open Go.RowKit

set_option maxHeartbeats 400000 in
theorem parse_long (s : ByteArray) (w : World) (h : 8192 < (s.size : Int)) :
    Calls Tryz.prog 95 #[.string s] w (ShPost w 0 0 21) := by
  go_enter Tryz.func95, Tryz.ntmps95
  go_wp2
  go_ret2
  exact ⟨_, [], rfl, .inl ⟨rfl, rfl⟩, Is.none (by decide), Below.refl _ _⟩

set_option maxHeartbeats 400000 in
theorem parse_text (s : ByteArray) (w : World) (h : s.size ≤ 8192) (hn : ¬ OkT (bys s)) :
    Calls Tryz.prog 95 #[.string s] w (ShPost w 0 0 20) := by
  have h' : ¬ 8192 < (s.size : Int) := by omega
  have ad := fun w => areDigits_any s w (by omega) false ⟨(fun h => by cases h), (fun h => absurd h hn)⟩
  go_enter Tryz.func95, Tryz.ntmps95
  go_wp2_with fail
  refine (ad _).mono ?_
  rintro e w' ⟨rfl, rfl⟩
  go_wp2
  go_ret2
  exact ⟨_, [], rfl, .inl ⟨rfl, rfl⟩, Is.none (by decide), Below.refl _ _⟩

theorem num_few {r : List Nat} {n : Nat} (h : Is B64 r n) (hn : n < B64 ^ 500) : r.length ≤ 500 := by
  have h3 := trimmed_small (xs := r) (t := 500) (by rw [h.2.2]; exact hn)
  rw [trimmed_of_top h.2.1] at h3
  exact h3

theorem pow_few : (10 : Nat) ^ 8192 < B64 ^ 500 := by decide +kernel

theorem bys_to (t : ByteArray) (i : Nat) : bys (t.extract 0 i) = (bys t).take i := by
  unfold bys
  rw [ByteArray.data_extract]
  simp
theorem bys_from (t : ByteArray) (i n : Nat) (hn : t.size ≤ n) : bys (t.extract i n) = (bys t).drop i := by
  unfold bys
  rw [ByteArray.data_extract]
  have hl : t.data.toList.length ≤ n := by simpa using hn
  simp only [Array.toList_extract, List.extract_eq_take_drop]
  exact List.take_of_length_le (by rw [List.length_drop]; omega)

theorem decV_chunk {L : List UInt8} {j q : Nat} (hj : j + (q + 1) ≤ L.length) (hp : j = 0 ∨ q = 18) : decV (L.take j) * U19 + decV ((L.drop j).take (q + 1)) = decV (L.take (j + (q + 1))) := by
  have e : L.take (j + (q + 1)) = L.take j ++ (L.drop j).take (q + 1) := by rw [List.take_add]
  rw [e, decV_append]
  have hl : ((L.drop j).take (q + 1)).length = q + 1 := by rw [List.length_take, List.length_drop]; omega
  rw [hl]
  rcases hp with rfl | rfl
  · simp [decV]
  · rfl

/-- Behind the product; behind the chunk; behind the sum. -/
def P2 (wr w' : World) (n : Nat) (v : Value) (r : List Nat) : Prop := Below wr.heap.size wr w' ∧ Own .u64 78 w' wr.heap.size 2000 v r ∧ Is B64 r n

/-- At the head of Parse's loop, behind j bytes. -/
structure ParseInv (w : World) (L : List UInt8) (uo : Option Addr) (us : List Nat) (j : Nat) (t : ByteArray) (v : Value) (wr : World) : Prop where
  bel : Below w.heap.size w wr
  le : j ≤ L.length
  str : bys t = L.drop j
  part : j = 0 ∨ (L.length - j) % 19 = 0
  unit : At .u64 wr uo us
  num : ∃ r, Own .u64 78 wr w.heap.size 2000 v r ∧ Is B64 r (decV (L.take j))

set_option maxRecDepth 100000 in
set_option maxHeartbeats 1000000 in
theorem parse_ok (s : ByteArray) (w : World) (h : s.size ≤ 8192) (hn : OkT (bys s)) :
    Calls Tryz.prog 95 #[.string s] w (ShPost w 2000 (decV (bys s)) 0) := by
  have h' : ¬ 8192 < (s.size : Int) := by omega
  have ad := fun w => areDigits_any s w (by omega) true ⟨fun _ => hn, fun _ => rfl⟩
  obtain ⟨L, hL⟩ : ∃ L, L = bys s := ⟨_, rfl⟩
  have HD : Hid (DigB L) := by rw [hL]; exact hn.2.2
  have HLL : Hid (L.length ≤ 8192) := by rw [hL, bys_len]; exact h
  rw [← hL]
  have AD := hide ad
  have HL := hide hL
  clear ad hL hn
  go_enter Tryz.func95, Tryz.ntmps95
  go_wp2_with fail
  refine (AD.out _).mono ?_
  rintro e w0 ⟨rfl, hw0⟩
  replace hw0 := hw0.symm
  subst hw0
  go_wp2_with fail
  refine (of_any U19 _ u19_lt).mono ?_
  rintro e w1 ⟨v, us, rfl, hou, isu, hb1⟩
  obtain ⟨uo, uc, rfl, hlu, hmu, atu⟩ := hou.shape
  have hst : ParseInv w L uo us 0 s (.slice none 0 0) w1 := ⟨hb1, Nat.zero_le _, by rw [HL.out]; rfl, .inl rfl, atu, [], .inl ⟨rfl, rfl⟩, Is.none (by decide)⟩
  have HST := hide hst
  have HU := hide isu
  have lu : us.length ≤ 1 := by omega
  clear hst hou atu isu hb1
  go_wp2
  go_loopw [0, 5, 6] (fun sv v _ wr => ∃ (j : Nat) (t : ByteArray), sv = .string t ∧ ParseInv w L uo us j t v wr) (fun sv _ _ _ => match sv with | .string t => t.size | _ => 0)
  case atStart => exact ⟨0, s, rfl, HST.out⟩
  case round =>
    clear HST
    obtain ⟨j, t, rfl, hinv⟩ := hrel
    obtain ⟨hbr, hjl, hstr, hpart, hut, r, hown, his⟩ := hinv
    have htl : t.size = L.length - j := by rw [← bys_len, hstr, List.length_drop]
    by_cases hend : j = L.length
    · have hz : bys t = [] := by rw [hstr, hend]; simp
      have he : t.toList.isEmpty = true := by rw [sl, hz]; rfl
      have hq : t.toList = [] := by rw [sl, hz]
      rw [hend, List.take_length] at his
      obtain ⟨o, c, rfl, hl, hm, hat⟩ := hown.shape
      clear hut hstr hpart
      go_wp2
      go_ret2
      exact ⟨_, r, rfl, hown, his, hbr⟩
    · obtain ⟨m1, hm1⟩ : ∃ m1, L.length - j = m1 + 1 := ⟨L.length - j - 1, by omega⟩
      have hne : bys t ≠ [] := fun h => by rw [h] at hstr; have := congrArg List.length hstr; simp at this; omega
      have he : t.toList.isEmpty = false := by rw [sl]; simp [hne]
      have hq : ¬ t.toList = [] := by rw [sl]; exact hne
      have hts : t.size = m1 + 1 := by omega
      obtain ⟨q, hqq⟩ : ∃ q, q = m1 % 19 := ⟨_, rfl⟩
      have e1 : (m1 : Int) % 19 = (q : Int) := by omega
      have e2 : ((t.size : Nat) : Int) - 1 = (m1 : Int) := by omega
      obtain ⟨z, hz⟩ : ∃ z, z = q + 1 := ⟨_, rfl⟩
      have e3 : (q : Int) + 1 = (z : Int) := by omega
      have e4 : (z : Int) ≤ ((t.size : Nat) : Int) := by omega
      have e5 : (0 : Int) ≤ (z : Int) := by omega
      have hsl : ∀ W, (Instr.slice 9 (.string t) none (some (.int .i64 (z : Int))) none).run Tryz.prog W = .ok (.string (t.extract 0 z)) W := fun W => by
        have h := run_slice_string_h (P := Tryz.prog) W 9 t Tryz.underlying9 .i64 (z : Int) e5 e4
        rwa [Int.toNat_natCast] at h
      have hsr : ∀ W, (Instr.slice 9 (.string t) (some (.int .i64 (z : Int))) none none).run Tryz.prog W = .ok (.string (t.extract z t.size)) W := fun W => by
        have h := run_slice_string_l (P := Tryz.prog) W 9 t Tryz.underlying9 .i64 (z : Int) e5 e4
        rwa [Int.toNat_natCast] at h
      have hm8 : m1 ≤ 8192 := by have := HLL.out; omega
      have hz19 : z ≤ 19 := by omega
      have w4 : Int.tmod (m1 : Int) 19 = (q : Int) := by rw [Int.tmod_eq_emod_of_nonneg (by omega)]; exact e1
      obtain ⟨o, c, rfl, hl, hm, hat⟩ := hown.shape
      have hq18 : q ≤ 18 := by omega
      have hqm : q ≤ m1 := by omega
      have hrl := num_few his (Nat.lt_trans (Nat.lt_of_lt_of_le (decV_lt j _ (by rw [List.length_take]; omega) (HD.out.take j)) (Nat.pow_le_pow_right (by omega) (Nat.le_trans hjl HLL.out))) pow_few)
      have hjq : j + (q + 1) ≤ L.length := by omega
      have hpq : j = 0 ∨ q = 18 := by
        rcases hpart with h | h
        · exact .inl h
        · right; omega
      have hval := decV_chunk hjq hpq
      have hdt : DigB (bys (t.extract 0 (q + 1))) := by rw [bys_to, hstr]; exact (HD.out.drop j).take _
      have hct : decV (bys (t.extract 0 (q + 1))) = decV ((L.drop j).take (q + 1)) := by rw [bys_to, hstr]
      have hcl : decV ((L.drop j).take (q + 1)) < B64 := by
        have h1 := decV_lt (q + 1) ((L.drop j).take (q + 1)) (by rw [List.length_take, List.length_drop]; omega) ((HD.out.drop j).take _)
        have h2 : (10 : Nat) ^ (q + 1) ≤ 10 ^ 19 := Nat.pow_le_pow_right (by omega) (by omega)
        have h3 : (10 : Nat) ^ 19 < B64 := by decide +kernel
        omega
      have hts1 : (t.extract 0 (q + 1)).size ≤ 19 := by rw [← bys_len, bys_to, List.length_take]; omega
      have hnum : decV (L.take (j + (q + 1))) < B64 ^ 500 := Nat.lt_trans (Nat.lt_of_lt_of_le (decV_lt (j + (q + 1)) _ (by rw [List.length_take]; omega) (HD.out.take _)) (Nat.pow_le_pow_right (by omega) (Nat.le_trans hjq HLL.out))) pow_few
      have ch := fun w => chunkOf_any (t.extract 0 (q + 1)) w hts1 hdt
      rw [hct] at ch
      obtain ⟨x, hx⟩ : ∃ x, x = decV ((L.drop j).take (q + 1)) := ⟨_, rfl⟩
      rw [← hx] at ch hval hcl
      rw [← hz] at ch
      have CH : Hid (∀ w, Calls Tryz.prog 127 #[.string (t.extract 0 z)] w fun e w' => e = .returned (.int .u64 (x : Int)) ∧ w' = w) := ch
      have MU : Hid (∀ w', Like w' wr → Calls Tryz.prog 76 #[.slice o (List.length r) c, .slice uo (List.length us) uc] w' fun e w2 => ∃ o2 c2 r2, e = .returned (.slice o2 (List.length r2) c2) ∧ Hid (P2 wr w2 (decV (L.take j) * U19) (.slice o2 (List.length r2) c2) r2)) := by
        intro w' hw
        refine (mul_any o uo _ c _ uc r us _ hl (by omega) hlu (by omega) rfl rfl (hat.like hw) (hut.like hw) his.1 HU.out.1).mono ?_
        rintro e w2 ⟨v, r2, rfl, ho, hi, hb⟩
        obtain ⟨o2, c2, rfl, _, _, _⟩ := ho.shape
        rw [his.2.2, HU.out.2.2] at hi
        rw [hw.1] at ho hb
        exact ⟨o2, c2, r2, rfl, (Like.bel hw _).trans hb, ho.mono (Nat.le_refl _) (by omega), hi⟩
      have OF : Hid (∀ w2 w3 n v r2, Hid (P2 wr w2 n v r2) → Like w3 w2 → Calls Tryz.prog 126 #[.int .u64 (x : Int)] w3 fun e w4 => ∃ o4 c4 r4, e = .returned (.slice o4 (List.length r4) c4) ∧ Hid (P2 wr w4 n v r2) ∧ Hid (P2 wr w4 x (.slice o4 (List.length r4) c4) r4 ∧ c4 ≤ 1)) := by
        intro w2 w3 n v r2 hp hw
        obtain ⟨h1, h2, h3⟩ := hp.out
        refine (of_any x _ hcl).mono ?_
        rintro e w4 ⟨v4, r4, rfl, ho, hi, hb⟩
        obtain ⟨o4, c4, rfl, _, hm4, _⟩ := ho.shape
        rw [hw.1] at ho hb
        have hb2 : Below w2.heap.size w2 w4 := (Like.bel hw _).trans hb
        have hbr4 := h1.trans (hb2.mono h1.size)
        exact ⟨o4, c4, r4, rfl, ⟨hbr4, h2.below hb2, h3⟩, ⟨hbr4, ho.mono h1.size (by omega), hi⟩, hm4⟩
      have AD2 : Hid (∀ w2 w3 o2 c2 r2 o4 c4 r4, Hid (P2 wr w2 (decV (L.take j) * U19) (.slice o2 (List.length r2) c2) r2) → Hid (P2 wr w2 x (.slice o4 (List.length r4) c4) r4 ∧ c4 ≤ 1) → Like w3 w2 → Calls Tryz.prog 123 #[.slice o2 (List.length r2) c2, .slice o4 (List.length r4) c4] w3 fun e w5 => ∃ o5 c5 r5, e = .returned (.slice o5 (List.length r5) c5) ∧ Hid (P2 wr w5 (decV (L.take (j + (q + 1)))) (.slice o5 (List.length r5) c5) r5)) := by
        intro w2 w3 o2 c2 r2 o4 c4 r4 hp hp4 hw
        obtain ⟨h1, h2, h3⟩ := hp.out
        obtain ⟨⟨_, k2, k3⟩, k4⟩ := hp4.out
        obtain ⟨_, _, e2, l2, m2, a2⟩ := h2.shape
        obtain ⟨_, _, e4, l4, m4, a4⟩ := k2.shape
        simp only [Value.slice.injEq] at e2 e4
        obtain ⟨rfl, _, rfl⟩ := e2
        obtain ⟨rfl, _, rfl⟩ := e4
        refine (add_any _ _ _ _ _ _ r2 r4 _ l2 (by omega) l4 (by omega) rfl rfl (a2.like hw) (a4.like hw) h3.1 k3.1).mono ?_
        rintro e w5 ⟨v, r5, rfl, ho, hi, hb⟩
        obtain ⟨o5, c5, rfl, _, _, _⟩ := ho.shape
        rw [h3.2.2, k3.2.2, hval] at hi
        rw [hw.1] at ho hb
        have hb2 : Below w2.heap.size w2 w5 := (Like.bel hw _).trans hb
        have r2l := num_few h3 (by rw [← hval] at hnum; omega)
        exact ⟨o5, c5, r5, rfl, h1.trans (hb2.mono h1.size), ho.mono h1.size (by omega), hi⟩
      rw [← hz] at AD2
      have HSTR := hide hstr
      have HZ := hide hz
      have HPT : Hid (j + z = 0 ∨ (L.length - (j + z)) % 19 = 0) := by right; omega
      have HUT := hide hut
      have HBR := hide hbr
      clear hval hdt hct hcl hts1 hnum ch hx hstr hut hbr hown his hat hpart hpq hz hqq hts htl hm1
      go_wp2
      go_region_held3 (fun _ => True) (go_keep) (first | (go_at_call 76; refine (MU.out _ (by exact ⟨rfl, rfl, rfl, rfl⟩)).mono ?_; rintro e w2 ⟨o2, c2, r2, rfl, hp2⟩) | (go_at_call 127; refine (CH.out _).mono ?_; rintro e w3 ⟨rfl, rfl⟩) | (go_at_call 126; refine (OF.out _ _ _ _ _ hp2 (by exact ⟨rfl, rfl, rfl, rfl⟩)).mono ?_; rintro e w4 ⟨o4, c4, r4, rfl, hp3, hp4⟩) | (go_at_call 123; refine (AD2.out _ _ _ _ _ _ _ _ hp3 hp4 (by exact ⟨rfl, rfl, rfl, rfl⟩)).mono ?_; rintro e w5 ⟨o5, c5, r5, rfl, hp5⟩))
      have hnx : ParseInv w L uo us (j + z) (t.extract z t.size) (.slice o5 (List.length r5) c5) w5 := by
        obtain ⟨h1, h2, h3⟩ := hp5.out
        have hzz := HZ.out
        refine ⟨HBR.out.trans (h1.mono HBR.out.size), by omega, ?_, HPT.out, HUT.out.below h1, r5, h2.mono HBR.out.size (Nat.le_refl _), h3⟩
        rw [bys_from t z _ (Nat.le_refl _), HSTR.out, List.drop_drop]
      have HNX := hide hnx
      have hdec : (t.extract z t.size).size < t.size := by
        have h1 := bys_len (t.extract z t.size)
        rw [bys_from t z _ (Nat.le_refl _), List.length_drop, bys_len] at h1
        have := HZ.out
        omega
      clear hnx hp2 hp3 hp4 hp5
      go_wp2
      exact ⟨⟨j + z, _, rfl, HNX.out⟩, hdec⟩

/-- The number of a text's digits, or the error that the document names. -/
theorem parse_any (s : ByteArray) (w : World) (z : Nat) (err : Int) (hz : (8192 < s.size ∧ z = 0 ∧ err = 21) ∨ (s.size ≤ 8192 ∧ ¬ OkT (bys s) ∧ z = 0 ∧ err = 20) ∨ (s.size ≤ 8192 ∧ OkT (bys s) ∧ z = decV (bys s) ∧ err = 0)) :
    Calls Tryz.prog 95 #[.string s] w (ShPost w 2000 z err) := by
  have wide : ∀ {n : Nat} {r : Int} e w', ShPost w 0 n r e w' → ShPost w 2000 n r e w' := by
    rintro n r e w' ⟨v, rs, h1, h2, h3, h4⟩
    exact ⟨v, rs, h1, h2.mono (Nat.le_refl _) (by omega), h3, h4⟩
  rcases hz with ⟨h, rfl, rfl⟩ | ⟨h, hn, rfl, rfl⟩ | ⟨h, hn, rfl, rfl⟩
  · exact (parse_long s w (by omega)).mono wide
  · exact (parse_text s w h hn).mono wide
  · exact parse_ok s w h hn

end Go.Proofs.YtafljhfamjabeaaGreatDoor

namespace Go.Proofs.YtafljhfamjabeaaGreatDoor
open Go.RowKit

/-- v is a whole number with a sign, in its one form, the number z. -/
def Zt (w : World) (v : Value) (z : Int) : Prop := ∃ o c xs, v = .agg #[.bool (decide (z < 0)), .slice o (List.length xs) c] ∧ xs.length ≤ c ∧ c ≤ 1000000 ∧ At .u64 w o xs ∧ Is B64 xs z.natAbs

theorem Zt.below {w w' : World} {v : Value} {z : Int} (h : Zt w v z) (hb : Below w.heap.size w w') : Zt w' v z := by
  obtain ⟨o, c, xs, h1, h2, h3, h4, h5⟩ := h
  exact ⟨o, c, xs, h1, h2, h3, h4.below hb, h5⟩

theorem Zt.nt {w : World} {s : Bool} {o : Option Addr} {l c : Nat} {z : Int} (h : Zt w (.agg #[.bool s, .slice o l c]) z) : s = decide (z < 0) ∧ Nt w (.slice o l c) z.natAbs := by
  obtain ⟨o', c', xs, h1, h2, h3, h4, h5⟩ := h
  simp only [Value.agg.injEq] at h1
  have e1 := congrArg (fun a : Array Value => a[0]?) h1
  have e2 := congrArg (fun a : Array Value => a[1]?) h1
  simp at e1 e2
  obtain ⟨e2, e3, e4⟩ := e2
  subst e1 e2 e3 e4
  exact ⟨rfl, o, c, xs, rfl, h2, h3, h4, h5⟩

/-- A whole number with a sign is answered. -/
def ZtPost (w : World) (z : Int) (e : Ending) (w' : World) : Prop := ∃ s o l c, e = .returned (.agg #[.bool s, .slice o l c]) ∧ Hid (Zt w' (.agg #[.bool s, .slice o l c]) z) ∧ Below w.heap.size w w' ∧ Hid (Far w.heap.size (.slice o l c))

theorem wpost_zt {w : World} {m : Nat} {z : Int} (hm : m ≤ 1000000) {e : Ending} {w' : World} (h : WPost w m z e w') : ZtPost w z e w' := by
  obtain ⟨s, v, r, hs, rfl, hown, his, hb⟩ := h
  obtain ⟨o, c, rfl, h1, h2, h3⟩ := hown.shape
  refine ⟨s, o, r.length, c, rfl, ⟨o, c, r, ?_, h1, by omega, h3, his⟩, hb, Far.of hown⟩
  rw [hs.out]

theorem Zt.put {w : World} {s : Bool} {o : Option Addr} {l c : Nat} {z : Int} {base : Nat} (h : Zt w (.agg #[.bool s, .slice o l c]) z) (hf : Far base (.slice o l c)) {a : Addr} (ha : a.block < base) (u : Value) : Zt (w.setCell a u) (.agg #[.bool s, .slice o l c]) z := by
  obtain ⟨rfl, g⟩ := h.nt
  obtain ⟨o', c', xs, e, h2, h3, h4, h5⟩ := g.put hf ha u
  cases e
  exact ⟨_, _, xs, rfl, h2, h3, h4, h5⟩

theorem zt_make (neg : Bool) (a : Value) (n : Nat) (w : World) (ha : Nt w a n) (hn : Sm n) : Calls Tryz.prog 97 #[.bool neg, a] w (ZtPost w (zv neg n)) := by
  obtain ⟨o, c, xs, rfl, h1, h2, h3, h4⟩ := ha
  have l1 := is_len h4 hn
  have g := make_any neg o _ c xs w h1 (by omega) rfl h3 h4.1
  rw [h4.2.2] at g
  exact g.mono fun e w' h => wpost_zt (by omega) h

theorem zt_add (a b : Value) (x y : Int) (w : World) (ha : Zt w a x) (hb : Zt w b y) (hx : Sm x.natAbs) (hy : Sm y.natAbs) : Calls Tryz.prog 71 #[a, b] w (ZtPost w (x + y)) := by
  obtain ⟨o, c, xs, rfl, h1, h2, h3, h4⟩ := ha
  obtain ⟨o', c', ys, rfl, h1', h2', h3', h4'⟩ := hb
  have l1 := is_len h4 hx
  have l2 := is_len h4' hy
  have nx : NV (decide (x < 0)) xs x := ⟨h4.1, by rw [h4.2.2]; unfold zv; by_cases h : x < 0 <;> simp [h] <;> omega⟩
  have ny : NV (decide (y < 0)) ys y := ⟨h4'.1, by rw [h4'.2.2]; unfold zv; by_cases h : y < 0 <;> simp [h] <;> omega⟩
  exact (addz _ _ o o' _ c _ c' xs ys w h1 h1' rfl rfl h3 h3' x y nx ny (by omega) (by omega)).mono fun e w' h => wpost_zt (by omega) h

theorem ztparse (s : ByteArray) (n : Nat) (w : World) (hs : s.size ≤ 8192) (hok : OkT (bys s)) (hn : decV (bys s) = n) : Calls Tryz.prog 95 #[.string s] w fun e w' => ∃ o l c, e = .returned (.tuple #[.slice o l c, .int .i64 0]) ∧ Hid (Nt w' (.slice o l c) n) ∧ Below w.heap.size w w' := by
  refine (parse_any s w (decV (bys s)) 0 (.inr (.inr ⟨hs, hok, rfl, rfl⟩))).mono ?_
  rintro e w' ⟨v, r, rfl, g1, g2, g3⟩
  have g4 := Nt.of g1 g2 (by omega)
  obtain ⟨o, c, xs, rfl, g5⟩ := g4
  rw [hn] at g5
  exact ⟨o, xs.length, c, rfl, ⟨o, c, xs, rfl, g5⟩, g3⟩

theorem repeat_any (c : Nat) (w : World) (hc : c ≤ 100000) : Calls Tryz.prog 96 #[.string ⟨#[48]⟩, .int .i64 (c : Int)] w fun e w' => e = .returned (.string ⟨(List.replicate c (48 : UInt8)).toArray⟩) ∧ Below w.heap.size w w' := by
  have h := Tryz.strings_Repeat ⟨#[48]⟩ c w (by omega) (by show 1 * c ≤ _; omega)
  rw [show (⟨#[48]⟩ : ByteArray).data.toList = [48] from rfl, repeat0] at h
  exact h

theorem digB_rep (c : Nat) : DigB (List.replicate c (48 : UInt8)) := by
  intro k hk
  rw [List.length_replicate] at hk
  unfold byt
  rw [List.getElem?_replicate, if_pos hk]
  decide

theorem decV_rep : ∀ c : Nat, decV (List.replicate c (48 : UInt8)) = 0
  | 0 => rfl
  | c + 1 => by rw [List.replicate_succ, decV_cons, decV_rep c]; simp

theorem okT_rep {l : List UInt8} (h : OkT l) (h0 : byt l 0 ≠ 48) (c : Nat) : OkT (l ++ List.replicate c 48) ∧ decV (l ++ List.replicate c 48) = decV l * 10 ^ c := by
  refine ⟨h.append (fun e => h0 (by rw [e]; rfl)) (digB_rep c), ?_⟩
  rw [decV_append, decV_rep, List.length_replicate, Nat.add_zero]

set_option maxHeartbeats 1000000 in
theorem counted_nil (na : Bool) (ea x : Int) (w : World) : Calls Tryz.prog 72 #[dcV 0 na ⟨#[]⟩ ea, .int .i64 x] w (ZtPost w 0) := by
  have Ba0 := hide ((Blk.newAt w (w.heap.size) (rfl) #[.int .i64 0, .bool na, .string ⟨#[]⟩, .int .i64 ea] 23).alloc (.cells #[.bool false, .slice none 0 0] 89))
  have Br0 := hide (Blk.newAt (w.alloc (.cells #[.int .i64 0, .bool na, .string ⟨#[]⟩, .int .i64 ea] 23)) (w.heap.size + 1) (by simp) #[.bool false, .slice none 0 0] 89)
  have HB0 : Hid (Below w.heap.size w ((w.alloc (.cells #[.int .i64 0, .bool na, .string ⟨#[]⟩, .int .i64 ea] 23)).alloc (.cells #[.bool false, .slice none 0 0] 89))) := (((Below.refl _ _).alloc (Nat.le_refl _) _).alloc (by simp <;> omega) _)
  go_enter Tryz.func72, Tryz.ntmps72
  go_wp2
  refine bodyPost_ret (results_pair rfl _ _ _ _ _ rfl (show Pair _ _ _ _ _ from Br0.out)) rfl ?_
  exact ⟨false, none, 0, 0, rfl, ⟨none, 0, [], rfl, by simp, by omega, At.nil _ _ _, Is.none (by decide)⟩, HB0.out, fun o l c h a e => by cases h; cases e⟩

set_option maxRecDepth 100000 in
set_option maxHeartbeats 2000000 in
theorem counted_fin (na : Bool) (ta : ByteArray) (ea x : Int) (k : Nat) (w : World) (h0 : ta.size ≠ 0) (b1 : ta.size ≤ 1000) (hok : OkT (bys ta)) (h48 : byt (bys ta) 0 ≠ 48) (hk : ea - x = (k : Int)) (hk2 : k ≤ 7000) (hsm : Sm (decV (bys ta) * 10 ^ k)) : Calls Tryz.prog 72 #[dcV 0 na ta ea, .int .i64 x] w (ZtPost w (zv na (decV (bys ta) * 10 ^ k))) := by
  have h2 := toList_ne h0
  have RP := hide (fun W => repeat_any k W (by omega))
  rw [← hk] at RP
  obtain ⟨Z, hZ⟩ : ∃ Z : ByteArray, Z = ⟨(List.replicate k (48 : UInt8)).toArray⟩ := ⟨_, rfl⟩
  rw [← hZ] at RP
  have hZs : Z.size = k := by rw [hZ, size_mk0, List.length_replicate]
  have hZb : bys (ta ++ Z) = bys ta ++ List.replicate k 48 := by rw [bys_append, hZ, bys_mk (List.replicate k 48)]
  obtain ⟨q1, q2⟩ := okT_rep hok h48 k
  rw [← hZb] at q1 q2
  obtain ⟨n, hn⟩ : ∃ n, n = decV (bys ta) * 10 ^ k := ⟨_, rfl⟩
  rw [← hn] at q2 hsm ⊢
  have PS := hide (fun W => ztparse (ta ++ Z) n W (by rw [ByteArray.size_append, hZs]; omega) q1 q2)
  have s1 : ¬ 9223372036854775807 < ta.size + Z.size := by omega
  have HSM := hide hsm
  have hw : IntKind.i64.wrap (ea - x) = ea - x := by rw [IntKind.wrap_i64]; omega
  clear h0 hk hZ hZs hZb q1 q2 hn hsm hok h48 b1 hk2
  have Ba0 := hide ((Blk.newAt w (w.heap.size) (rfl) #[.int .i64 0, .bool na, .string ta, .int .i64 ea] 23).alloc (.cells #[.bool false, .slice none 0 0] 89))
  have Br0 := hide (Blk.newAt (w.alloc (.cells #[.int .i64 0, .bool na, .string ta, .int .i64 ea] 23)) (w.heap.size + 1) (by simp) #[.bool false, .slice none 0 0] 89)
  have HB0 : Hid (Below w.heap.size w ((w.alloc (.cells #[.int .i64 0, .bool na, .string ta, .int .i64 ea] 23)).alloc (.cells #[.bool false, .slice none 0 0] 89))) := (((Below.refl _ _).alloc (Nat.le_refl _) _).alloc (by simp <;> omega) _)
  obtain ⟨W, hW⟩ : ∃ W, W = ((w.alloc (.cells #[.int .i64 0, .bool na, .string ta, .int .i64 ea] 23)).alloc (.cells #[.bool false, .slice none 0 0] 89)) := ⟨_, rfl⟩
  rw [← hW] at HB0 Ba0 Br0 
  have HW := hide hW
  clear hW
  have ya0 : W.cell? ⟨w.heap.size, 0, none⟩ = some (.int .i64 0) := Ba0.out.cell 0
  have ya1 : W.cell? ⟨w.heap.size, 1, none⟩ = some (.bool na) := Ba0.out.cell 1
  have ya2 : W.cell? ⟨w.heap.size, 2, none⟩ = some (.string ta) := Ba0.out.cell 2
  have ya3 : W.cell? ⟨w.heap.size, 3, none⟩ = some (.int .i64 ea) := Ba0.out.cell 3
  have yr0 : W.cell? ⟨w.heap.size + 1, 0, none⟩ = some (.bool false) := Br0.out.cell 0
  have yr1 : W.cell? ⟨w.heap.size + 1, 1, none⟩ = some (.slice none 0 0) := Br0.out.cell 1
  go_enter Tryz.func72, Tryz.ntmps72
  have b0 : Hid (Below W.heap.size W W.drew) := bdrewD W
  have C0 : Hid (∀ X, Hid (Below W.heap.size W X) → Calls Tryz.prog 96 #[.string ⟨#[48]⟩, .int .i64 (ea - x)] X fun e w' => e = .returned (.string Z) ∧ Hid (Below W.heap.size W w') ∧ w'.cell? ⟨w.heap.size, 0, none⟩ = some (.int .i64 0) ∧ w'.cell? ⟨w.heap.size, 1, none⟩ = some (.bool na) ∧ w'.cell? ⟨w.heap.size, 2, none⟩ = some (.string ta) ∧ w'.cell? ⟨w.heap.size, 3, none⟩ = some (.int .i64 ea) ∧ w'.cell? ⟨w.heap.size + 1, 0, none⟩ = some (.bool false) ∧ w'.cell? ⟨w.heap.size + 1, 1, none⟩ = some (.slice none 0 0)) := by
    intro X bX
    refine (RP.out X).mono ?_
    rintro e w' ⟨rfl, hb⟩
    have bb := bX.out.trans (hb.mono bX.out.size)
    have Baq := Ba0.out.below bb Ba0.out.lt
    have Brq := Br0.out.below bb Br0.out.lt
    exact ⟨rfl, bb, Baq.cell 0, Baq.cell 1, Baq.cell 2, Baq.cell 3, Brq.cell 0, Brq.cell 1⟩
  have C1 : Hid (∀ X, Hid (Below W.heap.size W X) → Calls Tryz.prog 95 #[.string (ta ++ Z)] X fun e w' => (∃ o l c, e = .returned (.tuple #[.slice o l c, .int .i64 0]) ∧ Hid (Nt w' (.slice o l c) n)) ∧ Hid (Below W.heap.size W w') ∧ w'.cell? ⟨w.heap.size, 0, none⟩ = some (.int .i64 0) ∧ w'.cell? ⟨w.heap.size, 1, none⟩ = some (.bool na) ∧ w'.cell? ⟨w.heap.size, 2, none⟩ = some (.string ta) ∧ w'.cell? ⟨w.heap.size, 3, none⟩ = some (.int .i64 ea) ∧ w'.cell? ⟨w.heap.size + 1, 0, none⟩ = some (.bool false) ∧ w'.cell? ⟨w.heap.size + 1, 1, none⟩ = some (.slice none 0 0)) := by
    intro X bX
    refine (PS.out X).mono ?_
    rintro e w' ⟨o, l, c, rfl, hn, hb⟩
    have bb := bX.out.trans (hb.mono bX.out.size)
    have Baq := Ba0.out.below bb Ba0.out.lt
    have Brq := Br0.out.below bb Br0.out.lt
    exact ⟨⟨o, l, c, rfl, hn⟩, bb, Baq.cell 0, Baq.cell 1, Baq.cell 2, Baq.cell 3, Brq.cell 0, Brq.cell 1⟩
  go_wp2_with fail
  simp only [← HW.out]
  have mk0 : True := trivial
  go_region_held3 (fun w' => w'.cell? ⟨w.heap.size, 0, none⟩ = some (.int .i64 0) ∧ w'.cell? ⟨w.heap.size, 1, none⟩ = some (.bool na) ∧ w'.cell? ⟨w.heap.size, 2, none⟩ = some (.string ta) ∧ w'.cell? ⟨w.heap.size, 3, none⟩ = some (.int .i64 ea) ∧ w'.cell? ⟨w.heap.size + 1, 0, none⟩ = some (.bool false) ∧ w'.cell? ⟨w.heap.size + 1, 1, none⟩ = some (.slice none 0 0)) (go_keep) (first
    | (clear mk0; go_at_call 96; refine (C0.out _ b0).mono ?_; rintro e w1 ⟨rfl, b1, q0_0, q0_1, q0_2, q0_3, q0_4, q0_5⟩; have mk1 : True := trivial)
    | (clear mk1; go_at_call 95; refine (C1.out _ b1).mono ?_; rintro e w2 ⟨⟨o, l, c, rfl, hn⟩, b2, q1_0, q1_1, q1_2, q1_3, q1_4, q1_5⟩; have mk2 : True := trivial))
  have Ba2 := hide (Ba0.out.below b2.out Ba0.out.lt)
  have Br2 := hide (Br0.out.below b2.out Br0.out.lt)
  have HB2 := hide (HB0.out.trans (b2.out.mono HB0.out.size))
  clear mk2 b0 b1 b2 C0 C1 q0_0 q0_1 q0_2 q0_3 q0_4 q0_5 q1_0 q1_1 q1_2 q1_3 q1_4 q1_5 Ba0 Br0 HB0 ya0 ya1 ya2 ya3 yr0 yr1
  have ya0 : w2.cell? ⟨w.heap.size, 0, none⟩ = some (.int .i64 0) := Ba2.out.cell 0
  have ya1 : w2.cell? ⟨w.heap.size, 1, none⟩ = some (.bool na) := Ba2.out.cell 1
  have ya2 : w2.cell? ⟨w.heap.size, 2, none⟩ = some (.string ta) := Ba2.out.cell 2
  have ya3 : w2.cell? ⟨w.heap.size, 3, none⟩ = some (.int .i64 ea) := Ba2.out.cell 3
  have yr0 : w2.cell? ⟨w.heap.size + 1, 0, none⟩ = some (.bool false) := Br2.out.cell 0
  have yr1 : w2.cell? ⟨w.heap.size + 1, 1, none⟩ = some (.slice none 0 0) := Br2.out.cell 1
  have hlt2 := Br2.out.lt
  have MK := hide (zt_make na _ n _ hn.out HSM.out)
  clear hn HSM
  go_wp2_with fail
  refine (MK.out).mono ?_
  rintro e w3 ⟨s, o2, l2, c2, rfl, hz, hb, hf⟩
  have Ba3 := hide (Ba2.out.below hb Ba2.out.lt)
  have Br3 := hide (Br2.out.below hb Br2.out.lt)
  have HB3 := hide (HB2.out.trans (hb.mono HB2.out.size))
  clear hb Ba2 Br2 HB2 ya0 ya1 ya2 ya3 yr0 yr1
  have hlt := hlt2
  have fr0 := Br3.out.free 0
  have fr1 := Br3.out.free 1
  have ya0 : w3.cell? ⟨w.heap.size, 0, none⟩ = some (.int .i64 0) := Ba3.out.cell 0
  have ya1 : w3.cell? ⟨w.heap.size, 1, none⟩ = some (.bool na) := Ba3.out.cell 1
  have ya2 : w3.cell? ⟨w.heap.size, 2, none⟩ = some (.string ta) := Ba3.out.cell 2
  have ya3 : w3.cell? ⟨w.heap.size, 3, none⟩ = some (.int .i64 ea) := Ba3.out.cell 3
  have yr0 : w3.cell? ⟨w.heap.size + 1, 0, none⟩ = some (.bool false) := Br3.out.cell 0
  have yr1 : w3.cell? ⟨w.heap.size + 1, 1, none⟩ = some (.slice none 0 0) := Br3.out.cell 1
  go_wp2
  refine bodyPost_ret (results_pair rfl _ _ _ _ _ rfl ((show Pair _ _ _ _ _ from Br3.out).put _ _)) rfl ?_
  exact ⟨s, o2, l2, c2, rfl, (hz.out.put hf.out hlt _).put hf.out hlt _, (HB3.out.setCell (Nat.le_succ _) _).setCell (Nat.le_succ _) _, hf.out.mono (by omega)⟩

end Go.Proofs.YtafljhfamjabeaaGreatDoor

namespace Go.Proofs.YtafljhfamjabeaaGreatDoor
open Go.RowKit

/-- Where the ways through such a region meet: a variable's pointer and the world. -/
structure Cut1 (W : World) (z : Int) (v : Value) (W' : World) : Prop where
  ex : ∃ (H : Nat) (s : Bool) (o : Option Addr) (l c : Nat), v = .pointer (some ⟨H, 0, none⟩) ∧ Blk W' H #[.bool s, .slice o l c] 89 ∧ W.heap.size ≤ H ∧ Zt W' (.agg #[.bool s, .slice o l c]) z ∧ Below W.heap.size W W'

theorem Blk.put2 {w : World} {b : Nat} {t : TypeId} {x0 x1 : Value} (h : Blk w b #[x0, x1] t) (y0 y1 : Value) : Blk ((w.setCell ⟨b, 0, none⟩ y0).setCell ⟨b, 1, none⟩ y1) b #[y0, y1] t := Pair.put h y0 y1

theorem cut_old {W w3 : World} {z : Int} {H base l c : Nat} {s : Bool} {o : Option Addr} {x y : Value} (hb : Below W.heap.size W w3) (q : Blk w3 H #[x, y] 89) (hH : W.heap.size ≤ H) (hz : Zt w3 (.agg #[.bool s, .slice o l c]) z) (hf : Far base (.slice o l c)) (hl : H < base) :
    Cut1 W z (.pointer (some ⟨H, 0, none⟩)) ((w3.setCell ⟨H, 0, none⟩ (.bool s)).setCell ⟨H, 1, none⟩ (.slice o l c)) :=
  ⟨H, s, o, l, c, rfl, q.put2 _ _, hH, (hz.put hf hl _).put hf hl _, (hb.setCell hH _).setCell hH _⟩

theorem cut_new {W w3 : World} {z : Int} {l c : Nat} {s : Bool} {o : Option Addr} (hb : Below W.heap.size W w3) (hz : Zt w3 (.agg #[.bool s, .slice o l c]) z) :
    Cut1 W z (.pointer (some ⟨w3.heap.size, 0, none⟩)) (w3.alloc (.cells #[.bool s, .slice o l c] 89)) :=
  ⟨w3.heap.size, s, o, l, c, rfl, Blk.new _ _ _, hb.size, hz.below ((Below.refl _ _).alloc (Nat.le_refl _) _), hb.alloc hb.size _⟩

set_option maxRecDepth 100000 in
set_option maxHeartbeats 4000000 in
theorem sum_gen (na : Bool) (ta : ByteArray) (ea : Int) (nb : Bool) (tb : ByteArray) (eb : Int) (za zb : Int) (w : World) (ca : ∀ W, Calls Tryz.prog 72 #[dcV 0 na ta ea, .int .i64 (min ea eb)] W (ZtPost W za)) (cb : ∀ W, Calls Tryz.prog 72 #[dcV 0 nb tb eb, .int .i64 (min ea eb)] W (ZtPost W zb)) (sa : Sm za.natAbs) (sb : Sm zb.natAbs) (htab : Tab w) (hsz : (Lib.decDigits (za + zb).natAbs).length ≤ 100000) (hxb : -10000 ≤ ea ∧ ea ≤ 10000 ∧ -10000 ≤ eb ∧ eb ≤ 10000) : Calls Tryz.prog 46 #[dcV 0 na ta ea, dcV 0 nb tb eb] w fun e w' => e = .returned (decErr (tellF (decide (za + zb < 0) || (na && nb)) (za + zb).natAbs (min ea eb))) ∧ Below w.heap.size w w' := by
  have CCA := hide ca
  have CCB := hide cb
  have SA := hide sa
  have SB := hide sb
  have HT := hide htab
  have HSZ := hide hsz
  have HXB : Hid (-10000 ≤ ea ∧ ea ≤ 10000 ∧ -10000 ≤ eb ∧ eb ≤ 10000) := hxb
  obtain ⟨x, hx⟩ : ∃ x, x = min ea eb := ⟨_, rfl⟩
  have HX := hide hx
  rw [← hx] at CCA CCB ⊢
  clear ca cb sa sb htab hx hsz hxb
  have Ba0 := hide (((Blk.newAt w (w.heap.size) (rfl) #[.int .i64 0, .bool na, .string ta, .int .i64 ea] 23).alloc (.cells #[.int .i64 0, .bool nb, .string tb, .int .i64 eb] 23)).alloc (.cells #[.int .i64 0, .bool false, .string ⟨#[]⟩, .int .i64 0] 23))
  have Bb0 := hide ((Blk.newAt (w.alloc (.cells #[.int .i64 0, .bool na, .string ta, .int .i64 ea] 23)) (w.heap.size + 1) (by simp) #[.int .i64 0, .bool nb, .string tb, .int .i64 eb] 23).alloc (.cells #[.int .i64 0, .bool false, .string ⟨#[]⟩, .int .i64 0] 23))
  have Br0 := hide (Blk.newAt ((w.alloc (.cells #[.int .i64 0, .bool na, .string ta, .int .i64 ea] 23)).alloc (.cells #[.int .i64 0, .bool nb, .string tb, .int .i64 eb] 23)) (w.heap.size + 1 + 1) (by simp) #[.int .i64 0, .bool false, .string ⟨#[]⟩, .int .i64 0] 23)
  have HB0 : Hid (Below w.heap.size w (((w.alloc (.cells #[.int .i64 0, .bool na, .string ta, .int .i64 ea] 23)).alloc (.cells #[.int .i64 0, .bool nb, .string tb, .int .i64 eb] 23)).alloc (.cells #[.int .i64 0, .bool false, .string ⟨#[]⟩, .int .i64 0] 23))) := ((((Below.refl _ _).alloc (Nat.le_refl _) _).alloc (by simp <;> omega) _).alloc (by simp <;> omega) _)
  have HTW := hide (HT.out.below HB0.out)
  obtain ⟨W, hW⟩ : ∃ W, W = (((w.alloc (.cells #[.int .i64 0, .bool na, .string ta, .int .i64 ea] 23)).alloc (.cells #[.int .i64 0, .bool nb, .string tb, .int .i64 eb] 23)).alloc (.cells #[.int .i64 0, .bool false, .string ⟨#[]⟩, .int .i64 0] 23)) := ⟨_, rfl⟩
  rw [← hW] at HB0 Ba0 Bb0 Br0 HTW
  have HW := hide hW
  clear hW
  have ya0 : W.cell? ⟨w.heap.size, 0, none⟩ = some (.int .i64 0) := Ba0.out.cell 0
  have ya1 : W.cell? ⟨w.heap.size, 1, none⟩ = some (.bool na) := Ba0.out.cell 1
  have ya2 : W.cell? ⟨w.heap.size, 2, none⟩ = some (.string ta) := Ba0.out.cell 2
  have ya3 : W.cell? ⟨w.heap.size, 3, none⟩ = some (.int .i64 ea) := Ba0.out.cell 3
  have yb0 : W.cell? ⟨w.heap.size + 1, 0, none⟩ = some (.int .i64 0) := Bb0.out.cell 0
  have yb1 : W.cell? ⟨w.heap.size + 1, 1, none⟩ = some (.bool nb) := Bb0.out.cell 1
  have yb2 : W.cell? ⟨w.heap.size + 1, 2, none⟩ = some (.string tb) := Bb0.out.cell 2
  have yb3 : W.cell? ⟨w.heap.size + 1, 3, none⟩ = some (.int .i64 eb) := Bb0.out.cell 3
  have yr0 : W.cell? ⟨w.heap.size + 1 + 1, 0, none⟩ = some (.int .i64 0) := Br0.out.cell 0
  have yr1 : W.cell? ⟨w.heap.size + 1 + 1, 1, none⟩ = some (.bool false) := Br0.out.cell 1
  have yr2 : W.cell? ⟨w.heap.size + 1 + 1, 2, none⟩ = some (.string ⟨#[]⟩) := Br0.out.cell 2
  have yr3 : W.cell? ⟨w.heap.size + 1 + 1, 3, none⟩ = some (.int .i64 0) := Br0.out.cell 3
  have HL : Hid (w.heap.size < W.heap.size ∧ w.heap.size + 1 < W.heap.size ∧ w.heap.size + 1 + 1 < W.heap.size) := ⟨Ba0.out.lt, Bb0.out.lt, Br0.out.lt⟩
  clear HT
  go_enter Tryz.func46, Tryz.ntmps46
  go_wp2_with fail
  simp only [← HW.out]
  simp only [← HX.out]
  go_cut [7] from 8 to 19 (fun v7 wx => Cut1 W (za + zb) v7 wx)
  case first =>
    have C0 : Hid (∀ X, Hid (Below W.heap.size W X) → Calls Tryz.prog 72 #[dcV 0 na ta ea, .int .i64 x] X fun e w' => (∃ s o l c, e = .returned (.agg #[.bool s, .slice o l c]) ∧ Hid (Zt w' (.agg #[.bool s, .slice o l c]) za ∧ Far X.heap.size (.slice o l c))) ∧ Hid (Below X.heap.size X w') ∧ Hid (Below W.heap.size W w') ∧ w'.cell? ⟨w.heap.size, 0, none⟩ = some (.int .i64 0) ∧ w'.cell? ⟨w.heap.size, 1, none⟩ = some (.bool na) ∧ w'.cell? ⟨w.heap.size, 2, none⟩ = some (.string ta) ∧ w'.cell? ⟨w.heap.size, 3, none⟩ = some (.int .i64 ea) ∧ w'.cell? ⟨w.heap.size + 1, 0, none⟩ = some (.int .i64 0) ∧ w'.cell? ⟨w.heap.size + 1, 1, none⟩ = some (.bool nb) ∧ w'.cell? ⟨w.heap.size + 1, 2, none⟩ = some (.string tb) ∧ w'.cell? ⟨w.heap.size + 1, 3, none⟩ = some (.int .i64 eb)) := by
      intro X bX
      refine (CCA.out X).mono ?_
      rintro e w' ⟨s, o, l, c, rfl, hz, hb, hf⟩
      have bb := bX.out.trans (hb.mono bX.out.size)
      have Baq := Ba0.out.below bb Ba0.out.lt
      have Bbq := Bb0.out.below bb Bb0.out.lt
      exact ⟨⟨s, o, l, c, rfl, hz.out, hf.out⟩, hb, bb, Baq.cell 0, Baq.cell 1, Baq.cell 2, Baq.cell 3, Bbq.cell 0, Bbq.cell 1, Bbq.cell 2, Bbq.cell 3⟩
    have C1 : Hid (∀ X, Hid (Below W.heap.size W X) → Calls Tryz.prog 72 #[dcV 0 nb tb eb, .int .i64 x] X fun e w' => (∃ s o l c, e = .returned (.agg #[.bool s, .slice o l c]) ∧ Hid (Zt w' (.agg #[.bool s, .slice o l c]) zb ∧ Far X.heap.size (.slice o l c))) ∧ Hid (Below X.heap.size X w') ∧ Hid (Below W.heap.size W w') ∧ w'.cell? ⟨w.heap.size, 0, none⟩ = some (.int .i64 0) ∧ w'.cell? ⟨w.heap.size, 1, none⟩ = some (.bool na) ∧ w'.cell? ⟨w.heap.size, 2, none⟩ = some (.string ta) ∧ w'.cell? ⟨w.heap.size, 3, none⟩ = some (.int .i64 ea) ∧ w'.cell? ⟨w.heap.size + 1, 0, none⟩ = some (.int .i64 0) ∧ w'.cell? ⟨w.heap.size + 1, 1, none⟩ = some (.bool nb) ∧ w'.cell? ⟨w.heap.size + 1, 2, none⟩ = some (.string tb) ∧ w'.cell? ⟨w.heap.size + 1, 3, none⟩ = some (.int .i64 eb)) := by
      intro X bX
      refine (CCB.out X).mono ?_
      rintro e w' ⟨s, o, l, c, rfl, hz, hb, hf⟩
      have bb := bX.out.trans (hb.mono bX.out.size)
      have Baq := Ba0.out.below bb Ba0.out.lt
      have Bbq := Bb0.out.below bb Bb0.out.lt
      exact ⟨⟨s, o, l, c, rfl, hz.out, hf.out⟩, hb, bb, Baq.cell 0, Baq.cell 1, Baq.cell 2, Baq.cell 3, Bbq.cell 0, Bbq.cell 1, Bbq.cell 2, Bbq.cell 3⟩
    have C2 : Hid (∀ X (s1 : Bool) (o1 : Option Addr) (l1 c1 : Nat) (s2 : Bool) (o2 : Option Addr) (l2 c2 : Nat), Hid (Below W.heap.size W X) → Zt X (.agg #[.bool s1, .slice o1 l1 c1]) za → Zt X (.agg #[.bool s2, .slice o2 l2 c2]) zb → Calls Tryz.prog 71 #[.agg #[.bool s1, .slice o1 l1 c1], .agg #[.bool s2, .slice o2 l2 c2]] X fun e w' => (∃ s o l c, e = .returned (.agg #[.bool s, .slice o l c]) ∧ Hid (Zt w' (.agg #[.bool s, .slice o l c]) (za + zb) ∧ Far X.heap.size (.slice o l c))) ∧ Hid (Below X.heap.size X w') ∧ Hid (Below W.heap.size W w') ∧ w'.cell? ⟨w.heap.size, 0, none⟩ = some (.int .i64 0) ∧ w'.cell? ⟨w.heap.size, 1, none⟩ = some (.bool na) ∧ w'.cell? ⟨w.heap.size, 2, none⟩ = some (.string ta) ∧ w'.cell? ⟨w.heap.size, 3, none⟩ = some (.int .i64 ea) ∧ w'.cell? ⟨w.heap.size + 1, 0, none⟩ = some (.int .i64 0) ∧ w'.cell? ⟨w.heap.size + 1, 1, none⟩ = some (.bool nb) ∧ w'.cell? ⟨w.heap.size + 1, 2, none⟩ = some (.string tb) ∧ w'.cell? ⟨w.heap.size + 1, 3, none⟩ = some (.int .i64 eb)) := by
      intro X s1 o1 l1 c1 s2 o2 l2 c2 bX Zp Zq
      refine (zt_add _ _ za zb X Zp Zq SA.out SB.out).mono ?_
      rintro e w' ⟨s, o, l, c, rfl, hz, hb, hf⟩
      have bb := bX.out.trans (hb.mono bX.out.size)
      have Baq := Ba0.out.below bb Ba0.out.lt
      have Bbq := Bb0.out.below bb Bb0.out.lt
      exact ⟨⟨s, o, l, c, rfl, hz.out, hf.out⟩, hb, bb, Baq.cell 0, Baq.cell 1, Baq.cell 2, Baq.cell 3, Bbq.cell 0, Bbq.cell 1, Bbq.cell 2, Bbq.cell 3⟩
    have b0 : Hid (Below W.heap.size W W.drew) := bdrewD W
    have naW : ¬ w.heap.size = W.heap.size := (by have := HL.out; omega)
    have maW : ¬ W.heap.size = w.heap.size := (by have := HL.out; omega)
    have nbW : ¬ w.heap.size + 1 = W.heap.size := (by have := HL.out; omega)
    have mbW : ¬ W.heap.size = w.heap.size + 1 := (by have := HL.out; omega)
    clear CCA CCB SA SB HTW HSZ HXB
    have mk0 : True := trivial
    go_region_held3 (fun w' => w'.cell? ⟨w.heap.size, 0, none⟩ = some (.int .i64 0) ∧ w'.cell? ⟨w.heap.size, 1, none⟩ = some (.bool na) ∧ w'.cell? ⟨w.heap.size, 2, none⟩ = some (.string ta) ∧ w'.cell? ⟨w.heap.size, 3, none⟩ = some (.int .i64 ea) ∧ w'.cell? ⟨w.heap.size + 1, 0, none⟩ = some (.int .i64 0) ∧ w'.cell? ⟨w.heap.size + 1, 1, none⟩ = some (.bool nb) ∧ w'.cell? ⟨w.heap.size + 1, 2, none⟩ = some (.string tb) ∧ w'.cell? ⟨w.heap.size + 1, 3, none⟩ = some (.int .i64 eb)) (go_keep) (first
      | (clear mk0; go_at_call 72; refine (C0.out _ (bal b0 (Obj.cells #[Value.bool false, Value.slice none 0 0] 89))).mono ?_; rintro e w1 ⟨⟨s1, o1, l1, c1, rfl, Z1⟩, R1, b1, q1_0, q1_1, q1_2, q1_3, q1_4, q1_5, q1_6, q1_7⟩; have QN := (Blk.newAt W.drew W.heap.size rfl #[.bool false, .slice none 0 0] 89).below R1.out (Blk.newAt W.drew W.heap.size rfl #[.bool false, .slice none 0 0] 89).lt; have h0 : w1.cell? ⟨W.heap.size, 0, none⟩ = some (.bool false) := QN.cell 0; have h1 : w1.cell? ⟨W.heap.size, 1, none⟩ = some (.slice none 0 0) := QN.cell 1; have h2 := QN.free 0; have h3 := QN.free 1; have HH : Hid (W.heap.size < w1.heap.size) := QN.lt; have QH := hide QN; clear QN; have mk1A : True := trivial)
      | (clear mk0; go_at_call 72; refine (C0.out _ b0).mono ?_; rintro e w1 ⟨⟨s1, o1, l1, c1, rfl, Z1⟩, R1, b1, q1_0, q1_1, q1_2, q1_3, q1_4, q1_5, q1_6, q1_7⟩; have naw1 : ¬ w.heap.size = w1.heap.size := (by have := HL.out; have := b1.out.size; omega); have maw1 : ¬ w1.heap.size = w.heap.size := (by have := HL.out; have := b1.out.size; omega); have nbw1 : ¬ w.heap.size + 1 = w1.heap.size := (by have := HL.out; have := b1.out.size; omega); have mbw1 : ¬ w1.heap.size = w.heap.size + 1 := (by have := HL.out; have := b1.out.size; omega); have mk1 : True := trivial)
      | (clear mk1A; go_at_call 72; refine (C1.out _ b1).mono ?_; rintro e w2 ⟨⟨s2, o2, l2, c2, rfl, Z2⟩, R2, b2, q2_0, q2_1, q2_2, q2_3, q2_4, q2_5, q2_6, q2_7⟩; have Y1 := hide (Z1.out.1.below R2.out); clear Z1; clear h0 h1 h2 h3 HH; have QN := QH.out.below R2.out QH.out.lt; have h0 : w2.cell? ⟨W.heap.size, 0, none⟩ = some (.bool false) := QN.cell 0; have h1 : w2.cell? ⟨W.heap.size, 1, none⟩ = some (.slice none 0 0) := QN.cell 1; have h2 := QN.free 0; have h3 := QN.free 1; have HH : Hid (W.heap.size < w2.heap.size) := QN.lt; have QH := hide QN; clear QN; have mk2A : True := trivial)
      | (clear mk1; go_at_call 72; refine (C1.out _ (bal b1 (Obj.cells #[Value.bool false, Value.slice none 0 0] 89))).mono ?_; rintro e w2 ⟨⟨s2, o2, l2, c2, rfl, Z2⟩, R2, b2, q2_0, q2_1, q2_2, q2_3, q2_4, q2_5, q2_6, q2_7⟩; have Y1 := hide ((Z1.out.1.below ((Below.refl _ _).alloc (Nat.le_refl _) (Obj.cells #[Value.bool false, Value.slice none 0 0] 89))).below R2.out); clear Z1; have QN := (Blk.newAt w1 w1.heap.size rfl #[.bool false, .slice none 0 0] 89).below R2.out (Blk.newAt w1 w1.heap.size rfl #[.bool false, .slice none 0 0] 89).lt; have h0 : w2.cell? ⟨w1.heap.size, 0, none⟩ = some (.bool false) := QN.cell 0; have h1 : w2.cell? ⟨w1.heap.size, 1, none⟩ = some (.slice none 0 0) := QN.cell 1; have h2 := QN.free 0; have h3 := QN.free 1; have HH : Hid (w1.heap.size < w2.heap.size) := QN.lt; have QH := hide QN; clear QN; have mk2B : True := trivial)
      | (clear mk1; go_at_call 72; refine (C1.out _ b1).mono ?_; rintro e w2 ⟨⟨s2, o2, l2, c2, rfl, Z2⟩, R2, b2, q2_0, q2_1, q2_2, q2_3, q2_4, q2_5, q2_6, q2_7⟩; have Y1 := hide (Z1.out.1.below R2.out); clear Z1; have naw2 : ¬ w.heap.size = w2.heap.size := (by have := HL.out; have := b2.out.size; omega); have maw2 : ¬ w2.heap.size = w.heap.size := (by have := HL.out; have := b2.out.size; omega); have nbw2 : ¬ w.heap.size + 1 = w2.heap.size := (by have := HL.out; have := b2.out.size; omega); have mbw2 : ¬ w2.heap.size = w.heap.size + 1 := (by have := HL.out; have := b2.out.size; omega); have mk2 : True := trivial)
      | (clear mk2A; go_at_call 71; refine (C2.out _ _ _ _ _ _ _ _ _ b2 Y1 Z2.out.1).mono ?_; rintro e w3 ⟨⟨s3, o3, l3, c3, rfl, Z3⟩, R3, b3, q3_0, q3_1, q3_2, q3_3, q3_4, q3_5, q3_6, q3_7⟩; have LT : Hid (W.heap.size < w2.heap.size) := HH.out; clear h0 h1 h2 h3 HH; have QN := QH.out.below R3.out QH.out.lt; have h0 : w3.cell? ⟨W.heap.size, 0, none⟩ = some (.bool false) := QN.cell 0; have h1 : w3.cell? ⟨W.heap.size, 1, none⟩ = some (.slice none 0 0) := QN.cell 1; have h2 := QN.free 0; have h3 := QN.free 1; have HH : Hid (W.heap.size < w3.heap.size) := QN.lt; have QH := hide QN; clear QN; have mk3A : True := trivial)
      | (clear mk2B; go_at_call 71; refine (C2.out _ _ _ _ _ _ _ _ _ b2 Y1 Z2.out.1).mono ?_; rintro e w3 ⟨⟨s3, o3, l3, c3, rfl, Z3⟩, R3, b3, q3_0, q3_1, q3_2, q3_3, q3_4, q3_5, q3_6, q3_7⟩; have LT : Hid (w1.heap.size < w2.heap.size) := HH.out; clear h0 h1 h2 h3 HH; have QN := QH.out.below R3.out QH.out.lt; have h0 : w3.cell? ⟨w1.heap.size, 0, none⟩ = some (.bool false) := QN.cell 0; have h1 : w3.cell? ⟨w1.heap.size, 1, none⟩ = some (.slice none 0 0) := QN.cell 1; have h2 := QN.free 0; have h3 := QN.free 1; have HH : Hid (w1.heap.size < w3.heap.size) := QN.lt; have QH := hide QN; clear QN; have mk3B : True := trivial)
      | (clear mk2; go_at_call 71; refine (C2.out _ _ _ _ _ _ _ _ _ (bal b2 (Obj.cells #[Value.bool false, Value.slice none 0 0] 89)) (Y1.out.below ((Below.refl _ _).alloc (Nat.le_refl _) (Obj.cells #[Value.bool false, Value.slice none 0 0] 89))) (Z2.out.1.below ((Below.refl _ _).alloc (Nat.le_refl _) (Obj.cells #[Value.bool false, Value.slice none 0 0] 89)))).mono ?_; rintro e w3 ⟨⟨s3, o3, l3, c3, rfl, Z3⟩, R3, b3, q3_0, q3_1, q3_2, q3_3, q3_4, q3_5, q3_6, q3_7⟩; have QN := (Blk.newAt w2 w2.heap.size rfl #[.bool false, .slice none 0 0] 89).below R3.out (Blk.newAt w2 w2.heap.size rfl #[.bool false, .slice none 0 0] 89).lt; have h0 : w3.cell? ⟨w2.heap.size, 0, none⟩ = some (.bool false) := QN.cell 0; have h1 : w3.cell? ⟨w2.heap.size, 1, none⟩ = some (.slice none 0 0) := QN.cell 1; have h2 := QN.free 0; have h3 := QN.free 1; have HH : Hid (w2.heap.size < w3.heap.size) := QN.lt; have QH := hide QN; clear QN; have mk3C : True := trivial)
      | (clear mk2; go_at_call 71; refine (C2.out _ _ _ _ _ _ _ _ _ b2 Y1 Z2.out.1).mono ?_; rintro e w3 ⟨⟨s3, o3, l3, c3, rfl, Z3⟩, R3, b3, q3_0, q3_1, q3_2, q3_3, q3_4, q3_5, q3_6, q3_7⟩; have naw3 : ¬ w.heap.size = w3.heap.size := (by have := HL.out; have := b3.out.size; omega); have maw3 : ¬ w3.heap.size = w.heap.size := (by have := HL.out; have := b3.out.size; omega); have nbw3 : ¬ w.heap.size + 1 = w3.heap.size := (by have := HL.out; have := b3.out.size; omega); have mbw3 : ¬ w3.heap.size = w.heap.size + 1 := (by have := HL.out; have := b3.out.size; omega); have mk3D : True := trivial))
    all_goals (go_wp2_with fail; go_meet)
    all_goals (
      first
        | (clear mk3A; exact cut_old b3.out QH.out (Nat.le_refl _) Z3.out.1 Z3.out.2 LT.out)
        | (clear mk3B; exact cut_old b3.out QH.out b1.out.size Z3.out.1 Z3.out.2 LT.out)
        | (clear mk3C; exact cut_old b3.out QH.out b2.out.size Z3.out.1 Z3.out.2 (by simp))
        | (clear mk3D; exact cut_new b3.out Z3.out.1))
  case rest =>
    obtain ⟨⟨H, s, o, l, c, rfl, hq, hH, hz, hbc⟩⟩ := hcut
    have hgt := HL.out
    obtain ⟨G, hG⟩ : ∃ G, G = w.heap.size + 1 + 1 := ⟨_, rfl⟩
    have gn1 : ¬ G = w.heap.size := by omega
    have gn2 : ¬ w.heap.size = G := by omega
    have gn3 : ¬ G = w.heap.size + 1 := by omega
    have gn4 : ¬ w.heap.size + 1 = G := by omega
    have gn5 : ¬ G = H := by omega
    have gn6 : ¬ H = G := by omega
    have gle : w.heap.size ≤ G := by omega
    have HG := hide hG
    rw [← hG] at Br0
    clear hG hgt
    obtain ⟨hs, hn⟩ := hz.nt
    have Ba1 := hide (Ba0.out.below hbc Ba0.out.lt)
    have Bb1 := hide (Bb0.out.below hbc Bb0.out.lt)
    have Br1 := hide (Br0.out.below hbc Br0.out.lt)
    have BT := hide hq
    have HN := hide hn
    have HTC := hide (HTW.out.below hbc)
    have HB1 := hide (HB0.out.trans (hbc.mono HB0.out.size))
    obtain ⟨T, hT⟩ : ∃ T : ByteArray, T = ⟨(Lib.decDigits (za + zb).natAbs).toArray⟩ := ⟨_, rfl⟩
    have HTT := hide hT
    have hTb : bys T = Lib.decDigits (za + zb).natAbs := by rw [hT, bys_mk]
    have hTs : T.size = (Lib.decDigits (za + zb).natAbs).length := by rw [hT, size_mk0]
    have FG := fun (n : Bool) (X : World) => fin_any n T x X (by rw [hTs]; have := HSZ.out; omega) (by have := HX.out; have := HXB.out; omega) (by have := HX.out; have := HXB.out; omega) (by rw [hTb]; exact (dd_okT _).2.2)
    rw [hTb, dd_val] at FG
    have HS := hide hs
    obtain ⟨N, hN⟩ : ∃ N, N = (za + zb).natAbs := ⟨_, rfl⟩
    rw [← hN] at FG
    have FGH := hide FG
    have HNN := hide hN
    clear FG hs hn hz hq hbc hT hTb hTs hN Ba0 Bb0 Br0 HB0 HTW HSZ HXB CCA CCB SA SB HL HW ya0 ya1 ya2 ya3 yb0 yb1 yb2 yb3 yr0 yr1 yr2 yr3 hH
    cases s
    · cases na
      · have FI := hide (FGH.out false)
        rcases hTF : tellF false N x with ⟨⟨cc, nn, ll, ee⟩, er⟩
        rw [hTF] at FI
        unfold decErr decVal at FI
        simp only at FI
        obtain ⟨D, hD⟩ : ∃ D : ByteArray, D = ⟨ll.toArray⟩ := ⟨_, rfl⟩
        rw [← hD] at FI
        have EQ : Hid (Ending.returned (.tuple #[.agg #[.int .i64 (cc : Int), .bool nn, .string D, .int .i64 ee], .int .i64 er]) = Ending.returned (decErr (tellF (decide (za + zb < 0) || (false && nb)) (za + zb).natAbs x))) := by
          show _ = _
          rw [← HNN.out, ← HS.out, show tellF (false || (false && nb)) N x = (⟨cc, nn, ll, ee⟩, er) from hTF, hD]; rfl
        clear hTF hD FGH HS HNN
        have d0 : wc.cell? ⟨w.heap.size, 1, none⟩ = some (.bool false) := Ba1.out.cell 1
        have d1 : wc.cell? ⟨w.heap.size + 1, 1, none⟩ = some (.bool nb) := Bb1.out.cell 1
        have d2 : wc.cell? ⟨H, 0, none⟩ = some (.bool false) := BT.out.cell 0
        have d3 : wc.cell? ⟨H, 1, none⟩ = some (.slice o l c) := BT.out.cell 1
        have HC : Hid (∀ w', Below wc.heap.size wc w' → w'.cell? ⟨w.heap.size, 1, none⟩ = some (.bool false) ∧ w'.cell? ⟨w.heap.size + 1, 1, none⟩ = some (.bool nb) ∧ w'.cell? ⟨H, 0, none⟩ = some (.bool false) ∧ w'.cell? ⟨H, 1, none⟩ = some (.slice o l c) ∧ w'.cell? ⟨G, 0, none⟩ = some (.int .i64 0) ∧ w'.cell? ⟨G, 1, none⟩ = some (.bool false) ∧ w'.cell? ⟨G, 2, none⟩ = some (.string ⟨#[]⟩) ∧ w'.cell? ⟨G, 3, none⟩ = some (.int .i64 0) ∧ w'.frozen? ⟨G, 0, none⟩ = false ∧ w'.frozen? ⟨G, 1, none⟩ = false ∧ w'.frozen? ⟨G, 2, none⟩ = false ∧ w'.frozen? ⟨G, 3, none⟩ = false) := by
          intro w' hb
          have Ba1q := Ba1.out.below hb Ba1.out.lt
          have Bb1q := Bb1.out.below hb Bb1.out.lt
          have BTq := BT.out.below hb BT.out.lt
          have Br1q := Br1.out.below hb Br1.out.lt
          exact ⟨Ba1q.cell 1, Bb1q.cell 1, BTq.cell 0, BTq.cell 1, Br1q.cell 0, Br1q.cell 1, Br1q.cell 2, Br1q.cell 3, Br1q.free 0, Br1q.free 1, Br1q.free 2, Br1q.free 3⟩
        have b0 : Hid (Below wc.heap.size wc wc.drew) := bdrewD wc
        have C0 : Hid (∀ X, Hid (Below wc.heap.size wc X) → Calls Tryz.prog 73 #[.slice o l c] X fun e w' => e = .returned (.string T) ∧ Hid (Below wc.heap.size wc w') ∧ w'.cell? ⟨w.heap.size, 1, none⟩ = some (.bool false) ∧ w'.cell? ⟨w.heap.size + 1, 1, none⟩ = some (.bool nb) ∧ w'.cell? ⟨H, 0, none⟩ = some (.bool false) ∧ w'.cell? ⟨H, 1, none⟩ = some (.slice o l c) ∧ w'.cell? ⟨G, 0, none⟩ = some (.int .i64 0) ∧ w'.cell? ⟨G, 1, none⟩ = some (.bool false) ∧ w'.cell? ⟨G, 2, none⟩ = some (.string ⟨#[]⟩) ∧ w'.cell? ⟨G, 3, none⟩ = some (.int .i64 0) ∧ w'.frozen? ⟨G, 0, none⟩ = false ∧ w'.frozen? ⟨G, 1, none⟩ = false ∧ w'.frozen? ⟨G, 2, none⟩ = false ∧ w'.frozen? ⟨G, 3, none⟩ = false) := by
          intro X bX
          refine (nt_text _ _ X (HN.out.below bX.out) (HTC.out.below bX.out)).mono ?_
          rintro e w' ⟨rfl, hb⟩
          have bb := bX.out.trans (hb.mono bX.out.size)
          exact ⟨by rw [HTT.out], bb, HC.out _ bb⟩
        have C1 : Hid (∀ X, Hid (Below wc.heap.size wc X) → Calls Tryz.prog 35 #[.bool false, .string T, .int .i64 x] X fun e w' => e = .returned (.tuple #[.agg #[.int .i64 (cc : Int), .bool nn, .string D, .int .i64 ee], .int .i64 er]) ∧ Hid (Below wc.heap.size wc w') ∧ w'.cell? ⟨w.heap.size, 1, none⟩ = some (.bool false) ∧ w'.cell? ⟨w.heap.size + 1, 1, none⟩ = some (.bool nb) ∧ w'.cell? ⟨H, 0, none⟩ = some (.bool false) ∧ w'.cell? ⟨H, 1, none⟩ = some (.slice o l c) ∧ w'.cell? ⟨G, 0, none⟩ = some (.int .i64 0) ∧ w'.cell? ⟨G, 1, none⟩ = some (.bool false) ∧ w'.cell? ⟨G, 2, none⟩ = some (.string ⟨#[]⟩) ∧ w'.cell? ⟨G, 3, none⟩ = some (.int .i64 0) ∧ w'.frozen? ⟨G, 0, none⟩ = false ∧ w'.frozen? ⟨G, 1, none⟩ = false ∧ w'.frozen? ⟨G, 2, none⟩ = false ∧ w'.frozen? ⟨G, 3, none⟩ = false) := by
          intro X bX
          refine (FI.out X).mono ?_
          rintro e w' ⟨rfl, hb⟩
          have bb := bX.out.trans (hb.mono bX.out.size)
          exact ⟨rfl, bb, HC.out _ bb⟩
        have BRF : Hid (∀ w', Below wc.heap.size wc w' → Below w.heap.size w w' ∧ Blk w' G #[.int .i64 0, .bool false, .string ⟨#[]⟩, .int .i64 0] 23) := fun w' hb => ⟨HB1.out.trans (hb.mono HB1.out.size), Br1.out.below hb Br1.out.lt⟩
        clear HC HN HTC HTT FI Ba1 Bb1 BT Br1 HB1
        go_wp2_with fail
        simp only [← HG.out]
        refine wp_region_held_drew (S := (fun w' => w'.cell? ⟨w.heap.size, 1, none⟩ = some (.bool false) ∧ w'.cell? ⟨w.heap.size + 1, 1, none⟩ = some (.bool nb) ∧ w'.cell? ⟨H, 0, none⟩ = some (.bool false) ∧ w'.cell? ⟨H, 1, none⟩ = some (.slice o l c))) (by kernel_rfl) ?_ (fun hHeld => ?_)
        · (try dsimp only)
          go_keep
        refine wpAnyH_take (i := 0) (oi := Oper.mk (some 20) _ _ _ _ _) (v := .pointer (some ⟨H, 0, none⟩)) rfl (by kernel_rfl) (by kernel_rfl) (by kernel_rfl) (fun _ _ _ h => h) (Or.inl ⟨by rfl, ?_⟩) (by assumption) ?_
        · intro wX hSw
          (try dsimp only at hSw)
          go_simp
        simp only [Act.put, List.setIfInBounds_toArray, List.set_cons_succ, List.set_cons_zero]
        refine wpAnyH_take (i := 1) (oi := Oper.mk (some 21) _ _ _ _ _) (v := .bool false) rfl (by kernel_rfl) (by kernel_rfl) (by kernel_rfl) (fun _ _ _ h => h) (Or.inl ⟨by rfl, ?_⟩) (by assumption) ?_
        · intro wX hSw
          (try dsimp only at hSw)
          go_simp
        simp only [Act.put, List.setIfInBounds_toArray, List.set_cons_succ, List.set_cons_zero]
        refine wpAnyH_take (i := 2) (oi := Oper.mk (some 22) _ _ _ _ _) (v := .bool false) rfl (by kernel_rfl) (by kernel_rfl) (by kernel_rfl) (fun _ _ _ h => h) (Or.inl ⟨by rfl, ?_⟩) (by assumption) ?_
        · intro wX hSw
          (try dsimp only at hSw)
          go_simp
        simp only [Act.put, List.setIfInBounds_toArray, List.set_cons_succ, List.set_cons_zero]
        refine wpAnyH_take (i := 3) (oi := Oper.mk (some 23) _ _ _ _ _) (v := .pointer (some ⟨w.heap.size, 1, none⟩)) rfl (by kernel_rfl) (by kernel_rfl) (by kernel_rfl) (fun _ _ _ h => h) (Or.inl ⟨by rfl, ?_⟩) (by assumption) ?_
        · intro wX hSw
          (try dsimp only at hSw)
          go_simp
        simp only [Act.put, List.setIfInBounds_toArray, List.set_cons_succ, List.set_cons_zero]
        refine wpAnyH_take (i := 4) (oi := Oper.mk (some 24) _ _ _ _ _) (v := .bool false) rfl (by kernel_rfl) (by kernel_rfl) (by kernel_rfl) (fun _ _ _ h => h) (Or.inl ⟨by rfl, ?_⟩) (by assumption) ?_
        · intro wX hSw
          (try dsimp only at hSw)
          go_simp
        simp only [Act.put, List.setIfInBounds_toArray, List.set_cons_succ, List.set_cons_zero]
        refine wpAnyH_take (i := 5) (oi := Oper.mk (some 25) _ _ _ _ _) (v := .bool false) rfl (by kernel_rfl) (by kernel_rfl) (by kernel_rfl) (fun _ _ _ h => h) (Or.inl ⟨by rfl, ?_⟩) (by assumption) ?_
        · intro wX hSw
          (try dsimp only at hSw)
          go_simp
        simp only [Act.put, List.setIfInBounds_toArray, List.set_cons_succ, List.set_cons_zero]
        refine wpAnyH_take (i := 6) (oi := Oper.mk (some 26) _ _ _ _ _) (v := undef) rfl (by kernel_rfl) (by kernel_rfl) (by kernel_rfl) (fun _ _ _ h => h) (Or.inr ⟨by rfl, rfl⟩) (by assumption) ?_
        simp only [Act.put, List.setIfInBounds_toArray, List.set_cons_succ, List.set_cons_zero]
        refine wpAnyH_take (i := 7) (oi := Oper.mk (some 27) _ _ _ _ _) (v := undef) rfl (by kernel_rfl) (by kernel_rfl) (by kernel_rfl) (fun _ _ _ h => h) (Or.inr ⟨by rfl, rfl⟩) (by assumption) ?_
        simp only [Act.put, List.setIfInBounds_toArray, List.set_cons_succ, List.set_cons_zero]
        refine wpAnyH_take (i := 8) (oi := Oper.mk (some 28) _ _ _ _ _) (v := .bool false) rfl (by kernel_rfl) (by kernel_rfl) (by kernel_rfl) (fun _ _ _ h => h) (Or.inl ⟨by rfl, ?_⟩) (by assumption) ?_
        · intro wX hSw
          (try dsimp only at hSw)
          go_simp
        simp only [Act.put, List.setIfInBounds_toArray, List.set_cons_succ, List.set_cons_zero]
        refine wpAnyH_take (i := 9) (oi := Oper.mk (some 29) _ _ _ _ _) (v := .bool false) rfl (by kernel_rfl) (by kernel_rfl) (by kernel_rfl) (fun _ _ _ h => h) (Or.inl ⟨by rfl, ?_⟩) (by assumption) ?_
        · intro wX hSw
          (try dsimp only at hSw)
          go_simp
        simp only [Act.put, List.setIfInBounds_toArray, List.set_cons_succ, List.set_cons_zero]
        refine wpAnyH_take (i := 10) (oi := Oper.mk (some 30) _ _ _ _ _) (v := .pointer (some ⟨H, 1, none⟩)) rfl (by kernel_rfl) (by kernel_rfl) (by kernel_rfl) (fun _ _ _ h => h) (Or.inl ⟨by rfl, ?_⟩) (by assumption) ?_
        · intro wX hSw
          (try dsimp only at hSw)
          go_simp
        simp only [Act.put, List.setIfInBounds_toArray, List.set_cons_succ, List.set_cons_zero]
        refine wpAnyH_take (i := 11) (oi := Oper.mk (some 31) _ _ _ _ _) (v := .slice o l c) rfl (by kernel_rfl) (by kernel_rfl) (by kernel_rfl) (fun _ _ _ h => h) (Or.inl ⟨by rfl, ?_⟩) (by assumption) ?_
        · intro wX hSw
          (try dsimp only at hSw)
          go_simp
        simp only [Act.put, List.setIfInBounds_toArray, List.set_cons_succ, List.set_cons_zero]
        refine wpAnyH_take (i := 13) (oi := Oper.mk (some 33) _ _ _ _ _) (v := .int .i64 x) rfl (by kernel_rfl) (by kernel_rfl) (by kernel_rfl) (fun _ _ _ h => h) (Or.inl ⟨by rfl, ?_⟩) (by assumption) ?_
        · intro wX hSw
          (try dsimp only at hSw)
          go_simp
        simp only [Act.put, List.setIfInBounds_toArray, List.set_cons_succ, List.set_cons_zero]
        refine wpAnyH_ready (rs := [12]) (by kernel_rfl) (by simp) ?_
        refine AllReadyH.cons (o := Oper.mk (some 32) _ _ _ _ _) rfl (fun K hK => ?_) AllReadyH.nil
        go_simp
        refine (C0.out _ b0).mono ?_
        rintro e w1 ⟨rfl, b1, q0_0, q0_1, q0_2, q0_3, q0_4, q0_5, q0_6, q0_7, q0_8, q0_9, q0_10, q0_11⟩
        try simp only []
        refine hK.out _ _ ?_ (fun hHeld => ?_)
        · (try dsimp only)
          go_keep
        clear hK K
        refine wpAnyH_ready (rs := [14]) (by kernel_rfl) (by simp) ?_
        refine AllReadyH.cons (o := Oper.mk (some 34) _ _ _ _ _) rfl (fun K hK => ?_) AllReadyH.nil
        go_simp
        refine (C1.out _ b1).mono ?_
        rintro e w2 ⟨rfl, b2, q1_0, q1_1, q1_2, q1_3, q1_4, q1_5, q1_6, q1_7, q1_8, q1_9, q1_10, q1_11⟩
        try simp only []
        refine hK.out _ _ ?_ (fun hHeld => ?_)
        · (try dsimp only)
          go_keep
        clear hK K
        refine wpAnyH_take (i := 15) (oi := Oper.mk (some 35) _ _ _ _ _) (v := .agg #[.int .i64 (cc : Int), .bool nn, .string D, .int .i64 ee]) rfl (by kernel_rfl) (by kernel_rfl) (by kernel_rfl) (fun _ _ _ h => h) (Or.inl ⟨by rfl, ?_⟩) (by assumption) ?_
        · intro wX hSw
          (try dsimp only at hSw)
          go_simp
        simp only [Act.put, List.setIfInBounds_toArray, List.set_cons_succ, List.set_cons_zero]
        refine wpAnyH_take (i := 16) (oi := Oper.mk (some 36) _ _ _ _ _) (v := .int .i64 er) rfl (by kernel_rfl) (by kernel_rfl) (by kernel_rfl) (fun _ _ _ h => h) (Or.inl ⟨by rfl, ?_⟩) (by assumption) ?_
        · intro wX hSw
          (try dsimp only at hSw)
          go_simp
        simp only [Act.put, List.setIfInBounds_toArray, List.set_cons_succ, List.set_cons_zero]
        refine wpAnyH_ready (rs := [17]) (by kernel_rfl) (by simp) ?_
        refine AllReadyH.cons (o := Oper.mk none _ _ _ _ _) rfl (fun K hK => ?_) AllReadyH.nil
        go_simp
        refine hK.out _ _ ?_ (fun hHeld => ?_)
        · (try dsimp only)
          go_keep
        clear hK K
        refine wpAnyH_take (i := 18) (oi := Oper.mk (some 5) _ _ _ _ _) (v := .int .i64 er) rfl (by kernel_rfl) (by kernel_rfl) (by kernel_rfl) (fun _ _ _ h => h) (Or.inl ⟨by rfl, ?_⟩) (by assumption) ?_
        · intro wX hSw
          (try dsimp only at hSw)
          go_simp
        simp only [Act.put, List.setIfInBounds_toArray, List.set_cons_succ, List.set_cons_zero]
        refine wpAnyH_done (by kernel_rfl) ?_ _
        obtain ⟨hbel, hblk⟩ := BRF.out _ b2.out
        have HBL := hide hbel
        have QR := hide hblk
        clear hbel hblk BRF b0 b1 b2 C0 C1
        repeat (first | go_values | go_skip | go_guarded | go_step | go_upon)
        refine bodyPost_ret (results_dec2 rfl _ _ _ _ _ _ _ rfl (QR.out.put4 _ _ _ _)) rfl ?_
        exact ⟨EQ.out, below_put4 HBL.out gle _ _ _ _⟩
      · have FI := hide (FGH.out nb)
        rcases hTF : tellF nb N x with ⟨⟨cc, nn, ll, ee⟩, er⟩
        rw [hTF] at FI
        unfold decErr decVal at FI
        simp only at FI
        obtain ⟨D, hD⟩ : ∃ D : ByteArray, D = ⟨ll.toArray⟩ := ⟨_, rfl⟩
        rw [← hD] at FI
        have EQ : Hid (Ending.returned (.tuple #[.agg #[.int .i64 (cc : Int), .bool nn, .string D, .int .i64 ee], .int .i64 er]) = Ending.returned (decErr (tellF (decide (za + zb < 0) || (true && nb)) (za + zb).natAbs x))) := by
          show _ = _
          rw [← HNN.out, ← HS.out, show tellF (false || (true && nb)) N x = (⟨cc, nn, ll, ee⟩, er) from hTF, hD]; rfl
        clear hTF hD FGH HS HNN
        have d0 : wc.cell? ⟨w.heap.size, 1, none⟩ = some (.bool true) := Ba1.out.cell 1
        have d1 : wc.cell? ⟨w.heap.size + 1, 1, none⟩ = some (.bool nb) := Bb1.out.cell 1
        have d2 : wc.cell? ⟨H, 0, none⟩ = some (.bool false) := BT.out.cell 0
        have d3 : wc.cell? ⟨H, 1, none⟩ = some (.slice o l c) := BT.out.cell 1
        have HC : Hid (∀ w', Below wc.heap.size wc w' → w'.cell? ⟨w.heap.size, 1, none⟩ = some (.bool true) ∧ w'.cell? ⟨w.heap.size + 1, 1, none⟩ = some (.bool nb) ∧ w'.cell? ⟨H, 0, none⟩ = some (.bool false) ∧ w'.cell? ⟨H, 1, none⟩ = some (.slice o l c) ∧ w'.cell? ⟨G, 0, none⟩ = some (.int .i64 0) ∧ w'.cell? ⟨G, 1, none⟩ = some (.bool false) ∧ w'.cell? ⟨G, 2, none⟩ = some (.string ⟨#[]⟩) ∧ w'.cell? ⟨G, 3, none⟩ = some (.int .i64 0) ∧ w'.frozen? ⟨G, 0, none⟩ = false ∧ w'.frozen? ⟨G, 1, none⟩ = false ∧ w'.frozen? ⟨G, 2, none⟩ = false ∧ w'.frozen? ⟨G, 3, none⟩ = false) := by
          intro w' hb
          have Ba1q := Ba1.out.below hb Ba1.out.lt
          have Bb1q := Bb1.out.below hb Bb1.out.lt
          have BTq := BT.out.below hb BT.out.lt
          have Br1q := Br1.out.below hb Br1.out.lt
          exact ⟨Ba1q.cell 1, Bb1q.cell 1, BTq.cell 0, BTq.cell 1, Br1q.cell 0, Br1q.cell 1, Br1q.cell 2, Br1q.cell 3, Br1q.free 0, Br1q.free 1, Br1q.free 2, Br1q.free 3⟩
        have b0 : Hid (Below wc.heap.size wc wc.drew) := bdrewD wc
        have C0 : Hid (∀ X, Hid (Below wc.heap.size wc X) → Calls Tryz.prog 73 #[.slice o l c] X fun e w' => e = .returned (.string T) ∧ Hid (Below wc.heap.size wc w') ∧ w'.cell? ⟨w.heap.size, 1, none⟩ = some (.bool true) ∧ w'.cell? ⟨w.heap.size + 1, 1, none⟩ = some (.bool nb) ∧ w'.cell? ⟨H, 0, none⟩ = some (.bool false) ∧ w'.cell? ⟨H, 1, none⟩ = some (.slice o l c) ∧ w'.cell? ⟨G, 0, none⟩ = some (.int .i64 0) ∧ w'.cell? ⟨G, 1, none⟩ = some (.bool false) ∧ w'.cell? ⟨G, 2, none⟩ = some (.string ⟨#[]⟩) ∧ w'.cell? ⟨G, 3, none⟩ = some (.int .i64 0) ∧ w'.frozen? ⟨G, 0, none⟩ = false ∧ w'.frozen? ⟨G, 1, none⟩ = false ∧ w'.frozen? ⟨G, 2, none⟩ = false ∧ w'.frozen? ⟨G, 3, none⟩ = false) := by
          intro X bX
          refine (nt_text _ _ X (HN.out.below bX.out) (HTC.out.below bX.out)).mono ?_
          rintro e w' ⟨rfl, hb⟩
          have bb := bX.out.trans (hb.mono bX.out.size)
          exact ⟨by rw [HTT.out], bb, HC.out _ bb⟩
        have C1 : Hid (∀ X, Hid (Below wc.heap.size wc X) → Calls Tryz.prog 35 #[.bool nb, .string T, .int .i64 x] X fun e w' => e = .returned (.tuple #[.agg #[.int .i64 (cc : Int), .bool nn, .string D, .int .i64 ee], .int .i64 er]) ∧ Hid (Below wc.heap.size wc w') ∧ w'.cell? ⟨w.heap.size, 1, none⟩ = some (.bool true) ∧ w'.cell? ⟨w.heap.size + 1, 1, none⟩ = some (.bool nb) ∧ w'.cell? ⟨H, 0, none⟩ = some (.bool false) ∧ w'.cell? ⟨H, 1, none⟩ = some (.slice o l c) ∧ w'.cell? ⟨G, 0, none⟩ = some (.int .i64 0) ∧ w'.cell? ⟨G, 1, none⟩ = some (.bool false) ∧ w'.cell? ⟨G, 2, none⟩ = some (.string ⟨#[]⟩) ∧ w'.cell? ⟨G, 3, none⟩ = some (.int .i64 0) ∧ w'.frozen? ⟨G, 0, none⟩ = false ∧ w'.frozen? ⟨G, 1, none⟩ = false ∧ w'.frozen? ⟨G, 2, none⟩ = false ∧ w'.frozen? ⟨G, 3, none⟩ = false) := by
          intro X bX
          refine (FI.out X).mono ?_
          rintro e w' ⟨rfl, hb⟩
          have bb := bX.out.trans (hb.mono bX.out.size)
          exact ⟨rfl, bb, HC.out _ bb⟩
        have BRF : Hid (∀ w', Below wc.heap.size wc w' → Below w.heap.size w w' ∧ Blk w' G #[.int .i64 0, .bool false, .string ⟨#[]⟩, .int .i64 0] 23) := fun w' hb => ⟨HB1.out.trans (hb.mono HB1.out.size), Br1.out.below hb Br1.out.lt⟩
        clear HC HN HTC HTT FI Ba1 Bb1 BT Br1 HB1
        go_wp2_with fail
        simp only [← HG.out]
        have mk0 : True := trivial
        go_region_held3 (fun w' => w'.cell? ⟨w.heap.size, 1, none⟩ = some (.bool true) ∧ w'.cell? ⟨w.heap.size + 1, 1, none⟩ = some (.bool nb) ∧ w'.cell? ⟨H, 0, none⟩ = some (.bool false) ∧ w'.cell? ⟨H, 1, none⟩ = some (.slice o l c)) (go_keep) (first
      | (clear mk0; go_at_call 73; refine (C0.out _ b0).mono ?_; rintro e w1 ⟨rfl, b1, q0_0, q0_1, q0_2, q0_3, q0_4, q0_5, q0_6, q0_7, q0_8, q0_9, q0_10, q0_11⟩; have mk1 : True := trivial)
      | (clear mk1; go_at_call 35; refine (C1.out _ b1).mono ?_; rintro e w2 ⟨rfl, b2, q1_0, q1_1, q1_2, q1_3, q1_4, q1_5, q1_6, q1_7, q1_8, q1_9, q1_10, q1_11⟩; have mk2 : True := trivial))
        obtain ⟨hbel, hblk⟩ := BRF.out _ b2.out
        have HBL := hide hbel
        have QR := hide hblk
        clear hbel hblk BRF b0 b1 b2 C0 C1
        repeat (first | go_values | go_skip | go_guarded | go_step | go_upon)
        refine bodyPost_ret (results_dec2 rfl _ _ _ _ _ _ _ rfl (QR.out.put4 _ _ _ _)) rfl ?_
        exact ⟨EQ.out, below_put4 HBL.out gle _ _ _ _⟩
    · have FI := hide (FGH.out true)
      rcases hTF : tellF true N x with ⟨⟨cc, nn, ll, ee⟩, er⟩
      rw [hTF] at FI
      unfold decErr decVal at FI
      simp only at FI
      obtain ⟨D, hD⟩ : ∃ D : ByteArray, D = ⟨ll.toArray⟩ := ⟨_, rfl⟩
      rw [← hD] at FI
      have EQ : Hid (Ending.returned (.tuple #[.agg #[.int .i64 (cc : Int), .bool nn, .string D, .int .i64 ee], .int .i64 er]) = Ending.returned (decErr (tellF (decide (za + zb < 0) || (na && nb)) (za + zb).natAbs x))) := by
        show _ = _
        rw [← HNN.out, ← HS.out, show tellF (true || (na && nb)) N x = (⟨cc, nn, ll, ee⟩, er) from hTF, hD]; rfl
      clear hTF hD FGH HS HNN
      have d0 : wc.cell? ⟨w.heap.size, 1, none⟩ = some (.bool na) := Ba1.out.cell 1
      have d1 : wc.cell? ⟨w.heap.size + 1, 1, none⟩ = some (.bool nb) := Bb1.out.cell 1
      have d2 : wc.cell? ⟨H, 0, none⟩ = some (.bool true) := BT.out.cell 0
      have d3 : wc.cell? ⟨H, 1, none⟩ = some (.slice o l c) := BT.out.cell 1
      have HC : Hid (∀ w', Below wc.heap.size wc w' → w'.cell? ⟨w.heap.size, 1, none⟩ = some (.bool na) ∧ w'.cell? ⟨w.heap.size + 1, 1, none⟩ = some (.bool nb) ∧ w'.cell? ⟨H, 0, none⟩ = some (.bool true) ∧ w'.cell? ⟨H, 1, none⟩ = some (.slice o l c) ∧ w'.cell? ⟨G, 0, none⟩ = some (.int .i64 0) ∧ w'.cell? ⟨G, 1, none⟩ = some (.bool false) ∧ w'.cell? ⟨G, 2, none⟩ = some (.string ⟨#[]⟩) ∧ w'.cell? ⟨G, 3, none⟩ = some (.int .i64 0) ∧ w'.frozen? ⟨G, 0, none⟩ = false ∧ w'.frozen? ⟨G, 1, none⟩ = false ∧ w'.frozen? ⟨G, 2, none⟩ = false ∧ w'.frozen? ⟨G, 3, none⟩ = false) := by
        intro w' hb
        have Ba1q := Ba1.out.below hb Ba1.out.lt
        have Bb1q := Bb1.out.below hb Bb1.out.lt
        have BTq := BT.out.below hb BT.out.lt
        have Br1q := Br1.out.below hb Br1.out.lt
        exact ⟨Ba1q.cell 1, Bb1q.cell 1, BTq.cell 0, BTq.cell 1, Br1q.cell 0, Br1q.cell 1, Br1q.cell 2, Br1q.cell 3, Br1q.free 0, Br1q.free 1, Br1q.free 2, Br1q.free 3⟩
      have b0 : Hid (Below wc.heap.size wc wc.drew) := bdrewD wc
      have C0 : Hid (∀ X, Hid (Below wc.heap.size wc X) → Calls Tryz.prog 73 #[.slice o l c] X fun e w' => e = .returned (.string T) ∧ Hid (Below wc.heap.size wc w') ∧ w'.cell? ⟨w.heap.size, 1, none⟩ = some (.bool na) ∧ w'.cell? ⟨w.heap.size + 1, 1, none⟩ = some (.bool nb) ∧ w'.cell? ⟨H, 0, none⟩ = some (.bool true) ∧ w'.cell? ⟨H, 1, none⟩ = some (.slice o l c) ∧ w'.cell? ⟨G, 0, none⟩ = some (.int .i64 0) ∧ w'.cell? ⟨G, 1, none⟩ = some (.bool false) ∧ w'.cell? ⟨G, 2, none⟩ = some (.string ⟨#[]⟩) ∧ w'.cell? ⟨G, 3, none⟩ = some (.int .i64 0) ∧ w'.frozen? ⟨G, 0, none⟩ = false ∧ w'.frozen? ⟨G, 1, none⟩ = false ∧ w'.frozen? ⟨G, 2, none⟩ = false ∧ w'.frozen? ⟨G, 3, none⟩ = false) := by
        intro X bX
        refine (nt_text _ _ X (HN.out.below bX.out) (HTC.out.below bX.out)).mono ?_
        rintro e w' ⟨rfl, hb⟩
        have bb := bX.out.trans (hb.mono bX.out.size)
        exact ⟨by rw [HTT.out], bb, HC.out _ bb⟩
      have C1 : Hid (∀ X, Hid (Below wc.heap.size wc X) → Calls Tryz.prog 35 #[.bool true, .string T, .int .i64 x] X fun e w' => e = .returned (.tuple #[.agg #[.int .i64 (cc : Int), .bool nn, .string D, .int .i64 ee], .int .i64 er]) ∧ Hid (Below wc.heap.size wc w') ∧ w'.cell? ⟨w.heap.size, 1, none⟩ = some (.bool na) ∧ w'.cell? ⟨w.heap.size + 1, 1, none⟩ = some (.bool nb) ∧ w'.cell? ⟨H, 0, none⟩ = some (.bool true) ∧ w'.cell? ⟨H, 1, none⟩ = some (.slice o l c) ∧ w'.cell? ⟨G, 0, none⟩ = some (.int .i64 0) ∧ w'.cell? ⟨G, 1, none⟩ = some (.bool false) ∧ w'.cell? ⟨G, 2, none⟩ = some (.string ⟨#[]⟩) ∧ w'.cell? ⟨G, 3, none⟩ = some (.int .i64 0) ∧ w'.frozen? ⟨G, 0, none⟩ = false ∧ w'.frozen? ⟨G, 1, none⟩ = false ∧ w'.frozen? ⟨G, 2, none⟩ = false ∧ w'.frozen? ⟨G, 3, none⟩ = false) := by
        intro X bX
        refine (FI.out X).mono ?_
        rintro e w' ⟨rfl, hb⟩
        have bb := bX.out.trans (hb.mono bX.out.size)
        exact ⟨rfl, bb, HC.out _ bb⟩
      have BRF : Hid (∀ w', Below wc.heap.size wc w' → Below w.heap.size w w' ∧ Blk w' G #[.int .i64 0, .bool false, .string ⟨#[]⟩, .int .i64 0] 23) := fun w' hb => ⟨HB1.out.trans (hb.mono HB1.out.size), Br1.out.below hb Br1.out.lt⟩
      clear HC HN HTC HTT FI Ba1 Bb1 BT Br1 HB1
      go_wp2_with fail
      simp only [← HG.out]
      refine wp_region_held_drew (S := (fun w' => w'.cell? ⟨w.heap.size, 1, none⟩ = some (.bool na) ∧ w'.cell? ⟨w.heap.size + 1, 1, none⟩ = some (.bool nb) ∧ w'.cell? ⟨H, 0, none⟩ = some (.bool true) ∧ w'.cell? ⟨H, 1, none⟩ = some (.slice o l c))) (by kernel_rfl) ?_ (fun hHeld => ?_)
      · (try dsimp only)
        go_keep
      refine wpAnyH_take (i := 0) (oi := Oper.mk (some 20) _ _ _ _ _) (v := .pointer (some ⟨H, 0, none⟩)) rfl (by kernel_rfl) (by kernel_rfl) (by kernel_rfl) (fun _ _ _ h => h) (Or.inl ⟨by rfl, ?_⟩) (by assumption) ?_
      · intro wX hSw
        (try dsimp only at hSw)
        go_simp
      simp only [Act.put, List.setIfInBounds_toArray, List.set_cons_succ, List.set_cons_zero]
      refine wpAnyH_take (i := 1) (oi := Oper.mk (some 21) _ _ _ _ _) (v := .bool true) rfl (by kernel_rfl) (by kernel_rfl) (by kernel_rfl) (fun _ _ _ h => h) (Or.inl ⟨by rfl, ?_⟩) (by assumption) ?_
      · intro wX hSw
        (try dsimp only at hSw)
        go_simp
      simp only [Act.put, List.setIfInBounds_toArray, List.set_cons_succ, List.set_cons_zero]
      refine wpAnyH_take (i := 2) (oi := Oper.mk (some 22) _ _ _ _ _) (v := .bool true) rfl (by kernel_rfl) (by kernel_rfl) (by kernel_rfl) (fun _ _ _ h => h) (Or.inl ⟨by rfl, ?_⟩) (by assumption) ?_
      · intro wX hSw
        (try dsimp only at hSw)
        go_simp
      simp only [Act.put, List.setIfInBounds_toArray, List.set_cons_succ, List.set_cons_zero]
      refine wpAnyH_take (i := 3) (oi := Oper.mk (some 23) _ _ _ _ _) (v := undef) rfl (by kernel_rfl) (by kernel_rfl) (by kernel_rfl) (fun _ _ _ h => h) (Or.inr ⟨by rfl, rfl⟩) (by assumption) ?_
      simp only [Act.put, List.setIfInBounds_toArray, List.set_cons_succ, List.set_cons_zero]
      refine wpAnyH_take (i := 4) (oi := Oper.mk (some 24) _ _ _ _ _) (v := undef) rfl (by kernel_rfl) (by kernel_rfl) (by kernel_rfl) (fun _ _ _ h => h) (Or.inr ⟨by rfl, rfl⟩) (by assumption) ?_
      simp only [Act.put, List.setIfInBounds_toArray, List.set_cons_succ, List.set_cons_zero]
      refine wpAnyH_take (i := 5) (oi := Oper.mk (some 25) _ _ _ _ _) (v := undef) rfl (by kernel_rfl) (by kernel_rfl) (by kernel_rfl) (fun _ _ _ h => h) (Or.inr ⟨by rfl, rfl⟩) (by assumption) ?_
      simp only [Act.put, List.setIfInBounds_toArray, List.set_cons_succ, List.set_cons_zero]
      refine wpAnyH_take (i := 6) (oi := Oper.mk (some 26) _ _ _ _ _) (v := undef) rfl (by kernel_rfl) (by kernel_rfl) (by kernel_rfl) (fun _ _ _ h => h) (Or.inr ⟨by rfl, rfl⟩) (by assumption) ?_
      simp only [Act.put, List.setIfInBounds_toArray, List.set_cons_succ, List.set_cons_zero]
      refine wpAnyH_take (i := 7) (oi := Oper.mk (some 27) _ _ _ _ _) (v := undef) rfl (by kernel_rfl) (by kernel_rfl) (by kernel_rfl) (fun _ _ _ h => h) (Or.inr ⟨by rfl, rfl⟩) (by assumption) ?_
      simp only [Act.put, List.setIfInBounds_toArray, List.set_cons_succ, List.set_cons_zero]
      refine wpAnyH_take (i := 8) (oi := Oper.mk (some 28) _ _ _ _ _) (v := undef) rfl (by kernel_rfl) (by kernel_rfl) (by kernel_rfl) (fun _ _ _ h => h) (Or.inr ⟨by rfl, rfl⟩) (by assumption) ?_
      simp only [Act.put, List.setIfInBounds_toArray, List.set_cons_succ, List.set_cons_zero]
      refine wpAnyH_take (i := 9) (oi := Oper.mk (some 29) _ _ _ _ _) (v := .bool true) rfl (by kernel_rfl) (by kernel_rfl) (by kernel_rfl) (fun _ _ _ h => h) (Or.inl ⟨by rfl, ?_⟩) (by assumption) ?_
      · intro wX hSw
        (try dsimp only at hSw)
        go_simp
      simp only [Act.put, List.setIfInBounds_toArray, List.set_cons_succ, List.set_cons_zero]
      refine wpAnyH_take (i := 10) (oi := Oper.mk (some 30) _ _ _ _ _) (v := .pointer (some ⟨H, 1, none⟩)) rfl (by kernel_rfl) (by kernel_rfl) (by kernel_rfl) (fun _ _ _ h => h) (Or.inl ⟨by rfl, ?_⟩) (by assumption) ?_
      · intro wX hSw
        (try dsimp only at hSw)
        go_simp
      simp only [Act.put, List.setIfInBounds_toArray, List.set_cons_succ, List.set_cons_zero]
      refine wpAnyH_take (i := 11) (oi := Oper.mk (some 31) _ _ _ _ _) (v := .slice o l c) rfl (by kernel_rfl) (by kernel_rfl) (by kernel_rfl) (fun _ _ _ h => h) (Or.inl ⟨by rfl, ?_⟩) (by assumption) ?_
      · intro wX hSw
        (try dsimp only at hSw)
        go_simp
      simp only [Act.put, List.setIfInBounds_toArray, List.set_cons_succ, List.set_cons_zero]
      refine wpAnyH_take (i := 13) (oi := Oper.mk (some 33) _ _ _ _ _) (v := .int .i64 x) rfl (by kernel_rfl) (by kernel_rfl) (by kernel_rfl) (fun _ _ _ h => h) (Or.inl ⟨by rfl, ?_⟩) (by assumption) ?_
      · intro wX hSw
        (try dsimp only at hSw)
        go_simp
      simp only [Act.put, List.setIfInBounds_toArray, List.set_cons_succ, List.set_cons_zero]
      refine wpAnyH_ready (rs := [12]) (by kernel_rfl) (by simp) ?_
      refine AllReadyH.cons (o := Oper.mk (some 32) _ _ _ _ _) rfl (fun K hK => ?_) AllReadyH.nil
      go_simp
      refine (C0.out _ b0).mono ?_
      rintro e w1 ⟨rfl, b1, q0_0, q0_1, q0_2, q0_3, q0_4, q0_5, q0_6, q0_7, q0_8, q0_9, q0_10, q0_11⟩
      try simp only []
      refine hK.out _ _ ?_ (fun hHeld => ?_)
      · (try dsimp only)
        go_keep
      clear hK K
      refine wpAnyH_ready (rs := [14]) (by kernel_rfl) (by simp) ?_
      refine AllReadyH.cons (o := Oper.mk (some 34) _ _ _ _ _) rfl (fun K hK => ?_) AllReadyH.nil
      go_simp
      refine (C1.out _ b1).mono ?_
      rintro e w2 ⟨rfl, b2, q1_0, q1_1, q1_2, q1_3, q1_4, q1_5, q1_6, q1_7, q1_8, q1_9, q1_10, q1_11⟩
      try simp only []
      refine hK.out _ _ ?_ (fun hHeld => ?_)
      · (try dsimp only)
        go_keep
      clear hK K
      refine wpAnyH_take (i := 15) (oi := Oper.mk (some 35) _ _ _ _ _) (v := .agg #[.int .i64 (cc : Int), .bool nn, .string D, .int .i64 ee]) rfl (by kernel_rfl) (by kernel_rfl) (by kernel_rfl) (fun _ _ _ h => h) (Or.inl ⟨by rfl, ?_⟩) (by assumption) ?_
      · intro wX hSw
        (try dsimp only at hSw)
        go_simp
      simp only [Act.put, List.setIfInBounds_toArray, List.set_cons_succ, List.set_cons_zero]
      refine wpAnyH_take (i := 16) (oi := Oper.mk (some 36) _ _ _ _ _) (v := .int .i64 er) rfl (by kernel_rfl) (by kernel_rfl) (by kernel_rfl) (fun _ _ _ h => h) (Or.inl ⟨by rfl, ?_⟩) (by assumption) ?_
      · intro wX hSw
        (try dsimp only at hSw)
        go_simp
      simp only [Act.put, List.setIfInBounds_toArray, List.set_cons_succ, List.set_cons_zero]
      refine wpAnyH_ready (rs := [17]) (by kernel_rfl) (by simp) ?_
      refine AllReadyH.cons (o := Oper.mk none _ _ _ _ _) rfl (fun K hK => ?_) AllReadyH.nil
      go_simp
      refine hK.out _ _ ?_ (fun hHeld => ?_)
      · (try dsimp only)
        go_keep
      clear hK K
      refine wpAnyH_take (i := 18) (oi := Oper.mk (some 5) _ _ _ _ _) (v := .int .i64 er) rfl (by kernel_rfl) (by kernel_rfl) (by kernel_rfl) (fun _ _ _ h => h) (Or.inl ⟨by rfl, ?_⟩) (by assumption) ?_
      · intro wX hSw
        (try dsimp only at hSw)
        go_simp
      simp only [Act.put, List.setIfInBounds_toArray, List.set_cons_succ, List.set_cons_zero]
      refine wpAnyH_done (by kernel_rfl) ?_ _
      obtain ⟨hbel, hblk⟩ := BRF.out _ b2.out
      have HBL := hide hbel
      have QR := hide hblk
      clear hbel hblk BRF b0 b1 b2 C0 C1
      repeat (first | go_values | go_skip | go_guarded | go_step | go_upon)
      refine bodyPost_ret (results_dec2 rfl _ _ _ _ _ _ _ rfl (QR.out.put4 _ _ _ _)) rfl ?_
      exact ⟨EQ.out, below_put4 HBL.out gle _ _ _ _⟩

end Go.Proofs.YtafljhfamjabeaaGreatDoor
