/-
  What whole.signed, whole.Make and whole.Neg do.
  What whole.Add, whole.Sub and whole.Mul do.
  What whole.Sub, Int.below and whole.Cmp do.
  What whole.DivMod does.
-/
import Derived.Test.YtifpacgacbpalaaGreatDoorNorm
import Derived.Test.YtifpacgacbpalaaGreatDoorZQ18
import Derived.Handy
import Derived.Test.YtifpacgacbpalaaGreatDoorZMul
import Derived.Test.YtifpacgacbpalaaGreatDoorSub
import Derived.Deep.RegionHeld3
import Derived.Test.YtifpacgacbpalaaGreatDoorZQ3
import Derived.Test.YtifpacgacbpalaaGreatDoorUint
namespace Go.Proofs.YtifpacgacbpalaaGreatDoor
open Go.RowKit

/-- The whole number of a sign and an amount. -/
def zv (neg : Bool) (n : Nat) : Int := if neg then -(n : Int) else (n : Int)

/-- A struct whole.Int. -/
def intV (neg : Bool) (v : Value) : Value := .agg #[.bool neg, v]

/-- What whole's functions answer: the number z in its one form, the amount in memory that holds nothing else. -/
def WPost (w : World) (m : Nat) (z : Int) (e : Ending) (w' : World) : Prop :=
  ∃ s v r, Hid (s = decide (z < 0)) ∧ e = .returned (.agg #[.bool s, v]) ∧ Own .u64 76 w' w.heap.size m v r ∧ Is B64 r z.natAbs ∧ Below w.heap.size w w'

theorem zv_abs (neg : Bool) (n : Nat) : (zv neg n).natAbs = n := by unfold zv; split <;> omega

theorem zv_neg (neg : Bool) (n : Nat) : zv (!neg) n = - zv neg n := by cases neg <;> simp [zv]

theorem zv_lt {neg : Bool} {n : Nat} {r : List Nat} (h : Is B64 r n) : decide (zv neg n < 0) = (neg && decide (0 < r.length)) := by
  cases neg
  · simp [zv]
  · have : (0 < r.length) ↔ n ≠ 0 := by
      constructor
      · intro h1 h2
        have := num_zero (by decide) h.2.1 (h.2.2.trans h2)
        rw [this] at h1; simp at h1
      · intro h1
        rcases hr : r with _ | ⟨x, t⟩
        · rw [hr] at h; exact absurd h.2.2.symm h1
        · simp
    simp only [zv, if_true, Bool.true_and]
    by_cases hn : n = 0
    · subst hn; simp [this]
    · rw [decide_eq_true (by omega), decide_eq_true (this.2 hn)]

set_option maxHeartbeats 400000 in
theorem signed_any (neg : Bool) (ao : Option Addr) (la ca : Nat) (w : World) :
    Calls Tryz.prog 118 #[.bool neg, .slice ao la ca] w fun e w' => e = .returned (.agg #[.bool (neg && decide (0 < la)), .slice ao la ca]) ∧ Below w.heap.size w w' := by
  cases neg
  · go_enter Tryz.func118, Tryz.ntmps118
    go_wp2
    go_returns
    exact ⟨rfl, (Below.refl _ _).alloc (Nat.le_refl _) _⟩
  · go_enter Tryz.func118, Tryz.ntmps118
    go_wp2
    go_returns
    exact ⟨by simp, (Below.refl _ _).alloc (Nat.le_refl _) _⟩

/-- A variable of two cells, in a block by itself. -/
def Pair (w : World) (b : Nat) (x y : Value) (t : TypeId) : Prop := w.heap[b]? = some (.cells #[x, y] t (0, 0))

section
variable {w w' : World} {b : Nat} {x y : Value} {t : TypeId}
theorem Pair.cell0 (h : Pair w b x y t) : w.cell? ⟨b, 0, none⟩ = some x := by unfold Pair at h; simp [World.cell?, h]
theorem Pair.cell1 (h : Pair w b x y t) : w.cell? ⟨b, 1, none⟩ = some y := by unfold Pair at h; simp [World.cell?, h]
theorem Pair.free (h : Pair w b x y t) (i : Nat) : w.frozen? ⟨b, i, none⟩ = false := by unfold Pair at h; simp [World.frozen?, h]
theorem Pair.new (w : World) (x y : Value) (t : TypeId) : Pair (w.alloc (.cells #[x, y] t)) w.heap.size x y t := heap_alloc_new _ _
theorem Pair.newAt (w : World) (n : Nat) (hn : w.heap.size = n) (x y : Value) (t : TypeId) : Pair (w.alloc (.cells #[x, y] t)) n x y t := by subst hn; exact Pair.new _ _ _ _
theorem Pair.lt (h : Pair w b x y t) : b < w.heap.size := lt_of_block h
theorem Pair.below (h : Pair w b x y t) {B : Nat} (hb : Below B w w') (hg : b < B) : Pair w' b x y t := by
  unfold Pair at *
  rw [hb.block b hg]; exact h
theorem Pair.alloc (h : Pair w b x y t) (o : Obj) : Pair (w.alloc o) b x y t := by
  have hlt := h.lt
  unfold Pair at *
  rw [Below.heap_alloc _ _ _ hlt]; exact h
theorem Pair.put (h : Pair w b x y t) (x' y' : Value) : Pair ((w.setCell ⟨b, 0, none⟩ x').setCell ⟨b, 1, none⟩ y') b x' y' t := by
  unfold Pair at *
  simp only [World.setCell, Array.getElem?_modify, if_true, h, Option.map_some]
  rfl
end

theorem load_pair (H : Nat) (x y : Value) (w : World) (hp : Pair w H x y 87) : (loadVar 87 ⟨H, 0, none⟩).run Tryz.prog w = .ok (.agg #[x, y]) w := by
  have c0 := hp.cell0
  have c1 := hp.cell1
  simp [go_sem, c0, c1]

theorem results_pair {fn : Func} {a : Tmp} (h : fn.results = #[.cell a 87]) (tmps : Array Value) (H : Nat) (x y : Value) (w : World) (ht : tmps.getD a undef = .pointer (some ⟨H, 0, none⟩)) (hp : Pair w H x y 87) :
    (results fn tmps).run Tryz.prog w = .ok (.agg #[x, y]) w := by
  have c0 := hp.cell0
  have c1 := hp.cell1
  rw [Array.getD_eq_getD_getElem?] at ht
  simp [results, h, ht, go_sem, c0, c1]

theorem Own.put {k : IntKind} {e : TypeId} {w : World} {base m : Nat} {v : Value} {xs : List Nat} (h : Own k e w base m v xs) {a : Addr} (ha : a.block < base) (u : Value) : Own k e (w.setCell a u) base m v xs := by
  rcases h with h | ⟨g, full, h1, h2, hr, h3⟩
  · exact .inl h
  · exact .inr ⟨g, full, h1, h2, hr.other (by omega) u, h3⟩

/-- At a return: the result's variable lies in block H. -/
theorem WPost.ret {w w2 : World} {m base H : Nat} {z : Int} {s : Bool} {v x y : Value} {r : List Nat} (hs : Hid (s = decide (z < 0))) (hown : Own .u64 76 w2 base m v r) (h1 : w.heap.size ≤ H) (h2 : H < base) (his : Is B64 r z.natAbs) (hb : Below w.heap.size w w2) :
    WPost w m z (.returned (.agg #[.bool s, v])) ((w2.setCell ⟨H, 0, none⟩ x).setCell ⟨H, 1, none⟩ y) :=
  ⟨s, v, r, hs, rfl, ((hown.put (by exact h2) _).put (by exact h2) _).mono (by omega) (Nat.le_refl _), his, (hb.setCell h1 _).setCell h1 _⟩

/-- signed, of a list that is new and without noughts on top. -/
theorem signed_is (neg : Bool) (n m base : Nat) (v : Value) (r : List Nat) (w : World) (hown : Own .u64 76 w base m v r) (his : Is B64 r n) :
    Calls Tryz.prog 118 #[.bool neg, v] w fun e w' => ∃ s, Hid (s = decide (zv neg n < 0)) ∧ e = .returned (.agg #[.bool s, v]) ∧ Own .u64 76 w' base m v r ∧ Below w.heap.size w w' := by
  obtain ⟨ao, cap, rfl, _, _, _⟩ := hown.shape
  refine (signed_any neg ao r.length cap w).mono ?_
  rintro e w' ⟨rfl, hb⟩
  exact ⟨_, (zv_lt his).symm, rfl, hown.below hb, hb⟩

set_option maxHeartbeats 400000 in
theorem make_any (neg : Bool) (ao : Option Addr) (la ca : Nat) (xs : List Nat) (w : World) (hla : la ≤ ca) (hca : ca ≤ 1000000000000) (hx : xs.length = la) (hax : At .u64 w ao xs) (ox : Ok B64 xs) :
    Calls Tryz.prog 93 #[.bool neg, .slice ao la ca] w (WPost w la (zv neg (num B64 xs))) := by
  go_enter Tryz.func93, Tryz.ntmps93
  go_wp2_with fail
  refine (norm_any ao la ca xs _ hla (by omega) hx (hax.alloc _) ox).mono ?_
  rintro e w1 ⟨v, r, rfl, hown, his, hb⟩
  go_wp2_with fail
  refine (signed_is neg (num B64 xs) la _ v r _ hown his).mono ?_
  rintro e w2 ⟨sg, hsg, rfl, hown2, hb2⟩
  have pr := ((Pair.new w (.bool false) (.slice none 0 0) 87).below hb (Pair.new w (.bool false) (.slice none 0 0) 87).lt)
  have pr2 := pr.below hb2 pr.lt
  have c0 := pr2.cell0
  have c1 := pr2.cell1
  have f0 := pr2.free 0
  have f1 := pr2.free 1
  clear pr
  have hs := hown2.shape
  obtain ⟨o1, cp, rfl, _, _, _⟩ := hs
  go_wp2
  refine bodyPost_ret (results_pair rfl _ _ _ _ _ rfl (pr2.put _ _)) rfl ?_
  exact WPost.ret hsg hown2 (Nat.le_refl _) (by simp) (by rw [zv_abs]; exact his) (((Below.refl _ _).alloc (Nat.le_refl _) _).trans ((hb.mono (by simp)).trans (hb2.mono (by have := hb.size; simp at this; omega))))

end Go.Proofs.YtifpacgacbpalaaGreatDoor

namespace Go.Proofs.YtifpacgacbpalaaGreatDoor
open Go.RowKit

theorem hideW {p : Prop} (h : p) : Hid p := h

set_option maxHeartbeats 1000000 in
theorem outward_any (na nb : Bool) (ao bo : Option Addr) (la ca lb cb : Nat) (xs ys : List Nat) (w : World) (hla : la ≤ ca) (hca : ca ≤ 10000000000) (hlb : lb ≤ cb) (hcb : cb ≤ 10000000000)
    (hx : xs.length = la) (hy : ys.length = lb) (hax : At .u64 w ao xs) (hay : At .u64 w bo ys) (ox : Ok B64 xs) (oy : Ok B64 ys) :
    Calls Tryz.prog 89 #[.agg #[.bool na, .slice ao la ca], .agg #[.bool nb, .slice bo lb cb]] w (WPost w (max la lb + 1) (zv na (num B64 xs + num B64 ys))) := by
  go_enter Tryz.func89, Tryz.ntmps89
  go_wp2
  have hb0 : Below w.heap.size w (((w.alloc (Obj.cells #[Value.bool na, Value.slice ao la ca] 87)).alloc (Obj.cells #[Value.bool nb, Value.slice bo lb cb] 87)).alloc (Obj.cells #[Value.bool false, Value.slice none 0 0] 87)) := (((Below.refl _ _).alloc (Nat.le_refl _) _).alloc (by simp) _).alloc (by simp; omega) _
  have pr0 := Pair.newAt ((w.alloc (Obj.cells #[Value.bool na, Value.slice ao la ca] 87)).alloc (Obj.cells #[Value.bool nb, Value.slice bo lb cb] 87)) (w.heap.size + 1 + 1) (by simp) (.bool false) (.slice none 0 0) 87
  have ax0 := ((hax.alloc (Obj.cells #[Value.bool na, Value.slice ao la ca] 87)).alloc (Obj.cells #[Value.bool nb, Value.slice bo lb cb] 87)).alloc (Obj.cells #[Value.bool false, Value.slice none 0 0] 87)
  have ay0 := ((hay.alloc (Obj.cells #[Value.bool na, Value.slice ao la ca] 87)).alloc (Obj.cells #[Value.bool nb, Value.slice bo lb cb] 87)).alloc (Obj.cells #[Value.bool false, Value.slice none 0 0] 87)
  have pa0 := ((Pair.new w (.bool na) (.slice ao la ca) 87).alloc (Obj.cells #[Value.bool nb, Value.slice bo lb cb] 87)).alloc (Obj.cells #[Value.bool false, Value.slice none 0 0] 87)
  have pb0 := (Pair.newAt (w.alloc (Obj.cells #[Value.bool na, Value.slice ao la ca] 87)) (w.heap.size + 1) (by simp) (.bool nb) (.slice bo lb cb) 87).alloc (Obj.cells #[Value.bool false, Value.slice none 0 0] 87)
  generalize (((w.alloc (Obj.cells #[Value.bool na, Value.slice ao la ca] 87)).alloc (Obj.cells #[Value.bool nb, Value.slice bo lb cb] 87)).alloc (Obj.cells #[Value.bool false, Value.slice none 0 0] 87)) = w0 at *
  obtain ⟨H2, e2⟩ : ∃ H, H = w.heap.size + 1 + 1 := ⟨_, rfl⟩
  obtain ⟨H1, e1⟩ : ∃ H, H = w.heap.size + 1 := ⟨_, rfl⟩
  obtain ⟨H0, e0⟩ : ∃ H, H = w.heap.size := ⟨_, rfl⟩
  rw [← e2] at pr0
  rw [← e1] at pb0
  rw [← e0] at pa0
  have n02 : H0 ≠ H2 := by omega
  have n12 : H1 ≠ H2 := by omega
  have n20 : H2 ≠ H0 := by omega
  have n21 : H2 ≠ H1 := by omega
  have HLE : Hid (w.heap.size ≤ H2) := by show _ ≤ _; omega
  have HLT : Hid (H2 < w0.heap.size) := pr0.lt
  simp only [← e2]
  simp only [← e1]
  simp only [← e0]
  clear e2 e1 e0
  have AD : Hid (∀ w1, Like w1 w0 → Calls Tryz.prog 119 #[.slice ao la ca, .slice bo lb cb] w1 fun e w' => ∃ o1 cp r, e = .returned (.slice o1 (List.length r) cp) ∧ Hid (Own .u64 76 w' w0.heap.size (max la lb + 1) (.slice o1 (List.length r) cp) r) ∧ Hid (Is B64 r (num B64 xs + num B64 ys)) ∧ Hid (Below w0.heap.size w0 w') ∧ w'.cell? ⟨H0, 0, none⟩ = some (.bool na) ∧ w'.cell? ⟨H0, 1, none⟩ = some (.slice ao la ca) ∧ w'.cell? ⟨H1, 0, none⟩ = some (.bool nb) ∧ w'.cell? ⟨H1, 1, none⟩ = some (.slice bo lb cb)) := by
    intro w1 hw
    refine (add_any ao bo la ca lb cb xs ys _ hla (by omega) hlb (by omega) hx hy (ax0.like hw) (ay0.like hw) ox oy).mono ?_
    rintro e w' ⟨v, r, rfl, hown, his, hb⟩
    obtain ⟨o1, cp, rfl, _, _, _⟩ := hown.shape
    have hb' : Below w0.heap.size w0 w' := by rw [hw.1] at hb; exact (Like.bel hw _).trans hb
    have pa := pa0.below hb' pa0.lt
    have pb := pb0.below hb' pb0.lt
    rw [hw.1] at hown
    exact ⟨o1, cp, r, rfl, hown, his, hb', pa.cell0, pa.cell1, pb.cell0, pb.cell1⟩
  have SG : Hid (∀ w1 w2 o1 cp r, Hid (Own .u64 76 w1 w0.heap.size (max la lb + 1) (.slice o1 (List.length r) cp) r) → Hid (Is B64 r (num B64 xs + num B64 ys)) → Hid (Below w0.heap.size w0 w1) → Like w2 w1 → Calls Tryz.prog 118 #[.bool na, .slice o1 (List.length r) cp] w2 fun e w' =>
      ∃ s, Hid (s = decide (zv na (num B64 xs + num B64 ys) < 0)) ∧ e = .returned (.agg #[.bool s, .slice o1 (List.length r) cp]) ∧ Hid (Own .u64 76 w' w0.heap.size (max la lb + 1) (.slice o1 (List.length r) cp) r) ∧ Hid (Below w0.heap.size w0 w') ∧ Hid (Pair w' H2 (.bool false) (.slice none 0 0) 87) ∧
        w'.cell? ⟨H2, 0, none⟩ = some (.bool false) ∧ w'.cell? ⟨H2, 1, none⟩ = some (.slice none 0 0) ∧ w'.frozen? ⟨H2, 0, none⟩ = false ∧ w'.frozen? ⟨H2, 1, none⟩ = false ∧ w'.cell? ⟨H0, 0, none⟩ = some (.bool na) ∧ w'.cell? ⟨H0, 1, none⟩ = some (.slice ao la ca) ∧ w'.cell? ⟨H1, 0, none⟩ = some (.bool nb) ∧ w'.cell? ⟨H1, 1, none⟩ = some (.slice bo lb cb)) := by
    intro w1 w2 o1 cp r hown his hb1 hw
    refine (signed_is _ _ _ _ _ r w2 (hown.out.below (by exact Like.bel hw _)) his.out).mono ?_
    rintro e w' ⟨s, hs, rfl, hown2, hb2⟩
    have hb' : Below w0.heap.size w0 w' := hb1.out.trans (((Like.bel hw _).trans (hb2.mono (by rw [hw.1]; exact hb1.out.size))))
    have pr := pr0.below hb' pr0.lt
    have pa := pa0.below hb' pa0.lt
    have pb := pb0.below hb' pb0.lt
    exact ⟨s, hs, rfl, hown2, hb', pr, pr.cell0, pr.cell1, pr.free 0, pr.free 1, pa.cell0, pa.cell1, pb.cell0, pb.cell1⟩
  have a0 := pa0.cell0
  have a1 := pa0.cell1
  have b0 := pb0.cell0
  have b1 := pb0.cell1
  have HP := hideW pr0
  have HB0 := hideW hb0
  clear pa0 pb0 pr0 ax0 ay0 hax hay ox oy hb0
  go_region_held3 (fun w' => w'.cell? ⟨H0, 0, none⟩ = some (.bool na) ∧ w'.cell? ⟨H0, 1, none⟩ = some (.slice ao la ca) ∧ w'.cell? ⟨H1, 0, none⟩ = some (.bool nb) ∧ w'.cell? ⟨H1, 1, none⟩ = some (.slice bo lb cb)) (go_keep) (first | (go_at_call 119; refine (AD.out _ (by exact ⟨rfl, rfl, rfl, rfl⟩)).mono ?_; rintro e w1 ⟨o1, cp, r, rfl, hown1, his, hb1, k0, k1, k2, k3⟩) | (go_at_call 118; refine (SG.out _ _ _ _ _ hown1 his hb1 (by exact ⟨rfl, rfl, rfl, rfl⟩)).mono ?_; rintro e w2 ⟨sg, hsg, rfl, hown, hb2, pr, c0, c1, f0, f1, m0, m1, m2, m3⟩))
  go_wp2
  refine bodyPost_ret (results_pair rfl _ _ _ _ _ rfl (pr.out.put _ _)) rfl ?_
  exact WPost.ret (H := H2) hsg hown.out HLE.out HLT.out (by rw [zv_abs]; exact his.out) (HB0.out.trans (hb2.out.mono HB0.out.size))

/-- The sum of numbers with two signs: what the greater amount leaves. -/
theorem inward_val {na nb : Bool} {x y : Nat} (h : na ≠ nb) : zv na x + zv nb y = if x < y then zv nb (y - x) else zv na (x - y) := by
  cases na <;> cases nb <;> simp [zv] at * <;> split <;> omega

theorem outward_val (na : Bool) (x y : Nat) : zv na x + zv na y = zv na (x + y) := by
  cases na <;> simp [zv] <;> omega

set_option maxHeartbeats 1000000 in
theorem inward_less (na nb : Bool) (ao bo : Option Addr) (la ca lb cb : Nat) (xs ys : List Nat) (w : World) (hla : la ≤ ca) (hca : ca ≤ 10000000000) (hlb : lb ≤ cb) (hcb : cb ≤ 10000000000)
    (hx : xs.length = la) (hy : ys.length = lb) (hax : At .u64 w ao xs) (hay : At .u64 w bo ys) (ox : Ok B64 xs) (oy : Ok B64 ys) (hlt : Hid (num B64 xs < num B64 ys)) :
    Calls Tryz.prog 90 #[.agg #[.bool na, .slice ao la ca], .agg #[.bool nb, .slice bo lb cb]] w (WPost w (max la lb + 1) (zv nb (num B64 ys - num B64 xs))) := by
  go_enter Tryz.func90, Tryz.ntmps90
  go_wp2_with fail
  have hb0 : Below w.heap.size w (((w.alloc (Obj.cells #[Value.bool na, Value.slice ao la ca] 87)).alloc (Obj.cells #[Value.bool nb, Value.slice bo lb cb] 87)).alloc (Obj.cells #[Value.bool false, Value.slice none 0 0] 87)) := (((Below.refl _ _).alloc (Nat.le_refl _) _).alloc (by simp) _).alloc (by simp; omega) _
  have pr0 := Pair.newAt ((w.alloc (Obj.cells #[Value.bool na, Value.slice ao la ca] 87)).alloc (Obj.cells #[Value.bool nb, Value.slice bo lb cb] 87)) (w.heap.size + 1 + 1) (by simp) (.bool false) (.slice none 0 0) 87
  have ax0 := ((hax.alloc (Obj.cells #[Value.bool na, Value.slice ao la ca] 87)).alloc (Obj.cells #[Value.bool nb, Value.slice bo lb cb] 87)).alloc (Obj.cells #[Value.bool false, Value.slice none 0 0] 87)
  have ay0 := ((hay.alloc (Obj.cells #[Value.bool na, Value.slice ao la ca] 87)).alloc (Obj.cells #[Value.bool nb, Value.slice bo lb cb] 87)).alloc (Obj.cells #[Value.bool false, Value.slice none 0 0] 87)
  have pa0 := ((Pair.new w (.bool na) (.slice ao la ca) 87).alloc (Obj.cells #[Value.bool nb, Value.slice bo lb cb] 87)).alloc (Obj.cells #[Value.bool false, Value.slice none 0 0] 87)
  have pb0 := (Pair.newAt (w.alloc (Obj.cells #[Value.bool na, Value.slice ao la ca] 87)) (w.heap.size + 1) (by simp) (.bool nb) (.slice bo lb cb) 87).alloc (Obj.cells #[Value.bool false, Value.slice none 0 0] 87)
  generalize (((w.alloc (Obj.cells #[Value.bool na, Value.slice ao la ca] 87)).alloc (Obj.cells #[Value.bool nb, Value.slice bo lb cb] 87)).alloc (Obj.cells #[Value.bool false, Value.slice none 0 0] 87)) = w0 at *
  refine (sub_any ao bo la ca lb cb xs ys _ hla (by omega) hlb (by omega) hx hy ax0 ay0 ox oy).mono ?_
  rintro e w1 ⟨v, r, rfl, hown, _, hb⟩
  rw [if_pos hlt.out]
  have pr1 := pr0.below hb pr0.lt
  have ax1 := ax0.below hb
  have ay1 := ay0.below hb
  have pa1 := pa0.below hb pa0.lt
  have pb1 := pb0.below hb pb0.lt
  have a0 := pa1.cell0; have a1 := pa1.cell1; have b0 := pb1.cell0; have b1 := pb1.cell1
  clear ax0 ay0
  obtain ⟨o0, c0', rfl, _, _, _⟩ := hown.shape
  clear hown
  go_wp2_with fail
  refine (sub_any bo ao lb cb la ca ys xs _ hlb (by omega) hla (by omega) hy hx ay1 ax1 oy ox).mono ?_
  rintro e w2 ⟨v, r, rfl, hown, his, hb1⟩
  rw [if_neg (by have := hlt.out; omega)]
  have pr2 := pr1.below hb1 pr1.lt
  have pb2 := pb1.below hb1 pb1.lt
  clear a0 a1 b0 b1
  have b0 := pb2.cell0
  obtain ⟨o3, c3, rfl, _, _, _⟩ := hown.shape
  go_wp2_with fail
  refine (signed_is nb (num B64 ys - num B64 xs) _ _ _ r _ hown his).mono ?_
  rintro e w3 ⟨sg, hsg, rfl, hown2, hb2⟩
  have pr := pr2.below hb2 pr2.lt
  have hz1 := hb.size
  clear b0
  have c0 := pr.cell0
  have c1 := pr.cell1
  have f0 := pr.free 0
  have f1 := pr.free 1
  have hlt0 := pr0.lt
  go_wp2
  refine bodyPost_ret (results_pair rfl _ _ _ _ _ rfl (pr.put _ _)) rfl ?_
  exact WPost.ret (H := w.heap.size + 1 + 1) hsg (hown2.mono (Nat.le_refl _) (by omega)) (by omega) (by omega) (by rw [zv_abs]; exact his) (hb0.trans ((hb.mono hb0.size).trans ((hb1.mono (Nat.le_trans hb0.size hb.size)).trans (hb2.mono (Nat.le_trans hb0.size (Nat.le_trans hb.size hb1.size))))))

set_option maxHeartbeats 1000000 in
theorem inward_more (na nb : Bool) (ao bo : Option Addr) (la ca lb cb : Nat) (xs ys : List Nat) (w : World) (hla : la ≤ ca) (hca : ca ≤ 10000000000) (hlb : lb ≤ cb) (hcb : cb ≤ 10000000000)
    (hx : xs.length = la) (hy : ys.length = lb) (hax : At .u64 w ao xs) (hay : At .u64 w bo ys) (ox : Ok B64 xs) (oy : Ok B64 ys) (hlt : Hid (¬ num B64 xs < num B64 ys)) :
    Calls Tryz.prog 90 #[.agg #[.bool na, .slice ao la ca], .agg #[.bool nb, .slice bo lb cb]] w (WPost w (max la lb + 1) (zv na (num B64 xs - num B64 ys))) := by
  go_enter Tryz.func90, Tryz.ntmps90
  go_wp2_with fail
  have hb0 : Below w.heap.size w (((w.alloc (Obj.cells #[Value.bool na, Value.slice ao la ca] 87)).alloc (Obj.cells #[Value.bool nb, Value.slice bo lb cb] 87)).alloc (Obj.cells #[Value.bool false, Value.slice none 0 0] 87)) := (((Below.refl _ _).alloc (Nat.le_refl _) _).alloc (by simp) _).alloc (by simp; omega) _
  have pr0 := Pair.newAt ((w.alloc (Obj.cells #[Value.bool na, Value.slice ao la ca] 87)).alloc (Obj.cells #[Value.bool nb, Value.slice bo lb cb] 87)) (w.heap.size + 1 + 1) (by simp) (.bool false) (.slice none 0 0) 87
  have ax0 := ((hax.alloc (Obj.cells #[Value.bool na, Value.slice ao la ca] 87)).alloc (Obj.cells #[Value.bool nb, Value.slice bo lb cb] 87)).alloc (Obj.cells #[Value.bool false, Value.slice none 0 0] 87)
  have ay0 := ((hay.alloc (Obj.cells #[Value.bool na, Value.slice ao la ca] 87)).alloc (Obj.cells #[Value.bool nb, Value.slice bo lb cb] 87)).alloc (Obj.cells #[Value.bool false, Value.slice none 0 0] 87)
  have pa0 := ((Pair.new w (.bool na) (.slice ao la ca) 87).alloc (Obj.cells #[Value.bool nb, Value.slice bo lb cb] 87)).alloc (Obj.cells #[Value.bool false, Value.slice none 0 0] 87)
  have pb0 := (Pair.newAt (w.alloc (Obj.cells #[Value.bool na, Value.slice ao la ca] 87)) (w.heap.size + 1) (by simp) (.bool nb) (.slice bo lb cb) 87).alloc (Obj.cells #[Value.bool false, Value.slice none 0 0] 87)
  generalize (((w.alloc (Obj.cells #[Value.bool na, Value.slice ao la ca] 87)).alloc (Obj.cells #[Value.bool nb, Value.slice bo lb cb] 87)).alloc (Obj.cells #[Value.bool false, Value.slice none 0 0] 87)) = w0 at *
  refine (sub_any ao bo la ca lb cb xs ys _ hla (by omega) hlb (by omega) hx hy ax0 ay0 ox oy).mono ?_
  rintro e w1 ⟨v, r, rfl, hown, his, hb⟩
  rw [if_neg hlt.out]
  have pr1 := pr0.below hb pr0.lt
  have pa1 := pa0.below hb pa0.lt
  have a0 := pa1.cell0
  clear ax0 ay0 pb0
  obtain ⟨o3, c3, rfl, _, _, _⟩ := hown.shape
  go_wp2_with fail
  refine (signed_is na (num B64 xs - num B64 ys) _ _ _ r _ hown his).mono ?_
  rintro e w3 ⟨sg, hsg, rfl, hown2, hb2⟩
  have pr := pr1.below hb2 pr1.lt
  clear a0
  have c0 := pr.cell0
  have c1 := pr.cell1
  have f0 := pr.free 0
  have f1 := pr.free 1
  have hlt0 := pr0.lt
  go_wp2
  refine bodyPost_ret (results_pair rfl _ _ _ _ _ rfl (pr.put _ _)) rfl ?_
  exact WPost.ret (H := w.heap.size + 1 + 1) hsg (hown2.mono (Nat.le_refl _) (by omega)) (by omega) (by omega) (by rw [zv_abs]; exact his) (hb0.trans ((hb.mono hb0.size).trans (hb2.mono (Nat.le_trans hb0.size hb.size))))

set_option maxHeartbeats 1000000 in
theorem addw_ff (na nb : Bool) (hn : na = false) (hm : nb = false) (ao bo : Option Addr) (la ca lb cb : Nat) (xs ys : List Nat) (w : World) (hla : la ≤ ca) (hca : ca ≤ 10000000000) (hlb : lb ≤ cb) (hcb : cb ≤ 10000000000)
    (hx : xs.length = la) (hy : ys.length = lb) (hax : At .u64 w ao xs) (hay : At .u64 w bo ys) (ox : Ok B64 xs) (oy : Ok B64 ys) :
    Calls Tryz.prog 67 #[.agg #[.bool na, .slice ao la ca], .agg #[.bool nb, .slice bo lb cb]] w (WPost w (max la lb + 1) (zv false (num B64 xs + num B64 ys))) := by
  subst hn hm
  go_enter Tryz.func67, Tryz.ntmps67
  go_wp2_with fail
  have hb0 : Below w.heap.size w (((w.alloc (Obj.cells #[Value.bool false, Value.slice ao la ca] 87)).alloc (Obj.cells #[Value.bool false, Value.slice bo lb cb] 87)).alloc (Obj.cells #[Value.bool false, Value.slice none 0 0] 87)) := (((Below.refl _ _).alloc (Nat.le_refl _) _).alloc (by simp) _).alloc (by simp; omega) _
  have pr0 := Pair.newAt ((w.alloc (Obj.cells #[Value.bool false, Value.slice ao la ca] 87)).alloc (Obj.cells #[Value.bool false, Value.slice bo lb cb] 87)) (w.heap.size + 1 + 1) (by simp) (.bool false) (.slice none 0 0) 87
  have ax0 := ((hax.alloc (Obj.cells #[Value.bool false, Value.slice ao la ca] 87)).alloc (Obj.cells #[Value.bool false, Value.slice bo lb cb] 87)).alloc (Obj.cells #[Value.bool false, Value.slice none 0 0] 87)
  have ay0 := ((hay.alloc (Obj.cells #[Value.bool false, Value.slice ao la ca] 87)).alloc (Obj.cells #[Value.bool false, Value.slice bo lb cb] 87)).alloc (Obj.cells #[Value.bool false, Value.slice none 0 0] 87)
  generalize (((w.alloc (Obj.cells #[Value.bool false, Value.slice ao la ca] 87)).alloc (Obj.cells #[Value.bool false, Value.slice bo lb cb] 87)).alloc (Obj.cells #[Value.bool false, Value.slice none 0 0] 87)) = w0 at *
  refine (outward_any false false ao bo la ca lb cb xs ys _ hla hca hlb hcb hx hy ax0 ay0 ox oy).mono ?_
  rintro e w1 ⟨sg, v, r, hsg, rfl, hown, his, hb⟩
  have pr := pr0.below hb pr0.lt
  have c0 := pr.cell0
  have c1 := pr.cell1
  have f0 := pr.free 0
  have f1 := pr.free 1
  have hlt0 := pr0.lt
  have hs := hown.shape
  obtain ⟨o1, cp, rfl, _, _, _⟩ := hs
  go_wp2
  refine bodyPost_ret (results_pair rfl _ _ _ _ _ rfl (pr.put _ _)) rfl ?_
  exact WPost.ret (H := w.heap.size + 1 + 1) hsg hown (by omega) (by omega) his (hb0.trans (hb.mono hb0.size))

set_option maxHeartbeats 1000000 in
theorem addw_tt (na nb : Bool) (hn : na = true) (hm : nb = true) (ao bo : Option Addr) (la ca lb cb : Nat) (xs ys : List Nat) (w : World) (hla : la ≤ ca) (hca : ca ≤ 10000000000) (hlb : lb ≤ cb) (hcb : cb ≤ 10000000000)
    (hx : xs.length = la) (hy : ys.length = lb) (hax : At .u64 w ao xs) (hay : At .u64 w bo ys) (ox : Ok B64 xs) (oy : Ok B64 ys) :
    Calls Tryz.prog 67 #[.agg #[.bool na, .slice ao la ca], .agg #[.bool nb, .slice bo lb cb]] w (WPost w (max la lb + 1) (zv true (num B64 xs + num B64 ys))) := by
  subst hn hm
  go_enter Tryz.func67, Tryz.ntmps67
  go_wp2_with fail
  have hb0 : Below w.heap.size w (((w.alloc (Obj.cells #[Value.bool true, Value.slice ao la ca] 87)).alloc (Obj.cells #[Value.bool true, Value.slice bo lb cb] 87)).alloc (Obj.cells #[Value.bool false, Value.slice none 0 0] 87)) := (((Below.refl _ _).alloc (Nat.le_refl _) _).alloc (by simp) _).alloc (by simp; omega) _
  have pr0 := Pair.newAt ((w.alloc (Obj.cells #[Value.bool true, Value.slice ao la ca] 87)).alloc (Obj.cells #[Value.bool true, Value.slice bo lb cb] 87)) (w.heap.size + 1 + 1) (by simp) (.bool false) (.slice none 0 0) 87
  have ax0 := ((hax.alloc (Obj.cells #[Value.bool true, Value.slice ao la ca] 87)).alloc (Obj.cells #[Value.bool true, Value.slice bo lb cb] 87)).alloc (Obj.cells #[Value.bool false, Value.slice none 0 0] 87)
  have ay0 := ((hay.alloc (Obj.cells #[Value.bool true, Value.slice ao la ca] 87)).alloc (Obj.cells #[Value.bool true, Value.slice bo lb cb] 87)).alloc (Obj.cells #[Value.bool false, Value.slice none 0 0] 87)
  generalize (((w.alloc (Obj.cells #[Value.bool true, Value.slice ao la ca] 87)).alloc (Obj.cells #[Value.bool true, Value.slice bo lb cb] 87)).alloc (Obj.cells #[Value.bool false, Value.slice none 0 0] 87)) = w0 at *
  refine (outward_any true true ao bo la ca lb cb xs ys _ hla hca hlb hcb hx hy ax0 ay0 ox oy).mono ?_
  rintro e w1 ⟨sg, v, r, hsg, rfl, hown, his, hb⟩
  have pr := pr0.below hb pr0.lt
  have c0 := pr.cell0
  have c1 := pr.cell1
  have f0 := pr.free 0
  have f1 := pr.free 1
  have hlt0 := pr0.lt
  have hs := hown.shape
  obtain ⟨o1, cp, rfl, _, _, _⟩ := hs
  go_wp2
  refine bodyPost_ret (results_pair rfl _ _ _ _ _ rfl (pr.put _ _)) rfl ?_
  exact WPost.ret (H := w.heap.size + 1 + 1) hsg hown (by omega) (by omega) his (hb0.trans (hb.mono hb0.size))

set_option maxHeartbeats 1000000 in
theorem addw_ft_less (na nb : Bool) (hn : na = false) (hm : nb = true) (ao bo : Option Addr) (la ca lb cb : Nat) (xs ys : List Nat) (w : World) (hla : la ≤ ca) (hca : ca ≤ 10000000000) (hlb : lb ≤ cb) (hcb : cb ≤ 10000000000)
    (hx : xs.length = la) (hy : ys.length = lb) (hax : At .u64 w ao xs) (hay : At .u64 w bo ys) (ox : Ok B64 xs) (oy : Ok B64 ys) (hlt : Hid (num B64 xs < num B64 ys)) :
    Calls Tryz.prog 67 #[.agg #[.bool na, .slice ao la ca], .agg #[.bool nb, .slice bo lb cb]] w (WPost w (max la lb + 1) (zv true (num B64 ys - num B64 xs))) := by
  subst hn hm
  go_enter Tryz.func67, Tryz.ntmps67
  go_wp2_with fail
  have hb0 : Below w.heap.size w (((w.alloc (Obj.cells #[Value.bool false, Value.slice ao la ca] 87)).alloc (Obj.cells #[Value.bool true, Value.slice bo lb cb] 87)).alloc (Obj.cells #[Value.bool false, Value.slice none 0 0] 87)) := (((Below.refl _ _).alloc (Nat.le_refl _) _).alloc (by simp) _).alloc (by simp; omega) _
  have pr0 := Pair.newAt ((w.alloc (Obj.cells #[Value.bool false, Value.slice ao la ca] 87)).alloc (Obj.cells #[Value.bool true, Value.slice bo lb cb] 87)) (w.heap.size + 1 + 1) (by simp) (.bool false) (.slice none 0 0) 87
  have ax0 := ((hax.alloc (Obj.cells #[Value.bool false, Value.slice ao la ca] 87)).alloc (Obj.cells #[Value.bool true, Value.slice bo lb cb] 87)).alloc (Obj.cells #[Value.bool false, Value.slice none 0 0] 87)
  have ay0 := ((hay.alloc (Obj.cells #[Value.bool false, Value.slice ao la ca] 87)).alloc (Obj.cells #[Value.bool true, Value.slice bo lb cb] 87)).alloc (Obj.cells #[Value.bool false, Value.slice none 0 0] 87)
  generalize (((w.alloc (Obj.cells #[Value.bool false, Value.slice ao la ca] 87)).alloc (Obj.cells #[Value.bool true, Value.slice bo lb cb] 87)).alloc (Obj.cells #[Value.bool false, Value.slice none 0 0] 87)) = w0 at *
  refine (inward_less false true ao bo la ca lb cb xs ys _ hla hca hlb hcb hx hy ax0 ay0 ox oy hlt).mono ?_
  rintro e w1 ⟨sg, v, r, hsg, rfl, hown, his, hb⟩
  have pr := pr0.below hb pr0.lt
  have c0 := pr.cell0
  have c1 := pr.cell1
  have f0 := pr.free 0
  have f1 := pr.free 1
  have hlt0 := pr0.lt
  have hs := hown.shape
  obtain ⟨o1, cp, rfl, _, _, _⟩ := hs
  go_wp2
  refine bodyPost_ret (results_pair rfl _ _ _ _ _ rfl (pr.put _ _)) rfl ?_
  exact WPost.ret (H := w.heap.size + 1 + 1) hsg hown (by omega) (by omega) his (hb0.trans (hb.mono hb0.size))

set_option maxHeartbeats 1000000 in
theorem addw_ft_more (na nb : Bool) (hn : na = false) (hm : nb = true) (ao bo : Option Addr) (la ca lb cb : Nat) (xs ys : List Nat) (w : World) (hla : la ≤ ca) (hca : ca ≤ 10000000000) (hlb : lb ≤ cb) (hcb : cb ≤ 10000000000)
    (hx : xs.length = la) (hy : ys.length = lb) (hax : At .u64 w ao xs) (hay : At .u64 w bo ys) (ox : Ok B64 xs) (oy : Ok B64 ys) (hlt : Hid (¬ num B64 xs < num B64 ys)) :
    Calls Tryz.prog 67 #[.agg #[.bool na, .slice ao la ca], .agg #[.bool nb, .slice bo lb cb]] w (WPost w (max la lb + 1) (zv false (num B64 xs - num B64 ys))) := by
  subst hn hm
  go_enter Tryz.func67, Tryz.ntmps67
  go_wp2_with fail
  have hb0 : Below w.heap.size w (((w.alloc (Obj.cells #[Value.bool false, Value.slice ao la ca] 87)).alloc (Obj.cells #[Value.bool true, Value.slice bo lb cb] 87)).alloc (Obj.cells #[Value.bool false, Value.slice none 0 0] 87)) := (((Below.refl _ _).alloc (Nat.le_refl _) _).alloc (by simp) _).alloc (by simp; omega) _
  have pr0 := Pair.newAt ((w.alloc (Obj.cells #[Value.bool false, Value.slice ao la ca] 87)).alloc (Obj.cells #[Value.bool true, Value.slice bo lb cb] 87)) (w.heap.size + 1 + 1) (by simp) (.bool false) (.slice none 0 0) 87
  have ax0 := ((hax.alloc (Obj.cells #[Value.bool false, Value.slice ao la ca] 87)).alloc (Obj.cells #[Value.bool true, Value.slice bo lb cb] 87)).alloc (Obj.cells #[Value.bool false, Value.slice none 0 0] 87)
  have ay0 := ((hay.alloc (Obj.cells #[Value.bool false, Value.slice ao la ca] 87)).alloc (Obj.cells #[Value.bool true, Value.slice bo lb cb] 87)).alloc (Obj.cells #[Value.bool false, Value.slice none 0 0] 87)
  generalize (((w.alloc (Obj.cells #[Value.bool false, Value.slice ao la ca] 87)).alloc (Obj.cells #[Value.bool true, Value.slice bo lb cb] 87)).alloc (Obj.cells #[Value.bool false, Value.slice none 0 0] 87)) = w0 at *
  refine (inward_more false true ao bo la ca lb cb xs ys _ hla hca hlb hcb hx hy ax0 ay0 ox oy hlt).mono ?_
  rintro e w1 ⟨sg, v, r, hsg, rfl, hown, his, hb⟩
  have pr := pr0.below hb pr0.lt
  have c0 := pr.cell0
  have c1 := pr.cell1
  have f0 := pr.free 0
  have f1 := pr.free 1
  have hlt0 := pr0.lt
  have hs := hown.shape
  obtain ⟨o1, cp, rfl, _, _, _⟩ := hs
  go_wp2
  refine bodyPost_ret (results_pair rfl _ _ _ _ _ rfl (pr.put _ _)) rfl ?_
  exact WPost.ret (H := w.heap.size + 1 + 1) hsg hown (by omega) (by omega) his (hb0.trans (hb.mono hb0.size))

set_option maxHeartbeats 1000000 in
theorem addw_tf_less (na nb : Bool) (hn : na = true) (hm : nb = false) (ao bo : Option Addr) (la ca lb cb : Nat) (xs ys : List Nat) (w : World) (hla : la ≤ ca) (hca : ca ≤ 10000000000) (hlb : lb ≤ cb) (hcb : cb ≤ 10000000000)
    (hx : xs.length = la) (hy : ys.length = lb) (hax : At .u64 w ao xs) (hay : At .u64 w bo ys) (ox : Ok B64 xs) (oy : Ok B64 ys) (hlt : Hid (num B64 xs < num B64 ys)) :
    Calls Tryz.prog 67 #[.agg #[.bool na, .slice ao la ca], .agg #[.bool nb, .slice bo lb cb]] w (WPost w (max la lb + 1) (zv false (num B64 ys - num B64 xs))) := by
  subst hn hm
  go_enter Tryz.func67, Tryz.ntmps67
  go_wp2_with fail
  have hb0 : Below w.heap.size w (((w.alloc (Obj.cells #[Value.bool true, Value.slice ao la ca] 87)).alloc (Obj.cells #[Value.bool false, Value.slice bo lb cb] 87)).alloc (Obj.cells #[Value.bool false, Value.slice none 0 0] 87)) := (((Below.refl _ _).alloc (Nat.le_refl _) _).alloc (by simp) _).alloc (by simp; omega) _
  have pr0 := Pair.newAt ((w.alloc (Obj.cells #[Value.bool true, Value.slice ao la ca] 87)).alloc (Obj.cells #[Value.bool false, Value.slice bo lb cb] 87)) (w.heap.size + 1 + 1) (by simp) (.bool false) (.slice none 0 0) 87
  have ax0 := ((hax.alloc (Obj.cells #[Value.bool true, Value.slice ao la ca] 87)).alloc (Obj.cells #[Value.bool false, Value.slice bo lb cb] 87)).alloc (Obj.cells #[Value.bool false, Value.slice none 0 0] 87)
  have ay0 := ((hay.alloc (Obj.cells #[Value.bool true, Value.slice ao la ca] 87)).alloc (Obj.cells #[Value.bool false, Value.slice bo lb cb] 87)).alloc (Obj.cells #[Value.bool false, Value.slice none 0 0] 87)
  generalize (((w.alloc (Obj.cells #[Value.bool true, Value.slice ao la ca] 87)).alloc (Obj.cells #[Value.bool false, Value.slice bo lb cb] 87)).alloc (Obj.cells #[Value.bool false, Value.slice none 0 0] 87)) = w0 at *
  refine (inward_less true false ao bo la ca lb cb xs ys _ hla hca hlb hcb hx hy ax0 ay0 ox oy hlt).mono ?_
  rintro e w1 ⟨sg, v, r, hsg, rfl, hown, his, hb⟩
  have pr := pr0.below hb pr0.lt
  have c0 := pr.cell0
  have c1 := pr.cell1
  have f0 := pr.free 0
  have f1 := pr.free 1
  have hlt0 := pr0.lt
  have hs := hown.shape
  obtain ⟨o1, cp, rfl, _, _, _⟩ := hs
  go_wp2
  refine bodyPost_ret (results_pair rfl _ _ _ _ _ rfl (pr.put _ _)) rfl ?_
  exact WPost.ret (H := w.heap.size + 1 + 1) hsg hown (by omega) (by omega) his (hb0.trans (hb.mono hb0.size))

set_option maxHeartbeats 1000000 in
theorem addw_tf_more (na nb : Bool) (hn : na = true) (hm : nb = false) (ao bo : Option Addr) (la ca lb cb : Nat) (xs ys : List Nat) (w : World) (hla : la ≤ ca) (hca : ca ≤ 10000000000) (hlb : lb ≤ cb) (hcb : cb ≤ 10000000000)
    (hx : xs.length = la) (hy : ys.length = lb) (hax : At .u64 w ao xs) (hay : At .u64 w bo ys) (ox : Ok B64 xs) (oy : Ok B64 ys) (hlt : Hid (¬ num B64 xs < num B64 ys)) :
    Calls Tryz.prog 67 #[.agg #[.bool na, .slice ao la ca], .agg #[.bool nb, .slice bo lb cb]] w (WPost w (max la lb + 1) (zv true (num B64 xs - num B64 ys))) := by
  subst hn hm
  go_enter Tryz.func67, Tryz.ntmps67
  go_wp2_with fail
  have hb0 : Below w.heap.size w (((w.alloc (Obj.cells #[Value.bool true, Value.slice ao la ca] 87)).alloc (Obj.cells #[Value.bool false, Value.slice bo lb cb] 87)).alloc (Obj.cells #[Value.bool false, Value.slice none 0 0] 87)) := (((Below.refl _ _).alloc (Nat.le_refl _) _).alloc (by simp) _).alloc (by simp; omega) _
  have pr0 := Pair.newAt ((w.alloc (Obj.cells #[Value.bool true, Value.slice ao la ca] 87)).alloc (Obj.cells #[Value.bool false, Value.slice bo lb cb] 87)) (w.heap.size + 1 + 1) (by simp) (.bool false) (.slice none 0 0) 87
  have ax0 := ((hax.alloc (Obj.cells #[Value.bool true, Value.slice ao la ca] 87)).alloc (Obj.cells #[Value.bool false, Value.slice bo lb cb] 87)).alloc (Obj.cells #[Value.bool false, Value.slice none 0 0] 87)
  have ay0 := ((hay.alloc (Obj.cells #[Value.bool true, Value.slice ao la ca] 87)).alloc (Obj.cells #[Value.bool false, Value.slice bo lb cb] 87)).alloc (Obj.cells #[Value.bool false, Value.slice none 0 0] 87)
  generalize (((w.alloc (Obj.cells #[Value.bool true, Value.slice ao la ca] 87)).alloc (Obj.cells #[Value.bool false, Value.slice bo lb cb] 87)).alloc (Obj.cells #[Value.bool false, Value.slice none 0 0] 87)) = w0 at *
  refine (inward_more true false ao bo la ca lb cb xs ys _ hla hca hlb hcb hx hy ax0 ay0 ox oy hlt).mono ?_
  rintro e w1 ⟨sg, v, r, hsg, rfl, hown, his, hb⟩
  have pr := pr0.below hb pr0.lt
  have c0 := pr.cell0
  have c1 := pr.cell1
  have f0 := pr.free 0
  have f1 := pr.free 1
  have hlt0 := pr0.lt
  have hs := hown.shape
  obtain ⟨o1, cp, rfl, _, _, _⟩ := hs
  go_wp2
  refine bodyPost_ret (results_pair rfl _ _ _ _ _ rfl (pr.put _ _)) rfl ?_
  exact WPost.ret (H := w.heap.size + 1 + 1) hsg hown (by omega) (by omega) his (hb0.trans (hb.mono hb0.size))

/-- The sum of any two whole numbers. -/
theorem addw_any (na nb : Bool) (ao bo : Option Addr) (la ca lb cb : Nat) (xs ys : List Nat) (w : World) (hla : la ≤ ca) (hca : ca ≤ 10000000000) (hlb : lb ≤ cb) (hcb : cb ≤ 10000000000)
    (hx : xs.length = la) (hy : ys.length = lb) (hax : At .u64 w ao xs) (hay : At .u64 w bo ys) (ox : Ok B64 xs) (oy : Ok B64 ys) :
    Calls Tryz.prog 67 #[.agg #[.bool na, .slice ao la ca], .agg #[.bool nb, .slice bo lb cb]] w (WPost w (max la lb + 1) (zv na (num B64 xs) + zv nb (num B64 ys))) := by
  by_cases h : na = nb
  · subst h
    rw [outward_val]
    cases na
    · exact addw_ff false false rfl rfl ao bo la ca lb cb xs ys w hla hca hlb hcb hx hy hax hay ox oy
    · exact addw_tt true true rfl rfl ao bo la ca lb cb xs ys w hla hca hlb hcb hx hy hax hay ox oy
  · rw [inward_val h]
    split
    · next hlt =>
      cases na <;> cases nb
      · exact absurd rfl h
      · exact addw_ft_less false true rfl rfl ao bo la ca lb cb xs ys w hla hca hlb hcb hx hy hax hay ox oy hlt
      · exact addw_tf_less true false rfl rfl ao bo la ca lb cb xs ys w hla hca hlb hcb hx hy hax hay ox oy hlt
      · exact absurd rfl h
    · next hlt =>
      cases na <;> cases nb
      · exact absurd rfl h
      · exact addw_ft_more false true rfl rfl ao bo la ca lb cb xs ys w hla hca hlb hcb hx hy hax hay ox oy hlt
      · exact addw_tf_more true false rfl rfl ao bo la ca lb cb xs ys w hla hca hlb hcb hx hy hax hay ox oy hlt
      · exact absurd rfl h

end Go.Proofs.YtifpacgacbpalaaGreatDoor

namespace Go.Proofs.YtifpacgacbpalaaGreatDoor
open Go.RowKit

theorem bits_pos {n : Nat} : 0 < bitsN n ↔ n ≠ 0 := by
  constructor
  · intro h e; subst e; simp [bitsN] at h
  · intro h
    obtain ⟨k, hk, _⟩ := bitsN_spec h
    omega

/-- How two whole numbers stand. -/
def cmpZ (x y : Int) : Int := if x < y then -1 else if y < x then 1 else 0

end Go.Proofs.YtifpacgacbpalaaGreatDoor

namespace Go.Proofs.YtifpacgacbpalaaGreatDoor
open Go.RowKit

theorem zvf (n : Nat) : zv false n = (n : Int) := by simp [zv]
theorem zvt (n : Nat) : zv true n = -(n : Int) := by simp [zv]
theorem b00 : (false != false) = false := rfl
theorem b01 : (false != true) = true := rfl
theorem b10 : (true != false) = true := rfl
theorem b11 : (true != true) = false := rfl

theorem edm_pos {a b q r : Int} (hb : 0 < b) (h : r + b * q = a) (h0 : 0 ≤ r) (hr : r < b) : a / b = q ∧ a % b = r := (Int.ediv_emod_unique hb).2 ⟨h, h0, hr⟩

theorem edm_neg {a b q r : Int} (hb : 0 < b) (h : r + b * q = a) (h0 : 0 ≤ r) (hr : r < b) : a / (-b) = -q ∧ a % (-b) = r := by
  rw [Int.ediv_neg, Int.emod_neg]
  obtain ⟨h1, h2⟩ := edm_pos hb h h0 hr
  exact ⟨by rw [h1], h2⟩

/-- Quotient and rest, where the dividend is not below 0, or nothing is left. -/
theorem wdiv_plain {na nb : Bool} {x y : Nat} (hy : y ≠ 0) (h : na = false ∨ x % y = 0) : zv na x / zv nb y = zv (na != nb) (x / y) ∧ zv na x % zv nb y = ((x % y : Nat) : Int) := by
  have e := Nat.div_add_mod x y
  have hlt := Nat.mod_lt x (show 0 < y by omega)
  have e' : ((x % y : Nat) : Int) + (y : Int) * ((x / y : Nat) : Int) = (x : Int) := by
    rw [← Int.natCast_mul, ← Int.natCast_add, Nat.add_comm, e]
  generalize x / y = q at *
  generalize x % y = r at *
  have hy' : (0 : Int) < (y : Int) := by omega
  cases na
  · cases nb
    · rw [b00, zvf, zvf, zvf]; exact edm_pos hy' e' (by omega) (by omega)
    · rw [b01, zvf, zvt, zvt]; exact edm_neg hy' e' (by omega) (by omega)
  · have hr : r = 0 := by rcases h with h | h; cases h; exact h
    subst hr
    have e2 : ((0 : Nat) : Int) + (y : Int) * (-(q : Int)) = -(x : Int) := by rw [Int.mul_neg]; omega
    cases nb
    · rw [b10, zvt, zvf, zvt]; exact edm_pos hy' e2 (by omega) (by omega)
    · have := edm_neg hy' e2 (by omega) (by omega)
      rw [b11, zvt, zvt, zvf]
      rw [Int.neg_neg] at this
      exact this

/-- Quotient and rest of a number below 0, where something is left. -/
theorem wdiv_left {nb : Bool} {x y : Nat} (hy : y ≠ 0) (h : x % y ≠ 0) : zv true x / zv nb y = zv (true != nb) (x / y + 1) ∧ zv true x % zv nb y = ((y - x % y : Nat) : Int) := by
  have e := Nat.div_add_mod x y
  have hlt := Nat.mod_lt x (show 0 < y by omega)
  have e' : ((x % y : Nat) : Int) + (y : Int) * ((x / y : Nat) : Int) = (x : Int) := by
    rw [← Int.natCast_mul, ← Int.natCast_add, Nat.add_comm, e]
  generalize x / y = q at *
  generalize x % y = r at *
  have hy' : (0 : Int) < (y : Int) := by omega
  have e2 : ((y - r : Nat) : Int) + (y : Int) * (-((q + 1 : Nat) : Int)) = -(x : Int) := by
    have : (y : Int) * (-((q + 1 : Nat) : Int)) = - ((y : Int) * (q : Int)) - (y : Int) := by
      rw [Int.mul_neg, Int.natCast_add, Int.mul_add]; simp; omega
    omega
  cases nb
  · rw [b10, zvt, zvf, zvt]; exact edm_pos hy' e2 (by omega) (by omega)
  · have := edm_neg hy' e2 (by omega) (by omega)
    rw [b11, zvt, zvt, zvf]
    rw [Int.neg_neg] at this
    exact this

theorem results_pairs {fn : Func} {a b c : Tmp} (h : fn.results = #[.cell a 87, .cell b 87, .tmp c]) (tmps : Array Value) (H K : Nat) (x y x' y' : Value) (w : World)
    (ht : tmps.getD a undef = .pointer (some ⟨H, 0, none⟩)) (hp : Pair w H x y 87) (hu : tmps.getD b undef = .pointer (some ⟨K, 0, none⟩)) (hq : Pair w K x' y' 87) :
    (results fn tmps).run Tryz.prog w = .ok (.tuple #[.agg #[x, y], .agg #[x', y'], tmps.getD c undef]) w := by
  have c0 := hp.cell0
  have c1 := hp.cell1
  have d0 := hq.cell0
  have d1 := hq.cell1
  rw [Array.getD_eq_getD_getElem?] at ht hu
  simp [results, h, ht, hu, go_sem, c0, c1, d0, d1]

/-- What whole.DivMod answers. -/
def WDPost (w : World) (m : Nat) (zq zr : Int) (err : Int) (e : Ending) (w' : World) : Prop :=
  ∃ s1 v1 r1 s2 v2 r2, Hid (s1 = decide (zq < 0)) ∧ Hid (s2 = decide (zr < 0)) ∧ e = .returned (.tuple #[.agg #[.bool s1, v1], .agg #[.bool s2, v2], .int .i64 err]) ∧
    Own .u64 76 w' w.heap.size m v1 r1 ∧ Own .u64 76 w' w.heap.size m v2 r2 ∧ Is B64 r1 zq.natAbs ∧ Is B64 r2 zr.natAbs ∧ Below w.heap.size w w'

theorem Pair.other {w : World} {b : Nat} {x y : Value} {t : TypeId} (h : Pair w b x y t) {a : Addr} (ha : b ≠ a.block) (u : Value) : Pair (w.setCell a u) b x y t := by
  unfold Pair at *
  rw [Below.heap_setCell _ _ _ _ ha]; exact h

theorem WDPost.ret {w w2 : World} {m base H K : Nat} {zq zr err : Int} {s1 s2 : Bool} {v1 v2 x y x' y' : Value} {r1 r2 : List Nat} (h1 : Hid (s1 = decide (zq < 0))) (h2 : Hid (s2 = decide (zr < 0)))
    (o1 : Own .u64 76 w2 base m v1 r1) (o2 : Own .u64 76 w2 base m v2 r2) (l1 : w.heap.size ≤ H) (l2 : H < base) (l3 : w.heap.size ≤ K) (l4 : K < base) (i1 : Is B64 r1 zq.natAbs) (i2 : Is B64 r2 zr.natAbs) (hb : Below w.heap.size w w2) :
    WDPost w m zq zr err (.returned (.tuple #[.agg #[.bool s1, v1], .agg #[.bool s2, v2], .int .i64 err])) ((((w2.setCell ⟨H, 0, none⟩ x).setCell ⟨H, 1, none⟩ y).setCell ⟨K, 0, none⟩ x').setCell ⟨K, 1, none⟩ y') :=
  ⟨s1, v1, r1, s2, v2, r2, h1, h2, rfl, ((((o1.put (by exact l2) _).put (by exact l2) _).put (by exact l4) _).put (by exact l4) _).mono (by omega) (Nat.le_refl _),
    ((((o2.put (by exact l2) _).put (by exact l2) _).put (by exact l4) _).put (by exact l4) _).mono (by omega) (Nat.le_refl _), i1, i2, (((hb.setCell l1 _).setCell l1 _).setCell l3 _).setCell l3 _⟩

end Go.Proofs.YtifpacgacbpalaaGreatDoor
