/-
  nat.DivMod by nought and by one limb, whatever the dividend; literal lists, and what the numbers in them are.
  What nat.DivMod does, whatever the two numbers.
-/
import Derived.Test.YtifpacgacbpalabGreatDoorZLimb
import Derived.Test.YtifpacgacbpalabGreatDoorSub
import Derived.Test.YtifpacgacbpalabGreatDoorSame
import Derived.Test.YtifpacgacbpalabGreatDoorDown
import Derived.Test.YtifpacgacbpalabGreatDoorZLong
namespace Go.Proofs.YtifpacgacbpalabGreatDoor
open Go.RowKit

theorem num_one {b : Nat} {xs : List Nat} (h : xs.length = 1) : num b xs = dg xs 0 := by
  unfold num; rw [h]; simp [V]

theorem divmod_by_zero (ao bo : Option Addr) (la ca lb cb : Nat) (xs ys : List Nat) (w : World) (hla : la ≤ ca) (hca : la ≤ 10000000000 ∧ ca ≤ 9223372036854775807) (hlb : lb ≤ cb) (hcb : lb ≤ 10000000000 ∧ cb ≤ 9223372036854775807)
    (hx : xs.length = la) (hy : ys.length = lb) (hax : At .u64 w ao xs) (hay : At .u64 w bo ys) (h0 : num B64 ys = 0) :
    Calls Tryz.prog 91 #[.slice ao la ca, .slice bo lb cb] w (DivPost w 0 0 0 11) := by
  have hz : trimmed ys = [] := num_zero (b := B64) (by decide) (trimmed_top ys) (by rw [num_trimmed]; exact h0)
  exact divmod_zero ao bo la ca lb cb (trimmed xs).length w (fun w' h => trim_to ao la ca _ xs w' hla (by omega) hx (hax.same h) rfl) (fun w' h => trim_to bo lb cb 0 ys w' hlb (by omega) hy (hay.same h) (by rw [hz]; rfl))

theorem divmod_by_limb (ao bo : Option Addr) (la ca lb cb : Nat) (xs ys : List Nat) (w : World) (hla : la ≤ ca) (hca : la ≤ 10000000000 ∧ ca ≤ 9223372036854775807) (hlb : lb ≤ cb) (hcb : lb ≤ 10000000000 ∧ cb ≤ 9223372036854775807)
    (hx : xs.length = la) (hy : ys.length = lb) (hax : At .u64 w ao xs) (hay : At .u64 w bo ys) (ox : Ok B64 xs) (oy : Ok B64 ys) (h1 : (trimmed ys).length = 1) (h2 : 1 ≤ (trimmed xs).length) :
    Calls Tryz.prog 91 #[.slice ao la ca, .slice bo lb cb] w (DivPost w la (num B64 xs / num B64 ys) (num B64 xs % num B64 ys) 0) := by
  have l1 := length_trimmed_le xs
  rcases hay.trimmed with h | ⟨b, o, rfl, hb, hc⟩
  · rw [h] at h1; simp at h1
  · rcases hax.trimmed with h | ⟨b', o', rfl, hb', hc'⟩
    · rw [h] at h2; simp at h2
    · have hn : num B64 ys = dg (trimmed ys) 0 := by rw [← num_trimmed, num_one h1]
      have hpos : 0 < dg (trimmed ys) 0 := by
        have := trimmed_top ys 0 (by rw [h1]); omega
      have hlt : num B64 xs % num B64 ys < B64 := by
        rw [hn]; exact Nat.lt_trans (Nat.mod_lt _ hpos) (trimmed_ok oy 0)
      have c3 := divLimb_at b' o' (trimmed xs).length ca (dg (trimmed ys) 0) (trimmed xs) w (by omega) hpos (trimmed_ok oy 0) rfl hb' hc' (trimmed_ok ox)
      rw [num_trimmed, ← hn] at c3
      have hc0 := hc 0 (by omega)
      have hc0' : w.cell? ⟨b, o, none⟩ = some (.int .u64 ((num B64 ys : Nat) : Int)) := by rw [hn]; exact hc0
      have key := divmod_limb (some ⟨b', o', none⟩) b o la ca lb cb (trimmed xs).length _ _ (num B64 ys) w h2 (by omega) (fun w' h => trim_to _ la ca _ xs w' hla (by omega) hx (hax.same h) rfl)
        (fun w' h => trim_to _ lb cb 1 ys w' hlb (by omega) hy (hay.same h) h1) hc0' c3 hlt
      refine key.mono ?_
      rintro e w' ⟨v1, r1, v2, r2, e1, o1, o2, i1, i2, hb, hd⟩
      exact ⟨v1, r1, v2, r2, e1, o1.mono (Nat.le_refl _) (by omega), o2.mono (Nat.le_refl _) (by omega), i1, i2, hb, hd⟩

def okB (xs : List Nat) : Bool := xs.all fun x => decide (x < B64)

theorem ok_of {xs : List Nat} (h : okB xs = true) : Ok B64 xs := by
  intro i
  by_cases hi : i < xs.length
  · have := List.all_eq_true.1 h (xs[i]) (List.getElem_mem hi)
    simpa [dg, hi] using this
  · rw [dg_out (by omega)]; decide

theorem is_of (xs : List Nat) {n : Nat} (h : okB xs = true) (ht : trimmed xs = xs) (hn : num B64 xs = n) : Is B64 xs n := ⟨ok_of h, by rw [← ht]; exact trimmed_top xs, hn⟩

theorem own_lit {e : TypeId} {w : World} {base m n : Nat} {v : Value} {r : List Nat} (zs : List Nat) (L : Nat) (hL : zs.length = L) (h : Own .u64 e w base m v r) (his : Is B64 r n) (hz : Is B64 zs n) :
    ∃ ao cap, v = .slice ao L cap ∧ L ≤ cap ∧ cap ≤ m ∧ At .u64 w ao zs := by
  have e := his.uniq (by decide) hz
  subst e hL
  exact h.shape

theorem At.alloc {k : IntKind} {w : World} {ao : Option Addr} {xs : List Nat} (h : At k w ao xs) (o : Obj) : At k (w.alloc o) ao xs := h.below ((Below.refl _ _).alloc (Nat.le_refl _) o)

theorem lit_new (w : World) (n : Nat) (hn : w.heap.size = n) (xs : List Nat) : At .u64 (w.alloc (.cells (vals .u64 xs).toArray 88)) (some ⟨n, 0, none⟩) xs := by
  subst hn
  exact Row.at (k := .u64) (e := 88) (heap_alloc_new w _)

end Go.Proofs.YtifpacgacbpalabGreatDoor

namespace Go.Proofs.YtifpacgacbpalabGreatDoor
open Go.RowKit

set_option maxHeartbeats 1000000 in
theorem divmod_long (ao bo : Option Addr) (la ca lb cb m p n q r : Nat) (w : World) (hpm : p ≤ m) (hp : 2 ≤ p) (_hm : m ≤ 10000000000)
    (c1 : ∀ w' : World, w'.heap = w.heap → Calls Tryz.prog 63 #[.slice ao la ca] w' fun e w'' => e = .returned (.slice ao m ca) ∧ w' = w'')
    (c2 : ∀ w' : World, w'.heap = w.heap → Calls Tryz.prog 63 #[.slice bo lb cb] w' fun e w'' => e = .returned (.slice bo p cb) ∧ w' = w'')
    (c3 : Calls Tryz.prog 117 #[.slice ao m ca, .slice bo p cb] w (LongPost w n q r)) :
    Calls Tryz.prog 91 #[.slice ao la ca, .slice bo lb cb] w (DivPost w n q r 0) := by
  have C1 : Hid (∀ w' : World, w'.heap = w.heap → Calls Tryz.prog 63 #[.slice ao la ca] w' fun e w'' => e = .returned (.slice ao m ca) ∧ w' = w'') := c1
  have C2 : Hid (∀ w' : World, w'.heap = w.heap → Calls Tryz.prog 63 #[.slice bo lb cb] w' fun e w'' => e = .returned (.slice bo p cb) ∧ w' = w'') := c2
  have C3 : Hid (Calls Tryz.prog 117 #[.slice ao m ca, .slice bo p cb] w (LongPost w n q r)) := c3
  have n1 : ((p : Int) == 0) = false := by rw [beq_eq_false_iff_ne]; omega
  have n2 : ¬ (m : Int) < (p : Int) := by omega
  have n3 : ((p : Int) == 1) = false := by rw [beq_eq_false_iff_ne]; omega
  clear c1 c2 c3
  go_enter Tryz.func91, Tryz.ntmps91
  go_wp2_with fail
  refine (C1.out _ rfl).mono ?_
  rintro e w' ⟨rfl, rfl⟩
  go_wp2_with fail
  refine (C2.out _ rfl).mono ?_
  rintro e w' ⟨rfl, rfl⟩
  go_wp2_with fail
  refine C3.out.mono ?_
  rintro e w1 ⟨v1, r1, v2, r2, rfl, o1, o2, i1, i2, hb, hne⟩
  go_wp2
  go_ret3
  exact ⟨v1, r1, v2, r2, rfl, o1, o2, i1, i2, hb, hne⟩

/-- Where the divisor is not nought: quotient and rest, in memory of their own. -/
theorem divmod_any (ao bo : Option Addr) (la ca lb cb : Nat) (xs ys : List Nat) (w : World) (hla : la ≤ ca) (hca : la ≤ 100000000 ∧ ca ≤ 9223372036854775807) (hlb : lb ≤ cb) (hcb : lb ≤ 100000000 ∧ cb ≤ 9223372036854775807)
    (hx : xs.length = la) (hy : ys.length = lb) (hax : At .u64 w ao xs) (hay : At .u64 w bo ys) (ox : Ok B64 xs) (oy : Ok B64 ys) (h0 : num B64 ys ≠ 0) :
    Calls Tryz.prog 91 #[.slice ao la ca, .slice bo lb cb] w (DivPost w la (num B64 xs / num B64 ys) (num B64 xs % num B64 ys) 0) := by
  have hb0 : 0 < B64 := by decide
  have l1 := length_trimmed_le xs
  have l2 := length_trimmed_le ys
  have c1 : ∀ w' : World, w'.heap = w.heap → Calls Tryz.prog 63 #[.slice ao la ca] w' fun e w'' => e = .returned (.slice ao (trimmed xs).length ca) ∧ w' = w'' := fun w' h => trim_to _ la ca _ xs w' hla (by omega) hx (hax.same h) rfl
  have c2 : ∀ w' : World, w'.heap = w.heap → Calls Tryz.prog 63 #[.slice bo lb cb] w' fun e w'' => e = .returned (.slice bo (trimmed ys).length cb) ∧ w' = w'' := fun w' h => trim_to _ lb cb _ ys w' hlb (by omega) hy (hay.same h) rfl
  have wide : ∀ {m q r : Nat}, m ≤ la → ∀ e w', DivPost w m q r 0 e w' → DivPost w la q r 0 e w' := by
    rintro m q r hm e w' ⟨v1, r1, v2, r2, e1, o1, o2, i1, i2, hb, hd⟩
    exact ⟨v1, r1, v2, r2, e1, o1.mono (Nat.le_refl _) hm, o2.mono (Nat.le_refl _) hm, i1, i2, hb, hd⟩
  have p0 : (trimmed ys).length ≠ 0 := fun h => h0 (by rw [← num_trimmed, List.length_eq_zero_iff.1 h]; rfl)
  by_cases hlt : (trimmed xs).length < (trimmed ys).length
  · have nl : num B64 xs < num B64 ys := by
      rcases hn : (trimmed ys).length with _ | n
      · exact absurd hn p0
      · have a1 := num_lt (trimmed_ok ox)
        have a2 := num_ge (b := B64) (trimmed_top ys) hn
        have a3 := Nat.pow_le_pow_right hb0 (show (trimmed xs).length ≤ n by omega)
        rw [num_trimmed] at a1 a2
        omega
    have c3 := norm_any ao (trimmed xs).length ca (trimmed xs) w (by omega) (by omega) rfl hax.trimmed (trimmed_ok ox)
    have key := divmod_less ao bo la ca lb cb _ _ (num B64 xs) w hlt (by omega) c1 c2 (by rw [num_trimmed] at c3; exact c3)
    rw [Nat.div_eq_of_lt nl, Nat.mod_eq_of_lt nl]
    exact key.mono (wide (by omega))
  · by_cases h1 : (trimmed ys).length = 1
    · exact divmod_by_limb ao bo la ca lb cb xs ys w hla (by omega) hlb (by omega) hx hy hax hay ox oy h1 (by omega)
    · obtain ⟨p, hp⟩ : ∃ p, (trimmed ys).length = p + 2 := ⟨(trimmed ys).length - 2, by omega⟩
      have c3 := divLong_at ao bo (trimmed xs).length ca (trimmed ys).length cb p ((trimmed xs).length - (trimmed ys).length) (trimmed xs) (trimmed ys) w hp (by omega) (by omega) rfl rfl hax.trimmed hay.trimmed (trimmed_ok ox) (trimmed_ok oy) (trimmed_top ys (p + 1) hp)
      rw [num_trimmed, num_trimmed] at c3
      exact (divmod_long ao bo la ca lb cb _ _ _ _ _ w (by omega) (by omega) (by omega) c1 c2 c3).mono (wide (by omega))

end Go.Proofs.YtifpacgacbpalabGreatDoor
