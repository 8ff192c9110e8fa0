/-
  What nat.Norm, nat.Of, nat.Uint and nat.Bits do.
-/
import Derived.Test.YtobloamnaemfnaaGreatDoorVAdd
import Derived.Test.YtobloamnaemfnaaGreatDoorVBits
import Derived.Laws.CopyOwn
namespace Go.Proofs.YtobloamnaemfnaaGreatDoor
open Go.RowKit

def NatPost (w : World) (m n : Nat) (e : Ending) (w' : World) : Prop :=
  ∃ v r, e = .returned v ∧ Own .u64 134 w' w.heap.size m v r ∧ Is B64 r n ∧ Below w.heap.size w w'

theorem sizeU : (Tryz.prog.info? 134).map (·.size) = some 1 := by kernel_rfl

theorem vals_get {k : IntKind} {xs : List Nat} {j : Nat} {v : Value} (h : (vals k xs)[j]? = some v) : j < xs.length ∧ v = .int k ((dg xs j : Nat) : Int) := by
  simp only [vals, List.getElem?_map, Option.map_eq_some_iff] at h
  obtain ⟨n, h1, h2⟩ := h
  have hj : j < xs.length := (List.getElem?_eq_some_iff.1 h1).1
  refine ⟨hj, ?_⟩
  rw [← h2]; simp [dg, h1]

theorem vals_one {k : IntKind} {xs : List Nat} : ∀ v ∈ vals k xs, v.oneCell' = true := by
  intro v hv
  simp only [vals, List.mem_map] at hv
  obtain ⟨n, _, rfl⟩ := hv
  rfl

theorem add_addr (b o j : Nat) : (⟨b, o, none⟩ : Addr).add j = ⟨b, o + j, none⟩ := by
  unfold Addr.add; split
  · next h => subst h; rfl
  · rfl

theorem splice_all (cur cs : List Value) (h : cs.length = cur.length) : splice cur 0 cs = cs := by
  unfold splice
  simp [h]

set_option maxHeartbeats 1000000 in
theorem norm_any (ao : Option Addr) (la ca : Nat) (xs : List Nat) (w : World) (hla : la ≤ ca) (hca : la ≤ 1000000000000 ∧ ca ≤ 9223372036854775807) (hx : xs.length = la) (hax : At .u64 w ao xs) (ox : Ok B64 xs) :
    Calls Tryz.prog 192 #[.slice ao la ca] w (NatPost w la (num B64 xs)) := by
  obtain ⟨xt, hxt⟩ : ∃ z, z = trimmed xs := ⟨_, rfl⟩
  obtain ⟨m, hm⟩ : ∃ m, m = xt.length := ⟨_, rfl⟩
  have hml : m ≤ la := by rw [hm, hxt, ← hx]; exact length_trimmed_le xs
  have axt : At .u64 w ao xt := by rw [hxt]; exact hax.trimmed
  have is : Is B64 xt (num B64 xs) := by rw [hxt]; exact Is.trimmed ox
  have t1 : (trimmed xs).length = m := by rw [hm, hxt]
  have HM : Hid (m = xt.length) := hm
  have T1 : Hid ((trimmed xs).length = m) := t1
  obtain ⟨i0, hi, hz0, hz1, hz2⟩ := info_parts Tryz.infoU
  clear hm hxt t1
  go_enter Tryz.func192, Tryz.ntmps192
  go_wp2_with fail
  refine (trim_to ao la ca m xs _ hla (by omega) hx hax T1.out).mono ?_
  rintro e w' ⟨rfl, rfl⟩
  go_wp2_with (at_make; refine wpList_make_full _ rfl _ _ 118 rfl w.heap.size 134 i0 (.int .u64 0) 1 Tryz.underlying118 hi hz0 hz1 _ _ _ _ m rfl rfl (by omega) (by omega) (by rw [hz2]; omega) (by unfold maxLen; omega) (Nat.le_refl _) ?_)
  intro w1 hown hgrow
  have hr1 : Row .u64 134 w1 w.heap.size (List.replicate m 0) := Row.made hown
  have hb1 : Below w.heap.size w w1 := (Below.refl _ _).grown hgrow (Nat.le_refl _) (fun k hk => by cases hk)
  clear hown hgrow
  go_wp2_with (refine wpList_copy_splice rfl (.tmp 9) (.tmp 10) 118 118 rfl 134 Tryz.underlying118 sizeU _ _ _ _ _ _ rfl rfl w.heap.size 0 (vals .u64 (List.replicate m 0)) 134 hr1 (vals .u64 xt) ?_ ?_ ?_ vals_one w.heap.size w hb1 (Nat.le_refl _) ?_)
  · rw [show (vals .u64 xt).length = m by rw [HM.out]; simp [vals]]; exact (Nat.min_self m).symm
  · intro h0
    rcases (axt.below hb1) with h | ⟨b, o, h1, h2, h3⟩
    · rw [h] at h0; simp [vals] at h0
    · refine ⟨_, h1, ?_⟩
      intro j v hv
      obtain ⟨hj, rfl⟩ := vals_get hv
      rw [add_addr]; exact h3 j hj
  · have := HM.out; simp [vals]; omega
  · intro w2 hh hb2
    rw [splice_all _ _ (by have := HM.out; simp [vals]; omega)] at hh
    go_wp2
    go_ret
    refine ⟨_, xt, rfl, .inr ⟨w.heap.size, xt, ?_, Nat.le_refl _, hh.out, by simp, by rw [← HM.out]; exact hml⟩, is, hb2⟩
    rw [← HM.out]; rfl

set_option maxHeartbeats 1000000 in
theorem of_any (x : Nat) (w : World) (hx : x < B64) :
    Calls Tryz.prog 190 #[.int .u64 (x : Int)] w (NatPost w 1 x) := by
  obtain ⟨q, hq⟩ : ∃ q, q = (trimmed [x]).length := ⟨_, rfl⟩
  have HQ : Hid ((trimmed [x]).length = q) := hq.symm
  have hrow : ∀ w' : World, w'.heap[w.heap.size]? = some (.cells #[.int .u64 (x : Int)] 134 (0, 0)) → Row .u64 134 w' w.heap.size [x] := fun w' h => h
  clear hq
  go_enter Tryz.func190, Tryz.ntmps190
  go_wp2_with fail
  have hr := hrow _ (heap_alloc_new w (.cells #[.int .u64 (x : Int)] 134))
  refine (trim_to _ 1 1 q [x] _ (Nat.le_refl _) (by omega) rfl hr.at HQ.out).mono ?_
  rintro e w' ⟨rfl, rfl⟩
  have hok : Ok B64 [x] := by
    intro i
    rcases i with _ | i
    · simpa [dg] using hx
    · rw [dg_out (by simp)]; decide
  go_wp2
  go_ret
  refine ⟨_, trimmed [x], rfl, .inr ⟨w.heap.size, [x], ?_, Nat.le_refl _, hr, ?_, by simp⟩, ?_, (Below.refl _ _).alloc (Nat.le_refl _) _⟩
  · rw [HQ.out]; rfl
  · rw [length_trimmed]; rfl
  · have := Is.trimmed hok
    simpa [num, V, dg] using this

end Go.Proofs.YtobloamnaemfnaaGreatDoor
