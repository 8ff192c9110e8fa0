/-
  What nat.Cmp does.
-/
import Derived.Test.YtobloamnaemfnaaGreatDoorVEach
namespace Go.Proofs.YtobloamnaemfnaaGreatDoor
open Go.RowKit

theorem At.limb {w : World} {ao : Option Addr} {xs : List Nat} (h : At .u64 w ao xs) (i : Nat) : LimbAt w ao xs.length i (xs[i]?.getD 0) := by
  refine ⟨fun hi => ?_, fun hi => by simp [hi]⟩
  rcases h with rfl | ⟨b, o, h1, _, h3⟩
  · simp at hi
  · exact ⟨b, o, h1, h3 i hi⟩

def cmpTo (xs ys : List Nat) : Nat → Int
  | 0 => 0
  | n + 1 => if xs[n]?.getD 0 < ys[n]?.getD 0 then -1 else if ys[n]?.getD 0 < xs[n]?.getD 0 then 1 else cmpTo xs ys n

set_option maxHeartbeats 400000 in
theorem cmp1 (i x y B : Nat) (c : Int) (w : World) (hc : w.cell? ⟨B, 0, none⟩ = some (.int .i64 c)) (hf : w.frozen? ⟨B, 0, none⟩ = false) :
    Calls Tryz.prog 236 #[.int .i64 i, .int .u64 (x : Int), .int .u64 (y : Int), .pointer (some ⟨B, 0, none⟩)] w fun e w' =>
      e = .returned (.tuple #[]) ∧ ((w' = w ∧ x = y) ∨ (w' = w.setCell ⟨B, 0, none⟩ (.int .i64 (if x < y then -1 else 1)) ∧ x ≠ y)) := by
  rcases Nat.lt_trichotomy x y with h | h | h
  · have h' : (x : Int) < (y : Int) := by omega
    go_enter Tryz.func236, Tryz.ntmps236
    go_wp2
    go_end0
    refine ⟨rfl, .inr ⟨by simp, by omega⟩⟩
  · have h' : ¬ (x : Int) < (y : Int) := by omega
    have h'' : ¬ (y : Int) < (x : Int) := by omega
    go_enter Tryz.func236, Tryz.ntmps236
    go_wp2
    go_end0
    exact ⟨rfl, rfl⟩
  · have h' : ¬ (x : Int) < (y : Int) := by omega
    have h'' : (y : Int) < (x : Int) := by omega
    go_enter Tryz.func236, Tryz.ntmps236
    go_wp2
    go_end0
    refine ⟨rfl, .inr ⟨by simp, by omega⟩⟩

def CmpInv (w : World) (c : Int) (wr : World) : Prop := Below w.heap.size w wr ∧ wr.heap[w.heap.size]? = some (.cells #[.int .i64 c] 3 (0, 0))

theorem CmpInv.step {w wr wr' : World} {xs ys : List Nat} {i : Nat} (h : CmpInv w (cmpTo xs ys i) wr)
    (hs : (wr' = wr ∧ xs[i]?.getD 0 = ys[i]?.getD 0) ∨ (wr' = wr.setCell ⟨w.heap.size, 0, none⟩ (.int .i64 (if xs[i]?.getD 0 < ys[i]?.getD 0 then -1 else 1)) ∧ xs[i]?.getD 0 ≠ ys[i]?.getD 0)) :
    CmpInv w (cmpTo xs ys (i + 1)) wr' := by
  rcases hs with ⟨rfl, e⟩ | ⟨rfl, e⟩
  · have : cmpTo xs ys (i + 1) = cmpTo xs ys i := by simp [cmpTo, e]
    rw [this]; exact h
  · refine ⟨h.1.setCell (Nat.le_refl _) _, ?_⟩
    rw [one_setCell h.2]
    congr 4
    simp only [cmpTo]
    split
    · rfl
    · rw [if_pos (by omega)]

set_option maxHeartbeats 1000000 in
theorem cmp_any (ao bo : Option Addr) (la ca lb cb : Nat) (xs ys : List Nat) (w : World) (hla : la ≤ 1000000000000) (hlb : lb ≤ 1000000000000) (hx : xs.length = la) (hy : ys.length = lb)
    (hax : At .u64 w ao xs) (hay : At .u64 w bo ys) :
    Calls Tryz.prog 209 #[.slice ao la ca, .slice bo lb cb] w fun e w' => e = .returned (.int .i64 (cmpTo xs ys (max la lb))) ∧ Below w.heap.size w w' := by
  go_enter Tryz.func209, Tryz.ntmps209
  go_wp2_with fail
  refine (each_any ao bo la ca lb cb 236 #[.pointer (some ⟨w.heap.size, 0, none⟩)] (fun i => xs[i]?.getD 0) (fun i => ys[i]?.getD 0) (fun i wr => CmpInv w (cmpTo xs ys i) wr) _ hla hlb enters236 ?_ ?_ ?_ ?_).mono ?_
  · intro i wr _ h
    subst hx
    exact (hax.below h.1).limb i
  · intro i wr _ h
    subst hy
    exact (hay.below h.1).limb i
  · intro i wr _ h
    refine (cmp1 i _ _ w.heap.size _ wr (cell_of_one h.2) (free_of_one h.2)).mono ?_
    rintro e w' ⟨rfl, hs⟩
    exact ⟨rfl, h.step hs⟩
  · refine ⟨(Below.refl _ _).alloc (Nat.le_refl _) _, ?_⟩
    exact heap_alloc_new _ _
  · rintro e w' ⟨rfl, h⟩
    have hcell := cell_of_one h.2
    go_wp2
    go_ret
    exact ⟨rfl, h.1⟩

end Go.Proofs.YtobloamnaemfnaaGreatDoor
