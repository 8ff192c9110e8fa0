/-
  What nat.Cmp does.
-/
import Derived.Test.YtafljhfamjabeaaGreatDoorZEach
namespace Go.Proofs.YtafljhfamjabeaaGreatDoor
open Go.RowKit

theorem At.limb {w : World} {ao : Option Addr} {xs : List Nat} (h : At .u64 w ao xs) (i : Nat) : LimbAt w ao xs.length i (xs[i]?.getD 0) := by
  refine ⟨fun hi => ?_, fun hi => by simp [hi]⟩
  rcases h with rfl | ⟨b, o, h1, _, h3⟩
  · simp at hi
  · exact ⟨b, o, h1, h3 i hi⟩

/-- How the lowest n limbs stand: the last pair that differs tells. -/
def cmpTo (xs ys : List Nat) : Nat → Int
  | 0 => 0
  | n + 1 => if xs[n]?.getD 0 < ys[n]?.getD 0 then -1 else if ys[n]?.getD 0 < xs[n]?.getD 0 then 1 else cmpTo xs ys n

/-- Cmp's variable, in a block of its own, holds c; nothing below it has turned. -/
def CmpInv (w : World) (c : Int) (wr : World) : Prop := Below w.heap.size w wr ∧ wr.heap[w.heap.size]? = some (.cells #[.int .i64 c] 3 (0, 0))

theorem CmpInv.step {w wr wr' : World} {xs ys : List Nat} {i : Nat} (h : CmpInv w (cmpTo xs ys i) wr)
    (hs : (wr' = wr ∧ xs[i]?.getD 0 = ys[i]?.getD 0) ∨ (wr' = wr.setCell ⟨w.heap.size, 0, none⟩ (.int .i64 (if xs[i]?.getD 0 < ys[i]?.getD 0 then -1 else 1)) ∧ xs[i]?.getD 0 ≠ ys[i]?.getD 0)) :
    CmpInv w (cmpTo xs ys (i + 1)) wr' := by
  rcases hs with ⟨rfl, e⟩ | ⟨rfl, e⟩
  · have : cmpTo xs ys (i + 1) = cmpTo xs ys i := by simp [cmpTo, e]
    rw [this]; exact h
  · refine ⟨h.1.setCell (Nat.le_refl _) _, ?_⟩
    rw [one_setCell h.2]
    congr 4
    simp only [cmpTo]
    split
    · rfl
    · rw [if_pos (by omega)]

end Go.Proofs.YtafljhfamjabeaaGreatDoor
