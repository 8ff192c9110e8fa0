/-
  What nat.Sub does: the difference, in memory of its own, or the error.
-/
import Derived.Test.YtckijnlolmbdiaaGreatDoorZAdd
namespace Go.Proofs.YtckijnlolmbdiaaGreatDoor
open Go.RowKit

/-- Behind i rounds: the row holds the difference's first i digits and noughts, the variable the borrow; nothing that was there has turned. -/
structure SubInv (w : World) (Bs : Nat) (n : Nat) (x y : Nat → Nat) (i : Nat) (wr : World) : Prop where
  bel : Below w.heap.size w wr
  row : ∃ r, Row .u64 120 wr w.heap.size r ∧ r.length = n ∧ (∀ j, j < i → dg r j = subD B64 x y j) ∧ (∀ j, i ≤ j → dg r j = 0)
  box : Box wr Bs (.slice (some ⟨w.heap.size, 0, none⟩) n n) 108
  car : Box wr (Bs + 1) (.int .u64 ((subC B64 x y i : Nat) : Int)) 120

theorem SubInv.step {w wr wr' : World} {Bs n i : Nat} {x y : Nat → Nat} (h : SubInv w Bs n x y i wr) (hB : w.heap.size < Bs) (hi : i < n)
    (ht : Two wr wr' w.heap.size (0 + i) (subD B64 x y i) (Bs + 1) (subC B64 x y (i + 1))) : SubInv w Bs n x y (i + 1) wr' := by
  obtain ⟨r, hr, hl, hlo, hhi⟩ := h.row
  rw [Nat.zero_add] at ht
  refine ⟨?_, ⟨r.set i (subD B64 x y i), ?_, by simp [hl], ?_, ?_⟩, ?_, ?_⟩
  · exact ht.below ((h.bel.setCell (Nat.le_refl _) _).setCell (by show _ ≤ Bs + 1; omega) _)
  · exact ((hr.set i _).other (by show _ ≠ Bs + 1; omega) _).alike ht
  · intro j hj
    rw [dg_set _ _ _ _ (by omega)]
    split
    · next e => rw [e]
    · exact hlo j (by omega)
  · intro j hj
    rw [dg_set _ _ _ _ (by omega), if_neg (by omega)]
    exact hhi j (by omega)
  · exact ((h.box.other (by show _ ≠ w.heap.size; omega) _).other (by show _ ≠ Bs + 1; omega) _).alike ht
  · exact ((h.car.other (by show _ ≠ w.heap.size; omega) _).set _).alike ht

end Go.Proofs.YtckijnlolmbdiaaGreatDoor
