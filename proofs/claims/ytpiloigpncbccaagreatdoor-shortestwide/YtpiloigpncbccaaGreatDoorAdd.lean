/-
  What nat.Add does: the sum, in memory of its own.
-/
import Derived.Test.YtpiloigpncbccaaGreatDoorAddM
import Derived.Test.YtpiloigpncbccaaGreatDoorCmp
namespace Go.Proofs.YtpiloigpncbccaaGreatDoor
open Go.RowKit

/-- Behind i rounds: the row holds the sum's first i digits and noughts, the variable the carry; nothing that was there has turned. -/
structure AddInv (w : World) (Bs : Nat) (n : Nat) (x y : Nat → Nat) (i : Nat) (wr : World) : Prop where
  bel : Below w.heap.size w wr
  row : ∃ r, Row .u64 22 wr w.heap.size r ∧ r.length = n + 1 ∧ (∀ j, j < i → dg r j = addD B64 x y j) ∧ (∀ j, i ≤ j → dg r j = 0)
  box : Box wr Bs (.slice (some ⟨w.heap.size, 0, none⟩) (n + 1) (n + 1)) 68
  car : Box wr (Bs + 1) (.int .u64 ((addC B64 x y i : Nat) : Int)) 22

theorem AddInv.step {w wr wr' : World} {Bs n i : Nat} {x y : Nat → Nat} (h : AddInv w Bs n x y i wr) (hB : w.heap.size < Bs) (hi : i < n)
    (ht : Two wr wr' w.heap.size (0 + i) (addD B64 x y i) (Bs + 1) (addC B64 x y (i + 1))) : AddInv w Bs n x y (i + 1) wr' := by
  obtain ⟨r, hr, hl, hlo, hhi⟩ := h.row
  rw [Nat.zero_add] at ht
  refine ⟨?_, ⟨r.set i (addD B64 x y i), ?_, by simp [hl], ?_, ?_⟩, ?_, ?_⟩
  · exact ht.below ((h.bel.setCell (Nat.le_refl _) _).setCell (by show _ ≤ Bs + 1; omega) _)
  · exact ((hr.set i _).other (by show _ ≠ Bs + 1; omega) _).alike ht
  · intro j hj
    rw [dg_set _ _ _ _ (by omega)]
    split
    · next e => rw [e]
    · exact hlo j (by omega)
  · intro j hj
    rw [dg_set _ _ _ _ (by omega), if_neg (by omega)]
    exact hhi j (by omega)
  · exact ((h.box.other (by show _ ≠ w.heap.size; omega) _).other (by show _ ≠ Bs + 1; omega) _).alike ht
  · exact ((h.car.other (by show _ ≠ w.heap.size; omega) _).set _).alike ht

/-- The row behind the last store is the sum. -/
theorem add_is {xs ys r r' : List Nat} {n : Nat} (hx : Ok B64 xs) (hy : Ok B64 ys) (hnx : xs.length ≤ n) (hny : ys.length ≤ n) (hl : r.length = n + 1)
    (hlo : ∀ j, j < n → dg r j = addD B64 (dg xs) (dg ys) j) (hr' : r' = r.set n (addC B64 (dg xs) (dg ys) n)) :
    Ok B64 r' ∧ num B64 r' = num B64 xs + num B64 ys := by
  have hb : 0 < B64 := by decide
  have hd : ∀ j, j < n → dg r' j = addD B64 (dg xs) (dg ys) j := by
    intro j hj
    rw [hr', dg_set _ _ _ _ (by omega), if_neg (by omega)]; exact hlo j hj
  have hn : dg r' n = addC B64 (dg xs) (dg ys) n := by rw [hr', dg_set _ _ _ _ (by omega), if_pos rfl]
  have hl' : r'.length = n + 1 := by rw [hr']; simp [hl]
  refine ⟨?_, ?_⟩
  · intro j
    rcases Nat.lt_trichotomy j n with h | h | h
    · rw [hd j h]; exact addD_lt hb _ _ _
    · rw [h, hn]; exact Nat.lt_of_le_of_lt (addC_le hx hy n) (by decide)
    · rw [dg_out (by omega)]; exact hb
  · have h := add_val B64 (dg xs) (dg ys) n
    rw [num_eq hnx, num_eq hny] at h
    rw [h]
    unfold num
    rw [hl']
    simp only [V]
    rw [hn, V_congr n hd]

end Go.Proofs.YtpiloigpncbccaaGreatDoor
