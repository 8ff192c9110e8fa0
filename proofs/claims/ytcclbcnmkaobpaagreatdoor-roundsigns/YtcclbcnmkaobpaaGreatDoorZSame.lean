/-
  What the reference's Same does: it tells whether two lists hold the same limbs.
-/
import Derived.Test.YtcclbcnmkaobpaaGreatDoorProg
import Derived.Test.YtcclbcnmkaobpaaGreatDoorZMem
import Derived.Deep.QuietTactic
import Derived.BigQuiet
import Derived.WalkSmall
namespace Go.Proofs.YtcclbcnmkaobpaaGreatDoor
open Go.RowKit

theorem same_step {xs ys : List Nat} (k : Nat) (h : ∀ i, i < k → xs[i]?.getD 0 = ys[i]?.getD 0) (hk : xs[k]?.getD 0 = ys[k]?.getD 0) : ∀ i, i < k + 1 → xs[i]?.getD 0 = ys[i]?.getD 0 := by
  intro i hi
  by_cases e : i = k
  · rw [e]; exact hk
  · exact h i (by omega)

theorem eq_of_getD {xs ys : List Nat} (hl : xs.length = ys.length) (h : ∀ i, i < xs.length → xs[i]?.getD 0 = ys[i]?.getD 0) : xs = ys := by
  apply List.ext_getElem hl
  intro i h1 h2
  have := h i h1
  simpa [h1, h2] using this

end Go.Proofs.YtcclbcnmkaobpaaGreatDoor
