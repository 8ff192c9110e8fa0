/-
  Two lists of one number are one list.
-/
import Derived.Test.YtnlnjdieajdgfabDoorOwn
namespace Go.Proofs.YtnlnjdieajdgfabDoor

theorem Is.same {xs ys : List Nat} {n m : Nat} (hx : Is B64 xs n) (hy : Is B64 ys m) (h : n = m) : xs = ys := by
  subst h
  exact hx.uniq (by decide) hy

end Go.Proofs.YtnlnjdieajdgfabDoor
