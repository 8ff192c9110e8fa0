/-
  Slices that a call answers in memory of its own, and what number they are; trim once more, in these words.
-/
import Derived.Test.YtionbkmbhhlmjaaGreatDoorXTrim
import Derived.Test.YtionbkmbhhlmjaaGreatDoorXCarry
namespace Go.Proofs.YtionbkmbhhlmjaaGreatDoor
open Go.RowKit

def Is (b : Nat) (xs : List Nat) (n : Nat) : Prop := Ok b xs ∧ Top xs ∧ num b xs = n

theorem Is.trimmed {b : Nat} {xs : List Nat} (h : Ok b xs) : Is b (trimmed xs) (num b xs) := ⟨trimmed_ok h, trimmed_top xs, num_trimmed b xs⟩

theorem Is.none {b : Nat} (hb : 0 < b) : Is b [] 0 := ⟨fun i => by simpa [dg] using hb, fun n hn => by simp at hn, rfl⟩

section
variable {k : IntKind} {e : TypeId} {w w' : World} {base m : Nat} {v : Value} {xs : List Nat}

end

theorem length_trimmed_le (xs : List Nat) : (trimmed xs).length ≤ xs.length := by rw [length_trimmed]; exact tops_le _ _

theorem At.trimmed {k : IntKind} {w : World} {ao : Option Addr} {xs : List Nat} (h : At k w ao xs) : At k w ao (trimmed xs) := h.take _

end Go.Proofs.YtionbkmbhhlmjaaGreatDoor
