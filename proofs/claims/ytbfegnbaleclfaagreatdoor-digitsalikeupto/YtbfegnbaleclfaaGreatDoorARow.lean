/-
  A row of numbers in a block of the call's own: read, written, kept.
-/
import Derived.Test.YtbfegnbaleclfaaGreatDoorANum
namespace Go.Proofs.YtbfegnbaleclfaaGreatDoor
open Go.RowKit

def vals (k : IntKind) (xs : List Nat) : List Value := xs.map fun (n : Nat) => Value.int k (n : Int)

section
variable {k : IntKind} {e : TypeId} {w w' : World} {g : Nat} {xs : List Nat}

end

section
variable {w w' : World} {b : Nat} {v u : Value} {t : TypeId}
end

end Go.Proofs.YtbfegnbaleclfaaGreatDoor
