/-
  What is meant by 'the numbers xs lie at the address ao': the words that the walks of package nat and of its reference are stated in.
-/
import Derived.WalkKit
import Derived.WalkSpells
namespace Go.Proofs.YtbfegnbaleclfaaGreatDoor
open Go.RowKit

theorem hide {p : Prop} (h : p) : Hid p := h

def At (k : IntKind) (w : World) (ao : Option Addr) (xs : List Nat) : Prop :=
  xs = [] ∨ ∃ b o, ao = some ⟨b, o, none⟩ ∧ b < w.heap.size ∧ ∀ i, i < xs.length → w.cell? ⟨b, o + i, none⟩ = some (.int k ((xs[i]?.getD 0 : Nat) : Int))

end Go.Proofs.YtbfegnbaleclfaaGreatDoor
