/-
  What is meant by 'the numbers xs lie at the address ao': the words that the walks of package nat and of its reference are stated in.
-/
import Derived.WalkKit
import Derived.WalkSpells
namespace Go.Proofs.YtionbkmbhhlmjaaGreatDoor
open Go.RowKit

theorem hide {p : Prop} (h : p) : Hid p := h

def At (k : IntKind) (w : World) (ao : Option Addr) (xs : List Nat) : Prop :=
  xs = [] ∨ ∃ b o, ao = some ⟨b, o, none⟩ ∧ b < w.heap.size ∧ ∀ i, i < xs.length → w.cell? ⟨b, o + i, none⟩ = some (.int k ((xs[i]?.getD 0 : Nat) : Int))

theorem At.nil (k : IntKind) (w : World) (ao : Option Addr) : At k w ao [] := .inl rfl

theorem At.below {k : IntKind} {w w' : World} {ao : Option Addr} {xs : List Nat} (h : At k w ao xs) (hb : Below w.heap.size w w') : At k w' ao xs := by
  rcases h with h | ⟨b, o, h1, h2, h3⟩
  · exact .inl h
  · exact .inr ⟨b, o, h1, Nat.lt_of_lt_of_le h2 hb.size, fun i hi => (hb.cell h2).trans (h3 i hi)⟩

theorem At.take {k : IntKind} {w : World} {ao : Option Addr} {xs : List Nat} (h : At k w ao xs) (n : Nat) : At k w ao (xs.take n) := by
  rcases h with h | ⟨b, o, h1, h2, h3⟩
  · left; simp [h]
  · refine .inr ⟨b, o, h1, h2, fun i hi => ?_⟩
    simp only [List.length_take] at hi
    rw [h3 i (by omega), List.getElem?_take_of_lt (by omega)]

def tops (xs : List Nat) : Nat → Nat
  | 0 => 0
  | n + 1 => if xs[n]?.getD 0 = 0 then tops xs n else n + 1

theorem tops_le (xs : List Nat) (n : Nat) : tops xs n ≤ n := by
  induction n with
  | zero => simp [tops]
  | succ n ih => simp only [tops]; split <;> omega

def trimmed (xs : List Nat) : List Nat := xs.take (tops xs xs.length)

theorem length_trimmed (xs : List Nat) : (trimmed xs).length = tops xs xs.length := by
  have := tops_le xs xs.length
  simp [trimmed]; omega

end Go.Proofs.YtionbkmbhhlmjaaGreatDoor
