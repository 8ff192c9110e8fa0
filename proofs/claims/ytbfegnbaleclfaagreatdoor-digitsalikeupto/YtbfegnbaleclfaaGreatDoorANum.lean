/-
  Plain mathematics: numbers in digits of a base b, the lowest first: their value, that one value has one list without noughts on top, and how two stand.
-/
import Derived.Test.YtbfegnbaleclfaaGreatDoorAMem
namespace Go.Proofs.YtbfegnbaleclfaaGreatDoor

def V (b : Nat) (f : Nat → Nat) : Nat → Nat
  | 0 => 0
  | n + 1 => V b f n + f n * b ^ n

def dg (xs : List Nat) (i : Nat) : Nat := xs[i]?.getD 0

def num (b : Nat) (xs : List Nat) : Nat := V b (dg xs) xs.length

def Ok (b : Nat) (xs : List Nat) : Prop := ∀ i, dg xs i < b

end Go.Proofs.YtbfegnbaleclfaaGreatDoor
