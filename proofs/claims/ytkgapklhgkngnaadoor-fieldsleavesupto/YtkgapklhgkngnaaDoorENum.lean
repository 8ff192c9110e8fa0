/-
  Plain mathematics: numbers in digits of a base b, the lowest first: their value, that one value has one list without noughts on top, and how two stand.
-/
import Derived.Test.YtkgapklhgkngnaaDoorEMem
namespace Go.Proofs.YtkgapklhgkngnaaDoor

def V (b : Nat) (f : Nat → Nat) : Nat → Nat
  | 0 => 0
  | n + 1 => V b f n + f n * b ^ n

end Go.Proofs.YtkgapklhgkngnaaDoor
