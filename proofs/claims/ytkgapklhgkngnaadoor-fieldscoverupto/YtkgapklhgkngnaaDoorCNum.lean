/-
  Plain mathematics: numbers in digits of a base b, the lowest first: their value, that one value has one list without noughts on top, and how two stand.
-/
import Derived.Test.YtkgapklhgkngnaaDoorCMem
namespace Go.Proofs.YtkgapklhgkngnaaDoor

def dg (xs : List Nat) (i : Nat) : Nat := xs[i]?.getD 0

end Go.Proofs.YtkgapklhgkngnaaDoor
