/-
  Plain mathematics: numbers in digits of a base b, the lowest first: their value, that one value has one list without noughts on top, and how two stand.
-/
import Derived.Test.YtkgapklhgkngnaaDoorDMem
namespace Go.Proofs.YtkgapklhgkngnaaDoor

end Go.Proofs.YtkgapklhgkngnaaDoor
