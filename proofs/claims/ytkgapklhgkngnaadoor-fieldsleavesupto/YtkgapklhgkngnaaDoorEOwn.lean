/-
  Slices that a call answers in memory of its own, and what number they are; trim once more, in these words.
-/
import Derived.Test.YtkgapklhgkngnaaDoorETrim
import Derived.Test.YtkgapklhgkngnaaDoorECarry
namespace Go.Proofs.YtkgapklhgkngnaaDoor
open Go.RowKit

section
variable {k : IntKind} {e : TypeId} {w w' : World} {base m : Nat} {v : Value} {xs : List Nat}

end

end Go.Proofs.YtkgapklhgkngnaaDoor
