/-
  A row of numbers in a block of the call's own: read, written, kept.
-/
import Derived.Test.YtkgapklhgkngnaaDoorENum
namespace Go.Proofs.YtkgapklhgkngnaaDoor
open Go.RowKit

section
variable {k : IntKind} {e : TypeId} {w w' : World} {g : Nat} {xs : List Nat}

end

section
variable {w w' : World} {b : Nat} {v u : Value} {t : TypeId}
end

end Go.Proofs.YtkgapklhgkngnaaDoor
