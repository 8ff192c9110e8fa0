/-
  What nat.Add does: the sum, in memory of its own.
-/
import Derived.Test.YtkgapklhgkngnaaDoorBB1
import Derived.Test.YtkgapklhgkngnaaDoorBCmp
namespace Go.Proofs.YtkgapklhgkngnaaDoor
open Go.RowKit

end Go.Proofs.YtkgapklhgkngnaaDoor
