/-
  What nat.Add does: the sum, in memory of its own.
-/
import Derived.Test.YtkgapklhgkngnaaDoorCB1
import Derived.Test.YtkgapklhgkngnaaDoorCCmp
namespace Go.Proofs.YtkgapklhgkngnaaDoor
open Go.RowKit

end Go.Proofs.YtkgapklhgkngnaaDoor
