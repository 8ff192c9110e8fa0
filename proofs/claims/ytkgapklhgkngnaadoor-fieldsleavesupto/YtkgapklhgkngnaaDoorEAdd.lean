/-
  What nat.Add does: the sum, in memory of its own.
-/
import Derived.Test.YtkgapklhgkngnaaDoorEB1
import Derived.Test.YtkgapklhgkngnaaDoorECmp
namespace Go.Proofs.YtkgapklhgkngnaaDoor
open Go.RowKit

end Go.Proofs.YtkgapklhgkngnaaDoor
