/-
  What nat.Add does: the sum, in memory of its own.
-/
import Derived.Test.YtkgapklhgkngnaaDoorDB1
import Derived.Test.YtkgapklhgkngnaaDoorDCmp
namespace Go.Proofs.YtkgapklhgkngnaaDoor
open Go.RowKit

end Go.Proofs.YtkgapklhgkngnaaDoor
