/-
  What nat.Add does: the sum, in memory of its own.
-/
import Derived.Test.YtkgapklhgkngnaaDoorAB1
import Derived.Test.YtkgapklhgkngnaaDoorACmp
namespace Go.Proofs.YtkgapklhgkngnaaDoor
open Go.RowKit

end Go.Proofs.YtkgapklhgkngnaaDoor
