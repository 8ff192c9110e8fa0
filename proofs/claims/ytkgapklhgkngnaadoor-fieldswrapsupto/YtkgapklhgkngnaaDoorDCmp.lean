/-
  What nat.Cmp does.
-/
import Derived.Test.YtkgapklhgkngnaaDoorDEach
namespace Go.Proofs.YtkgapklhgkngnaaDoor
open Go.RowKit

end Go.Proofs.YtkgapklhgkngnaaDoor
