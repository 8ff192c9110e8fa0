/-
  What nat.Cmp does.
-/
import Derived.Test.YtkgapklhgkngnaaDoorCEach
namespace Go.Proofs.YtkgapklhgkngnaaDoor
open Go.RowKit

end Go.Proofs.YtkgapklhgkngnaaDoor
