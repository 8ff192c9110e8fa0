/-
  What nat.Cmp does.
-/
import Derived.Test.YtkgapklhgkngnaaDoorEEach
namespace Go.Proofs.YtkgapklhgkngnaaDoor
open Go.RowKit

end Go.Proofs.YtkgapklhgkngnaaDoor
