/-
  What nat.Cmp does.
-/
import Derived.Test.YtkgapklhgkngnaaDoorBEach
namespace Go.Proofs.YtkgapklhgkngnaaDoor
open Go.RowKit

end Go.Proofs.YtkgapklhgkngnaaDoor
