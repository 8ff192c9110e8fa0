/-
  What nat.Cmp does.
-/
import Derived.Test.YtkgapklhgkngnaaDoorAEach
namespace Go.Proofs.YtkgapklhgkngnaaDoor
open Go.RowKit

end Go.Proofs.YtkgapklhgkngnaaDoor
