/-
  What nat.Norm, nat.Of, nat.Uint and nat.Bits do.
-/
import Derived.Test.YtkgapklhgkngnaaDoorDAdd
import Derived.Test.YtkgapklhgkngnaaDoorDBits
import Derived.Laws.CopyOwn
namespace Go.Proofs.YtkgapklhgkngnaaDoor
open Go.RowKit

end Go.Proofs.YtkgapklhgkngnaaDoor
