/-
  What nat.Norm, nat.Of, nat.Uint and nat.Bits do.
-/
import Derived.Test.YtkgapklhgkngnaaDoorEAdd
import Derived.Test.YtkgapklhgkngnaaDoorEBits
import Derived.Laws.CopyOwn
namespace Go.Proofs.YtkgapklhgkngnaaDoor
open Go.RowKit

end Go.Proofs.YtkgapklhgkngnaaDoor
