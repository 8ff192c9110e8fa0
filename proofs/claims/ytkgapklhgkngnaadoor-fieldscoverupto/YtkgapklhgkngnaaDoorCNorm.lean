/-
  What nat.Norm, nat.Of, nat.Uint and nat.Bits do.
-/
import Derived.Test.YtkgapklhgkngnaaDoorCAdd
import Derived.Test.YtkgapklhgkngnaaDoorCBits
import Derived.Laws.CopyOwn
namespace Go.Proofs.YtkgapklhgkngnaaDoor
open Go.RowKit

end Go.Proofs.YtkgapklhgkngnaaDoor
