/-
  What nat.Norm, nat.Of, nat.Uint and nat.Bits do.
-/
import Derived.Test.YtobmdifledegbaaGreatDoorCAdd
import Derived.Test.YtobmdifledegbaaGreatDoorCBits
import Derived.Laws.CopyOwn
namespace Go.Proofs.YtobmdifledegbaaGreatDoor
open Go.RowKit

end Go.Proofs.YtobmdifledegbaaGreatDoor
