/-
  What nat.Norm, nat.Of, nat.Uint and nat.Bits do.
-/
import Derived.Test.YtobmdifledegbaaGreatDoorAAdd
import Derived.Test.YtobmdifledegbaaGreatDoorABits
import Derived.Laws.CopyOwn
namespace Go.Proofs.YtobmdifledegbaaGreatDoor
open Go.RowKit

end Go.Proofs.YtobmdifledegbaaGreatDoor
