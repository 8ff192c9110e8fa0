/-
  What nat.Add does: the sum, in memory of its own.
-/
import Derived.Test.YtobmdifledegbaaGreatDoorCB1
import Derived.Test.YtobmdifledegbaaGreatDoorCCmp
namespace Go.Proofs.YtobmdifledegbaaGreatDoor
open Go.RowKit

end Go.Proofs.YtobmdifledegbaaGreatDoor
