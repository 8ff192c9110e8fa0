/-
  What nat.Add does: the sum, in memory of its own.
-/
import Derived.Test.YtobmdifledegbaaGreatDoorAB1
import Derived.Test.YtobmdifledegbaaGreatDoorACmp
namespace Go.Proofs.YtobmdifledegbaaGreatDoor
open Go.RowKit

end Go.Proofs.YtobmdifledegbaaGreatDoor
