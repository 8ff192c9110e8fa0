/-
  What nat.Cmp does.
-/
import Derived.Test.YtobmdifledegbaaGreatDoorCEach
namespace Go.Proofs.YtobmdifledegbaaGreatDoor
open Go.RowKit

end Go.Proofs.YtobmdifledegbaaGreatDoor
