/-
  What nat.limb and nat.trim do.
-/
import Derived.Test.YtobmdifledegbaaGreatDoorProg
import Derived.Test.YtobmdifledegbaaGreatDoorCMem
namespace Go.Proofs.YtobmdifledegbaaGreatDoor
open Go.RowKit

end Go.Proofs.YtobmdifledegbaaGreatDoor
