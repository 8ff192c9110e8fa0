/-
  What nat.Cmp does.
-/
import Derived.Test.YtobmdifledegbaaGreatDoorAEach
namespace Go.Proofs.YtobmdifledegbaaGreatDoor
open Go.RowKit

end Go.Proofs.YtobmdifledegbaaGreatDoor
