/-
  What nat.eachPair does with whatever function it is handed: round by round, over the limbs of both lists.
-/
import Derived.Test.YtobmdifledegbaaGreatDoorCTrim
namespace Go.Proofs.YtobmdifledegbaaGreatDoor
open Go.RowKit

end Go.Proofs.YtobmdifledegbaaGreatDoor
