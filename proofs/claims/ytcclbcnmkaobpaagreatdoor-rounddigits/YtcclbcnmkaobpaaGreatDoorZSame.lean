/-
  What the reference's Same does: it tells whether two lists hold the same limbs.
-/
import Derived.Test.YtcclbcnmkaobpaaGreatDoorProg
import Derived.Test.YtcclbcnmkaobpaaGreatDoorZMem
import Derived.Deep.QuietTactic
import Derived.BigQuiet
import Derived.WalkSmall
namespace Go.Proofs.YtcclbcnmkaobpaaGreatDoor
open Go.RowKit

end Go.Proofs.YtcclbcnmkaobpaaGreatDoor
