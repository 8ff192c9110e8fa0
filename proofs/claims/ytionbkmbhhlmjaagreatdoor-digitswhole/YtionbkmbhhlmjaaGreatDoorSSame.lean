/-
  What the reference's Same does: it tells whether two lists hold the same limbs.
-/
import Derived.Test.YtionbkmbhhlmjaaGreatDoorProg
import Derived.Test.YtionbkmbhhlmjaaGreatDoorSMem
import Derived.Deep.QuietTactic
import Derived.BigQuiet
import Derived.WalkSmall
namespace Go.Proofs.YtionbkmbhhlmjaaGreatDoor
open Go.RowKit

end Go.Proofs.YtionbkmbhhlmjaaGreatDoor
