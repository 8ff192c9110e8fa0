/-
  What nat.limb and nat.trim do.
-/
import Derived.Test.YtbfegnbaleclfaaGreatDoorProg
import Derived.Test.YtbfegnbaleclfaaGreatDoorAMem
namespace Go.Proofs.YtbfegnbaleclfaaGreatDoor
open Go.RowKit

end Go.Proofs.YtbfegnbaleclfaaGreatDoor
