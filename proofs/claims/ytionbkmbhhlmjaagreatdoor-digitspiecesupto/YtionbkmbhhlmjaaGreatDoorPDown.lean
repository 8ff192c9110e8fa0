/-
  What nat.shiftDown, nat.Shl and nat.Shr do.
-/
import Derived.Test.YtionbkmbhhlmjaaGreatDoorPShift
import Derived.Test.YtionbkmbhhlmjaaGreatDoorPB2
import Derived.Deep.RegionWith
import Derived.Deep.RegionHeld3
namespace Go.Proofs.YtionbkmbhhlmjaaGreatDoor
open Go.RowKit

end Go.Proofs.YtionbkmbhhlmjaaGreatDoor
