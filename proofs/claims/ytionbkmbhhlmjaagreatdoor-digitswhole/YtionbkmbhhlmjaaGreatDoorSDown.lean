/-
  What nat.shiftDown, nat.Shl and nat.Shr do.
-/
import Derived.Test.YtionbkmbhhlmjaaGreatDoorSShift
import Derived.Test.YtionbkmbhhlmjaaGreatDoorSB2
import Derived.Deep.RegionWith
import Derived.Deep.RegionHeld3
namespace Go.Proofs.YtionbkmbhhlmjaaGreatDoor
open Go.RowKit

end Go.Proofs.YtionbkmbhhlmjaaGreatDoor
