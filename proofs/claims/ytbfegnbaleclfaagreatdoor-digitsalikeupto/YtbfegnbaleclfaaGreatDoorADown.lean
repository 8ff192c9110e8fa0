/-
  What nat.shiftDown, nat.Shl and nat.Shr do.
-/
import Derived.Test.YtbfegnbaleclfaaGreatDoorAShift
import Derived.Test.YtbfegnbaleclfaaGreatDoorAB2
import Derived.Deep.RegionWith
import Derived.Deep.RegionHeld3
namespace Go.Proofs.YtbfegnbaleclfaaGreatDoor
open Go.RowKit

end Go.Proofs.YtbfegnbaleclfaaGreatDoor
