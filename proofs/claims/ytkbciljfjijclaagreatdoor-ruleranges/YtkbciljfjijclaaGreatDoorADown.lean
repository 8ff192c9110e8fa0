/-
  What nat.shiftDown, nat.Shl and nat.Shr do.
-/
import Derived.Test.YtkbciljfjijclaaGreatDoorAShift
import Derived.Test.YtkbciljfjijclaaGreatDoorAB2
import Derived.Deep.RegionWith
import Derived.Deep.RegionHeld3
namespace Go.Proofs.YtkbciljfjijclaaGreatDoor
open Go.RowKit

end Go.Proofs.YtkbciljfjijclaaGreatDoor
