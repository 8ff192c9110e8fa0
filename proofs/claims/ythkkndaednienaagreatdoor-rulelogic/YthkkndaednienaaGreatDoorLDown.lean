/-
  What nat.shiftDown, nat.Shl and nat.Shr do.
-/
import Derived.Test.YthkkndaednienaaGreatDoorLShift
import Derived.Test.YthkkndaednienaaGreatDoorLB2
import Derived.Deep.RegionWith
import Derived.Deep.RegionHeld3
namespace Go.Proofs.YthkkndaednienaaGreatDoor
open Go.RowKit

end Go.Proofs.YthkkndaednienaaGreatDoor
