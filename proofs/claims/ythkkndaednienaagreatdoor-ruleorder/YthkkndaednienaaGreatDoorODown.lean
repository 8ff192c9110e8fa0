/-
  What nat.shiftDown, nat.Shl and nat.Shr do.
-/
import Derived.Test.YthkkndaednienaaGreatDoorOShift
import Derived.Test.YthkkndaednienaaGreatDoorOB2
import Derived.Deep.RegionWith
import Derived.Deep.RegionHeld3
namespace Go.Proofs.YthkkndaednienaaGreatDoor
open Go.RowKit

end Go.Proofs.YthkkndaednienaaGreatDoor
