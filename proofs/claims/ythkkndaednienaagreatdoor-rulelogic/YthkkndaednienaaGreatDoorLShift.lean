/-
  What nat.shiftUp, nat.shiftDown, nat.Shl and nat.Shr do.
-/
import Derived.Test.YthkkndaednienaaGreatDoorLUint
import Derived.Test.YthkkndaednienaaGreatDoorLB2
namespace Go.Proofs.YthkkndaednienaaGreatDoor
open Go.RowKit

end Go.Proofs.YthkkndaednienaaGreatDoor
