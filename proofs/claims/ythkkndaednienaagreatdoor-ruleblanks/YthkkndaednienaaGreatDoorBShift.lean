/-
  What nat.shiftUp, nat.shiftDown, nat.Shl and nat.Shr do.
-/
import Derived.Test.YthkkndaednienaaGreatDoorBUint
import Derived.Test.YthkkndaednienaaGreatDoorBB2
namespace Go.Proofs.YthkkndaednienaaGreatDoor
open Go.RowKit

end Go.Proofs.YthkkndaednienaaGreatDoor
