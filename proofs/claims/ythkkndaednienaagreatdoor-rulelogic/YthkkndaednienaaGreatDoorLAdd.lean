/-
  What nat.Add does: the sum, in memory of its own.
-/
import Derived.Test.YthkkndaednienaaGreatDoorLB1
import Derived.Test.YthkkndaednienaaGreatDoorLCmp
namespace Go.Proofs.YthkkndaednienaaGreatDoor
open Go.RowKit

end Go.Proofs.YthkkndaednienaaGreatDoor
