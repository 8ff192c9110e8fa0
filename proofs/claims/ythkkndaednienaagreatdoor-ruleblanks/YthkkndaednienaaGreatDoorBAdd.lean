/-
  What nat.Add does: the sum, in memory of its own.
-/
import Derived.Test.YthkkndaednienaaGreatDoorBB1
import Derived.Test.YthkkndaednienaaGreatDoorBCmp
namespace Go.Proofs.YthkkndaednienaaGreatDoor
open Go.RowKit

end Go.Proofs.YthkkndaednienaaGreatDoor
