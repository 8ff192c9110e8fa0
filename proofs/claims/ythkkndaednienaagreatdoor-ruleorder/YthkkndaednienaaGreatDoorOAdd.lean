/-
  What nat.Add does: the sum, in memory of its own.
-/
import Derived.Test.YthkkndaednienaaGreatDoorOB1
import Derived.Test.YthkkndaednienaaGreatDoorOCmp
namespace Go.Proofs.YthkkndaednienaaGreatDoor
open Go.RowKit

end Go.Proofs.YthkkndaednienaaGreatDoor
