/-
  What nat.Sub does: the difference, in memory of its own, or the error.
-/
import Derived.Test.YthkkndaednienaaGreatDoorLAdd
namespace Go.Proofs.YthkkndaednienaaGreatDoor
open Go.RowKit

end Go.Proofs.YthkkndaednienaaGreatDoor
