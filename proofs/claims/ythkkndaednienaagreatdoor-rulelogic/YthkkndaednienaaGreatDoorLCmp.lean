/-
  What nat.Cmp does.
-/
import Derived.Test.YthkkndaednienaaGreatDoorLEach
namespace Go.Proofs.YthkkndaednienaaGreatDoor
open Go.RowKit

end Go.Proofs.YthkkndaednienaaGreatDoor
