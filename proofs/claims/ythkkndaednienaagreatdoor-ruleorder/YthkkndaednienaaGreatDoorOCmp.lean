/-
  What nat.Cmp does.
-/
import Derived.Test.YthkkndaednienaaGreatDoorOEach
namespace Go.Proofs.YthkkndaednienaaGreatDoor
open Go.RowKit

end Go.Proofs.YthkkndaednienaaGreatDoor
