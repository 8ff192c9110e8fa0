/-
  What nat.Cmp does.
-/
import Derived.Test.YthkkndaednienaaGreatDoorBEach
namespace Go.Proofs.YthkkndaednienaaGreatDoor
open Go.RowKit

end Go.Proofs.YthkkndaednienaaGreatDoor
