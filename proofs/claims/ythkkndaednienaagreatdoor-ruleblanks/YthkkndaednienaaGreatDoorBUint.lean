/-
  What nat.Bits does.
-/
import Derived.Test.YthkkndaednienaaGreatDoorBNorm
import Derived.Test.YthkkndaednienaaGreatDoorBB3
namespace Go.Proofs.YthkkndaednienaaGreatDoor
open Go.RowKit

end Go.Proofs.YthkkndaednienaaGreatDoor
