/-
  What nat.Bits does.
-/
import Derived.Test.YthkkndaednienaaGreatDoorONorm
import Derived.Test.YthkkndaednienaaGreatDoorOB3
namespace Go.Proofs.YthkkndaednienaaGreatDoor
open Go.RowKit

end Go.Proofs.YthkkndaednienaaGreatDoor
