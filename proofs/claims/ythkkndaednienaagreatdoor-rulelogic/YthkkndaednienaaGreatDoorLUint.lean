/-
  What nat.Bits does.
-/
import Derived.Test.YthkkndaednienaaGreatDoorLNorm
import Derived.Test.YthkkndaednienaaGreatDoorLB3
namespace Go.Proofs.YthkkndaednienaaGreatDoor
open Go.RowKit

end Go.Proofs.YthkkndaednienaaGreatDoor
