/-
  What nat.guessLimb does.
-/
import Derived.Test.YthkkndaednienaaGreatDoorLB4
import Derived.Deep.RegionHeld3
namespace Go.Proofs.YthkkndaednienaaGreatDoor
open Go.RowKit

end Go.Proofs.YthkkndaednienaaGreatDoor
