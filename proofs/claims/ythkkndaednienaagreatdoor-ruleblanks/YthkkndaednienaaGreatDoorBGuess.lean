/-
  What nat.guessLimb does.
-/
import Derived.Test.YthkkndaednienaaGreatDoorBB4
import Derived.Deep.RegionHeld3
namespace Go.Proofs.YthkkndaednienaaGreatDoor
open Go.RowKit

end Go.Proofs.YthkkndaednienaaGreatDoor
