/-
  What nat.Uint does.
-/
import Derived.Test.YthkkndaednienaaGreatDoorBUint
namespace Go.Proofs.YthkkndaednienaaGreatDoor
open Go.RowKit

end Go.Proofs.YthkkndaednienaaGreatDoor
