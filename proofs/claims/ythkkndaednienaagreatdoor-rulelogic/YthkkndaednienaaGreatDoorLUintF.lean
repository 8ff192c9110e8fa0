/-
  What nat.Uint does.
-/
import Derived.Test.YthkkndaednienaaGreatDoorLUint
namespace Go.Proofs.YthkkndaednienaaGreatDoor
open Go.RowKit

end Go.Proofs.YthkkndaednienaaGreatDoor
