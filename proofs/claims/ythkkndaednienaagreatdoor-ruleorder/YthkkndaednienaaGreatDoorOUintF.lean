/-
  What nat.Uint does.
-/
import Derived.Test.YthkkndaednienaaGreatDoorOUint
namespace Go.Proofs.YthkkndaednienaaGreatDoor
open Go.RowKit

end Go.Proofs.YthkkndaednienaaGreatDoor
