/-
  What nat.limb and nat.trim do.
-/
import Derived.Test.YthkkndaednienaaGreatDoorProg
import Derived.Test.YthkkndaednienaaGreatDoorBMem
namespace Go.Proofs.YthkkndaednienaaGreatDoor
open Go.RowKit

end Go.Proofs.YthkkndaednienaaGreatDoor
