/-
  What nat.limb and nat.trim do.
-/
import Derived.Test.YthkkndaednienaaGreatDoorProg
import Derived.Test.YthkkndaednienaaGreatDoorOMem
namespace Go.Proofs.YthkkndaednienaaGreatDoor
open Go.RowKit

end Go.Proofs.YthkkndaednienaaGreatDoor
