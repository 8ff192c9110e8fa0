/-
  What nat.limb and nat.trim do.
-/
import Derived.Test.YthkkndaednienaaGreatDoorProg
import Derived.Test.YthkkndaednienaaGreatDoorLMem
namespace Go.Proofs.YthkkndaednienaaGreatDoor
open Go.RowKit

end Go.Proofs.YthkkndaednienaaGreatDoor
