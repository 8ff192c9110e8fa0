/-
  What the reference's Same does: it tells whether two lists hold the same limbs.
-/
import Derived.Test.YthkkndaednienaaGreatDoorProg
import Derived.Test.YthkkndaednienaaGreatDoorLMem
import Derived.Deep.QuietTactic
import Derived.BigQuiet
import Derived.WalkSmall
namespace Go.Proofs.YthkkndaednienaaGreatDoor
open Go.RowKit

end Go.Proofs.YthkkndaednienaaGreatDoor
