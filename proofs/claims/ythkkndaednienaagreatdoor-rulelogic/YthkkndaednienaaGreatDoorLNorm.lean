/-
  What nat.Norm, nat.Of, nat.Uint and nat.Bits do.
-/
import Derived.Test.YthkkndaednienaaGreatDoorLAdd
import Derived.Test.YthkkndaednienaaGreatDoorLBits
import Derived.Laws.CopyOwn
namespace Go.Proofs.YthkkndaednienaaGreatDoor
open Go.RowKit

end Go.Proofs.YthkkndaednienaaGreatDoor
