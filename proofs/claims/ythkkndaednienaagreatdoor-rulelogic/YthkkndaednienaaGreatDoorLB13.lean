/-
  What width's noughts, split, whole, fraction and digits do, out of what they call.
  What width's split, whole, fraction and digits answer, by the document's words.
  What width's areShown, mayShown and Value do.
-/
import Derived.Test.YthkkndaednienaaGreatDoorLB10
import Derived.Test.YthkkndaednienaaGreatDoorLB12
import Derived.Deep.RegionHeld3
import Derived.Test.YthkkndaednienaaGreatDoorLB11
import Derived.Shelf.Strings.SlTrimAscii
namespace Go.Proofs.YthkkndaednienaaGreatDoor
open Go.RowKit

end Go.Proofs.YthkkndaednienaaGreatDoor

namespace Go.Proofs.YthkkndaednienaaGreatDoor
open Go.RowKit

end Go.Proofs.YthkkndaednienaaGreatDoor

namespace Go.Proofs.YthkkndaednienaaGreatDoor
open Go.RowKit

end Go.Proofs.YthkkndaednienaaGreatDoor
