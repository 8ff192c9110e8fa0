/-
  What math/bits.LeadingZeros64 and Mul64 do, walked through the library's own text.
-/
import Derived.Test.YthkkndaednienaaGreatDoorLOwn
import Derived.Test.YthkkndaednienaaGreatDoorLLen
import Derived.Lib.Mul64
import Derived.Laws.Bits64b
namespace Go.Proofs.YthkkndaednienaaGreatDoor
open Go.RowKit

end Go.Proofs.YthkkndaednienaaGreatDoor
