/-
  What math/bits.LeadingZeros64 and Mul64 do, walked through the library's own text.
-/
import Derived.Test.YtbfegnbaleclfaaGreatDoorAOwn
import Derived.Test.YtbfegnbaleclfaaGreatDoorALen
import Derived.Lib.Mul64
import Derived.Laws.Bits64b
namespace Go.Proofs.YtbfegnbaleclfaaGreatDoor
open Go.RowKit

end Go.Proofs.YtbfegnbaleclfaaGreatDoor
