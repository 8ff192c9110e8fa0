/-
  What math/bits.LeadingZeros64 and Mul64 do, walked through the library's own text.
-/
import Derived.Test.YtihnakblcfealaaGreatDoorEOwn
import Derived.Test.YtihnakblcfealaaGreatDoorELen
import Derived.Lib.Mul64
import Derived.Laws.Bits64b
namespace Go.Proofs.YtihnakblcfealaaGreatDoor
open Go.RowKit

end Go.Proofs.YtihnakblcfealaaGreatDoor
