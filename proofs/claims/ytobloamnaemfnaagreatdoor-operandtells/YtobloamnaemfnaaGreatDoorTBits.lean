/-
  What math/bits.LeadingZeros64 and Mul64 do, walked through the library's own text.
-/
import Derived.Test.YtobloamnaemfnaaGreatDoorTOwn
import Derived.Test.YtobloamnaemfnaaGreatDoorTLen
import Derived.Lib.Mul64
import Derived.Laws.Bits64b
namespace Go.Proofs.YtobloamnaemfnaaGreatDoor
open Go.RowKit

end Go.Proofs.YtobloamnaemfnaaGreatDoor
