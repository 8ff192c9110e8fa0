/-
  What math/bits.LeadingZeros64 and Mul64 do, walked through the library's own text.
-/
import Derived.Test.YtobmdifledegbaaGreatDoorCOwn
import Derived.Test.YtobmdifledegbaaGreatDoorCLen
import Derived.Lib.Mul64
import Derived.Laws.Bits64b
namespace Go.Proofs.YtobmdifledegbaaGreatDoor
open Go.RowKit

end Go.Proofs.YtobmdifledegbaaGreatDoor
