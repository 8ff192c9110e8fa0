/-
  What math/bits.LeadingZeros64 and Mul64 do, walked through the library's own text.
-/
import Derived.Test.YtobcbffakldfcaaDoorCOwn
import Derived.Test.YtobcbffakldfcaaDoorCLen
import Derived.Lib.Mul64
import Derived.Laws.Bits64b
namespace Go.Proofs.YtobcbffakldfcaaDoor
open Go.RowKit

end Go.Proofs.YtobcbffakldfcaaDoor
