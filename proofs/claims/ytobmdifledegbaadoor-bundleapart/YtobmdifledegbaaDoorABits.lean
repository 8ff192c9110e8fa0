/-
  What math/bits.LeadingZeros64 and Mul64 do, walked through the library's own text.
-/
import Derived.Test.YtobmdifledegbaaDoorAOwn
import Derived.Test.YtobmdifledegbaaDoorALen
import Derived.Lib.Mul64
import Derived.Laws.Bits64b
namespace Go.Proofs.YtobmdifledegbaaDoor
open Go.RowKit

end Go.Proofs.YtobmdifledegbaaDoor
