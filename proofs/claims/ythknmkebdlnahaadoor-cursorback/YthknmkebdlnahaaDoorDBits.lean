/-
  What math/bits.LeadingZeros64 and Mul64 do, walked through the library's own text.
-/
import Derived.Test.YthknmkebdlnahaaDoorDOwn
import Derived.Test.YthknmkebdlnahaaDoorDLen
import Derived.Lib.Mul64
import Derived.Laws.Bits64b
namespace Go.Proofs.YthknmkebdlnahaaDoor
open Go.RowKit

end Go.Proofs.YthknmkebdlnahaaDoor
