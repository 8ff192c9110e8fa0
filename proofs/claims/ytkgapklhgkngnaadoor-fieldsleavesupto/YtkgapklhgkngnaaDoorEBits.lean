/-
  What math/bits.LeadingZeros64 and Mul64 do, walked through the library's own text.
-/
import Derived.Test.YtkgapklhgkngnaaDoorEOwn
import Derived.Test.YtkgapklhgkngnaaDoorELen
import Derived.Lib.Mul64
import Derived.Laws.Bits64b
namespace Go.Proofs.YtkgapklhgkngnaaDoor
open Go.RowKit

end Go.Proofs.YtkgapklhgkngnaaDoor
