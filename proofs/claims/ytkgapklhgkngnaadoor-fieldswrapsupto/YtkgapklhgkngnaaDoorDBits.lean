/-
  What math/bits.LeadingZeros64 and Mul64 do, walked through the library's own text.
-/
import Derived.Test.YtkgapklhgkngnaaDoorDOwn
import Derived.Test.YtkgapklhgkngnaaDoorDLen
import Derived.Lib.Mul64
import Derived.Laws.Bits64b
namespace Go.Proofs.YtkgapklhgkngnaaDoor
open Go.RowKit

end Go.Proofs.YtkgapklhgkngnaaDoor
