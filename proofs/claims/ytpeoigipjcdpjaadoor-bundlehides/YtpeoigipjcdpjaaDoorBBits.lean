/-
  What math/bits.LeadingZeros64 and Mul64 do, walked through the library's own text.
-/
import Derived.Test.YtpeoigipjcdpjaaDoorBOwn
import Derived.Test.YtpeoigipjcdpjaaDoorBLen
import Derived.Lib.Mul64
import Derived.Laws.Bits64b
namespace Go.Proofs.YtpeoigipjcdpjaaDoor
open Go.RowKit

end Go.Proofs.YtpeoigipjcdpjaaDoor
