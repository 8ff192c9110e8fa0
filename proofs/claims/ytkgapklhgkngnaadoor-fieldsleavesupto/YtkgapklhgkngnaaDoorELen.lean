/-
  What math/bits.Len64 does, walked through the library's own text.
-/
import Derived.Test.YtkgapklhgkngnaaDoorProg
import Derived.Lib.Strings
import Derived.Lib.Slices
import Derived.Lib.Small
import Derived.Lib.Walk
import Derived.Lib.BitFns
namespace Go.Proofs.YtkgapklhgkngnaaDoor

end Go.Proofs.YtkgapklhgkngnaaDoor
