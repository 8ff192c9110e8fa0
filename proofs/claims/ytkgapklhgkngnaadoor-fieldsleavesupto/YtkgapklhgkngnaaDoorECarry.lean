/-
  math/bits.Add64 and Sub64 as the model has them, and the closures of nat.Add, nat.Sub and nat.addBack, which call them.
-/
import Derived.Test.YtkgapklhgkngnaaDoorEEach
import Derived.Test.YtkgapklhgkngnaaDoorERow
import Derived.Laws.Externs
import Derived.RegionTactic
import Derived.BigRegion
namespace Go.Proofs.YtkgapklhgkngnaaDoor
open Go.RowKit

end Go.Proofs.YtkgapklhgkngnaaDoor
