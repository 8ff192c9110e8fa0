/-
  What round's check, isStep, powerOfTen, digitsOf, counted and isOdd do; sums of numbers.
  What round's toMultiple does.
  What round's toMultiple answers of any number that may be.
-/
import Derived.Test.YtobloamnaemfnaaDoorYB2
import Derived.Test.YtobloamnaemfnaaDoorYB5
import Derived.Test.YtobloamnaemfnaaDoorYB8
import Derived.Test.YtobloamnaemfnaaDoorYAdd
import Derived.Deep.RegionHeld3
namespace Go.Proofs.YtobloamnaemfnaaDoor
open Go.RowKit

end Go.Proofs.YtobloamnaemfnaaDoor

namespace Go.Proofs.YtobloamnaemfnaaDoor
open Go.RowKit

end Go.Proofs.YtobloamnaemfnaaDoor

namespace Go.Proofs.YtobloamnaemfnaaDoor
open Go.RowKit

end Go.Proofs.YtobloamnaemfnaaDoor
