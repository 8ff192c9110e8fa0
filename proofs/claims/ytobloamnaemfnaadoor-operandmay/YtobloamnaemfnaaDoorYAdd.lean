/-
  What nat.Add does: the sum, in memory of its own.
-/
import Derived.Test.YtobloamnaemfnaaDoorYB1
import Derived.Test.YtobloamnaemfnaaDoorYCmp
namespace Go.Proofs.YtobloamnaemfnaaDoor
open Go.RowKit

end Go.Proofs.YtobloamnaemfnaaDoor
