/-
  What nat.Add does: the sum, in memory of its own.
-/
import Derived.Test.YtobloamnaemfnaaDoorZB1
import Derived.Test.YtobloamnaemfnaaDoorZCmp
namespace Go.Proofs.YtobloamnaemfnaaDoor
open Go.RowKit

end Go.Proofs.YtobloamnaemfnaaDoor
