/-
  What nat.Bits does.
-/
import Derived.Test.YtobloamnaemfnaaDoorZNorm
import Derived.Test.YtobloamnaemfnaaDoorZB3
namespace Go.Proofs.YtobloamnaemfnaaDoor
open Go.RowKit

end Go.Proofs.YtobloamnaemfnaaDoor
