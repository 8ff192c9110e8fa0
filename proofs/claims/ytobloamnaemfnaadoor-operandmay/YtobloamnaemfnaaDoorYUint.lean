/-
  What nat.Bits does.
-/
import Derived.Test.YtobloamnaemfnaaDoorYNorm
import Derived.Test.YtobloamnaemfnaaDoorYB3
namespace Go.Proofs.YtobloamnaemfnaaDoor
open Go.RowKit

end Go.Proofs.YtobloamnaemfnaaDoor
