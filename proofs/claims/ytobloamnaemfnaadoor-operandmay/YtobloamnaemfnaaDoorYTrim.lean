/-
  What nat.limb and nat.trim do.
-/
import Derived.Test.YtobloamnaemfnaaDoorProg
import Derived.Test.YtobloamnaemfnaaDoorYMem
namespace Go.Proofs.YtobloamnaemfnaaDoor
open Go.RowKit

end Go.Proofs.YtobloamnaemfnaaDoor
