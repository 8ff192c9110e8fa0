/-
  What nat.shiftDown, nat.Shl and nat.Shr do.
-/
import Derived.Test.YtobloamnaemfnaaDoorYShift
import Derived.Test.YtobloamnaemfnaaDoorYB2
import Derived.Deep.RegionWith
import Derived.Deep.RegionHeld3
namespace Go.Proofs.YtobloamnaemfnaaDoor
open Go.RowKit

end Go.Proofs.YtobloamnaemfnaaDoor
