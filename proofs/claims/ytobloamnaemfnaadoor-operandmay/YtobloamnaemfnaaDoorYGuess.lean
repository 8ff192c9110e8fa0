/-
  What nat.guessLimb does.
-/
import Derived.Test.YtobloamnaemfnaaDoorYB4
import Derived.Deep.RegionHeld3
namespace Go.Proofs.YtobloamnaemfnaaDoor
open Go.RowKit

end Go.Proofs.YtobloamnaemfnaaDoor
