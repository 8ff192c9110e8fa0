/-
  What the reference's Same does: it tells whether two lists hold the same limbs.
-/
import Derived.Test.YtobloamnaemfnaaDoorProg
import Derived.Test.YtobloamnaemfnaaDoorYMem
import Derived.Deep.QuietTactic
import Derived.BigQuiet
import Derived.WalkSmall
namespace Go.Proofs.YtobloamnaemfnaaDoor
open Go.RowKit

end Go.Proofs.YtobloamnaemfnaaDoor
