/-
  What nat.limb and nat.trim do.
-/
import Derived.Test.YtobcbffakldfcaaDoorProg
import Derived.Test.YtobcbffakldfcaaDoorDMem
namespace Go.Proofs.YtobcbffakldfcaaDoor
open Go.RowKit

end Go.Proofs.YtobcbffakldfcaaDoor
