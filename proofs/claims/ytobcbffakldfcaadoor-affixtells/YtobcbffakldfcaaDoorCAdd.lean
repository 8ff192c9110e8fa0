/-
  What nat.Add does: the sum, in memory of its own.
-/
import Derived.Test.YtobcbffakldfcaaDoorCB1
import Derived.Test.YtobcbffakldfcaaDoorCCmp
namespace Go.Proofs.YtobcbffakldfcaaDoor
open Go.RowKit

end Go.Proofs.YtobcbffakldfcaaDoor
