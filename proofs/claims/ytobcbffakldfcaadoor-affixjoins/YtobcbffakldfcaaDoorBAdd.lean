/-
  What nat.Add does: the sum, in memory of its own.
-/
import Derived.Test.YtobcbffakldfcaaDoorBB1
import Derived.Test.YtobcbffakldfcaaDoorBCmp
namespace Go.Proofs.YtobcbffakldfcaaDoor
open Go.RowKit

end Go.Proofs.YtobcbffakldfcaaDoor
