/-
  What nat.Add does: the sum, in memory of its own.
-/
import Derived.Test.YtobcbffakldfcaaDoorAB1
import Derived.Test.YtobcbffakldfcaaDoorACmp
namespace Go.Proofs.YtobcbffakldfcaaDoor
open Go.RowKit

end Go.Proofs.YtobcbffakldfcaaDoor
