/-
  What nat.Add does: the sum, in memory of its own.
-/
import Derived.Test.YtobcbffakldfcaaDoorDB1
import Derived.Test.YtobcbffakldfcaaDoorDCmp
namespace Go.Proofs.YtobcbffakldfcaaDoor
open Go.RowKit

end Go.Proofs.YtobcbffakldfcaaDoor
