/-
  What nat.Cmp does.
-/
import Derived.Test.YtobcbffakldfcaaDoorDEach
namespace Go.Proofs.YtobcbffakldfcaaDoor
open Go.RowKit

end Go.Proofs.YtobcbffakldfcaaDoor
