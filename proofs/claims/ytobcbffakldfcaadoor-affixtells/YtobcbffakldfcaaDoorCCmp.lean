/-
  What nat.Cmp does.
-/
import Derived.Test.YtobcbffakldfcaaDoorCEach
namespace Go.Proofs.YtobcbffakldfcaaDoor
open Go.RowKit

end Go.Proofs.YtobcbffakldfcaaDoor
