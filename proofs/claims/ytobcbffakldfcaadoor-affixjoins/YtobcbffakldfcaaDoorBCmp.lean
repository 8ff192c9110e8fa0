/-
  What nat.Cmp does.
-/
import Derived.Test.YtobcbffakldfcaaDoorBEach
namespace Go.Proofs.YtobcbffakldfcaaDoor
open Go.RowKit

end Go.Proofs.YtobcbffakldfcaaDoor
