/-
  What nat.Cmp does.
-/
import Derived.Test.YtobcbffakldfcaaDoorAEach
namespace Go.Proofs.YtobcbffakldfcaaDoor
open Go.RowKit

end Go.Proofs.YtobcbffakldfcaaDoor
