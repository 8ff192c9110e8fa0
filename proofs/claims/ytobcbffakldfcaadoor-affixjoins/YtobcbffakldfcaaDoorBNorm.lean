/-
  What nat.Norm, nat.Of, nat.Uint and nat.Bits do.
-/
import Derived.Test.YtobcbffakldfcaaDoorBAdd
import Derived.Test.YtobcbffakldfcaaDoorBBits
import Derived.Laws.CopyOwn
namespace Go.Proofs.YtobcbffakldfcaaDoor
open Go.RowKit

end Go.Proofs.YtobcbffakldfcaaDoor
