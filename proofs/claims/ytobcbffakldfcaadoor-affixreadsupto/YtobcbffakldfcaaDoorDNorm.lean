/-
  What nat.Norm, nat.Of, nat.Uint and nat.Bits do.
-/
import Derived.Test.YtobcbffakldfcaaDoorDAdd
import Derived.Test.YtobcbffakldfcaaDoorDBits
import Derived.Laws.CopyOwn
namespace Go.Proofs.YtobcbffakldfcaaDoor
open Go.RowKit

end Go.Proofs.YtobcbffakldfcaaDoor
