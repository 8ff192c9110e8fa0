/-
  What nat.Norm, nat.Of, nat.Uint and nat.Bits do.
-/
import Derived.Test.YtobloamnaemfnaaDoorYAdd
import Derived.Test.YtobloamnaemfnaaDoorYBits
import Derived.Laws.CopyOwn
namespace Go.Proofs.YtobloamnaemfnaaDoor
open Go.RowKit

end Go.Proofs.YtobloamnaemfnaaDoor
