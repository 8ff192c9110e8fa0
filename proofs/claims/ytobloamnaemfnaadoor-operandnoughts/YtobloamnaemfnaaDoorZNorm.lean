/-
  What nat.Norm, nat.Of, nat.Uint and nat.Bits do.
-/
import Derived.Test.YtobloamnaemfnaaDoorZAdd
import Derived.Test.YtobloamnaemfnaaDoorZBits
import Derived.Laws.CopyOwn
namespace Go.Proofs.YtobloamnaemfnaaDoor
open Go.RowKit

end Go.Proofs.YtobloamnaemfnaaDoor
