/-
  What nat.Norm, nat.Of, nat.Uint and nat.Bits do.
-/
import Derived.Test.YtobmdifledegbaaDoorAAdd
import Derived.Test.YtobmdifledegbaaDoorABits
import Derived.Laws.CopyOwn
namespace Go.Proofs.YtobmdifledegbaaDoor
open Go.RowKit

end Go.Proofs.YtobmdifledegbaaDoor
