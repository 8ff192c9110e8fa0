/-
  What nat.limb and nat.trim do.
-/
import Derived.Test.YtobmdifledegbaaDoorProg
import Derived.Test.YtobmdifledegbaaDoorAMem
namespace Go.Proofs.YtobmdifledegbaaDoor
open Go.RowKit

end Go.Proofs.YtobmdifledegbaaDoor
