/-
  What nat.Add does: the sum, in memory of its own.
-/
import Derived.Test.YtobmdifledegbaaDoorAB1
import Derived.Test.YtobmdifledegbaaDoorACmp
namespace Go.Proofs.YtobmdifledegbaaDoor
open Go.RowKit

end Go.Proofs.YtobmdifledegbaaDoor
