/-
  What nat.Cmp does.
-/
import Derived.Test.YtobmdifledegbaaDoorAEach
namespace Go.Proofs.YtobmdifledegbaaDoor
open Go.RowKit

end Go.Proofs.YtobmdifledegbaaDoor
