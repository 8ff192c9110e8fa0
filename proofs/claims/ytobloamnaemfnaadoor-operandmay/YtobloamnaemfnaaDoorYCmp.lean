/-
  What nat.Cmp does.
-/
import Derived.Test.YtobloamnaemfnaaDoorYEach
namespace Go.Proofs.YtobloamnaemfnaaDoor
open Go.RowKit

end Go.Proofs.YtobloamnaemfnaaDoor
