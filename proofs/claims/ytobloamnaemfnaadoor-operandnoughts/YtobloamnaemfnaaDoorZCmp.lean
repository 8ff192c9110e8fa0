/-
  What nat.Cmp does.
-/
import Derived.Test.YtobloamnaemfnaaDoorZEach
namespace Go.Proofs.YtobloamnaemfnaaDoor
open Go.RowKit

end Go.Proofs.YtobloamnaemfnaaDoor
