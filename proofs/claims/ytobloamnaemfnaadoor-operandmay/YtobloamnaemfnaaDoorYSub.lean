/-
  What nat.Sub does: the difference, in memory of its own, or the error.
-/
import Derived.Test.YtobloamnaemfnaaDoorYAdd
namespace Go.Proofs.YtobloamnaemfnaaDoor
open Go.RowKit

end Go.Proofs.YtobloamnaemfnaaDoor
