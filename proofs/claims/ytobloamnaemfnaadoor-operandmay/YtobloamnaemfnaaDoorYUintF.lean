/-
  What nat.Uint does.
-/
import Derived.Test.YtobloamnaemfnaaDoorYUint
namespace Go.Proofs.YtobloamnaemfnaaDoor
open Go.RowKit

end Go.Proofs.YtobloamnaemfnaaDoor
