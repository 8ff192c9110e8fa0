/-
  What nat.Uint does.
-/
import Derived.Test.YtobloamnaemfnaaDoorZUint
namespace Go.Proofs.YtobloamnaemfnaaDoor
open Go.RowKit

end Go.Proofs.YtobloamnaemfnaaDoor
