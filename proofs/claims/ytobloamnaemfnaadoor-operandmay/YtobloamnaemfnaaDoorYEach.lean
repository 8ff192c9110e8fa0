/-
  What nat.eachPair does with whatever function it is handed: round by round, over the limbs of both lists.
-/
import Derived.Test.YtobloamnaemfnaaDoorYTrim
namespace Go.Proofs.YtobloamnaemfnaaDoor
open Go.RowKit

end Go.Proofs.YtobloamnaemfnaaDoor
