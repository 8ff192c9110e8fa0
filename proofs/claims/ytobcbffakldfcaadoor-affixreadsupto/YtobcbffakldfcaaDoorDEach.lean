/-
  What nat.eachPair does with whatever function it is handed: round by round, over the limbs of both lists.
-/
import Derived.Test.YtobcbffakldfcaaDoorDTrim
namespace Go.Proofs.YtobcbffakldfcaaDoor
open Go.RowKit

end Go.Proofs.YtobcbffakldfcaaDoor
