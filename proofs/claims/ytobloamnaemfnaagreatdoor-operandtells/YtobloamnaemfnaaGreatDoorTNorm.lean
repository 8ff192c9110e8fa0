/-
  What nat.Norm, nat.Of, nat.Uint and nat.Bits do.
-/
import Derived.Test.YtobloamnaemfnaaGreatDoorTAdd
import Derived.Test.YtobloamnaemfnaaGreatDoorTBits
import Derived.Laws.CopyOwn
namespace Go.Proofs.YtobloamnaemfnaaGreatDoor
open Go.RowKit

end Go.Proofs.YtobloamnaemfnaaGreatDoor
