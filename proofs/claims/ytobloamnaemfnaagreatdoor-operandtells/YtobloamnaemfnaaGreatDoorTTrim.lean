/-
  What nat.limb and nat.trim do.
-/
import Derived.Test.YtobloamnaemfnaaGreatDoorProg
import Derived.Test.YtobloamnaemfnaaGreatDoorTMem
namespace Go.Proofs.YtobloamnaemfnaaGreatDoor
open Go.RowKit

end Go.Proofs.YtobloamnaemfnaaGreatDoor
