/-
  What nat.Bits does.
-/
import Derived.Test.YtobloamnaemfnaaGreatDoorTNorm
import Derived.Test.YtobloamnaemfnaaGreatDoorTB3
namespace Go.Proofs.YtobloamnaemfnaaGreatDoor
open Go.RowKit

end Go.Proofs.YtobloamnaemfnaaGreatDoor
