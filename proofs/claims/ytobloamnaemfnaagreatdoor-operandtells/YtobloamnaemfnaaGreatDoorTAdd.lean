/-
  What nat.Add does: the sum, in memory of its own.
-/
import Derived.Test.YtobloamnaemfnaaGreatDoorTB1
import Derived.Test.YtobloamnaemfnaaGreatDoorTCmp
namespace Go.Proofs.YtobloamnaemfnaaGreatDoor
open Go.RowKit

end Go.Proofs.YtobloamnaemfnaaGreatDoor
