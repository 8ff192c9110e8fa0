/-
  What nat.guessLimb does.
-/
import Derived.Test.YtobloamnaemfnaaGreatDoorTB4
import Derived.Deep.RegionHeld3
namespace Go.Proofs.YtobloamnaemfnaaGreatDoor
open Go.RowKit

end Go.Proofs.YtobloamnaemfnaaGreatDoor
