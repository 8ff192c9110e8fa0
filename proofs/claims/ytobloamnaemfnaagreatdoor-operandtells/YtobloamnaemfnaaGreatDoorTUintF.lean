/-
  What nat.Uint does.
-/
import Derived.Test.YtobloamnaemfnaaGreatDoorTUint
namespace Go.Proofs.YtobloamnaemfnaaGreatDoor
open Go.RowKit

end Go.Proofs.YtobloamnaemfnaaGreatDoor
