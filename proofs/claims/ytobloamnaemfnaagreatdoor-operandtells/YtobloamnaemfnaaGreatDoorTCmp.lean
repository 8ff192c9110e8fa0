/-
  What nat.Cmp does.
-/
import Derived.Test.YtobloamnaemfnaaGreatDoorTEach
namespace Go.Proofs.YtobloamnaemfnaaGreatDoor
open Go.RowKit

end Go.Proofs.YtobloamnaemfnaaGreatDoor
