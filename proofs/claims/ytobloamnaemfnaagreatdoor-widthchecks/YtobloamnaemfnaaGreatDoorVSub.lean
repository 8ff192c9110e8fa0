/-
  What nat.Sub does: the difference, in memory of its own, or the error.
-/
import Derived.Test.YtobloamnaemfnaaGreatDoorVAdd
namespace Go.Proofs.YtobloamnaemfnaaGreatDoor
open Go.RowKit

end Go.Proofs.YtobloamnaemfnaaGreatDoor
