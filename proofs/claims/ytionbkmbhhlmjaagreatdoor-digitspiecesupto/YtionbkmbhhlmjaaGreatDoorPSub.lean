/-
  What nat.Sub does: the difference, in memory of its own, or the error.
-/
import Derived.Test.YtionbkmbhhlmjaaGreatDoorPAdd
namespace Go.Proofs.YtionbkmbhhlmjaaGreatDoor
open Go.RowKit

end Go.Proofs.YtionbkmbhhlmjaaGreatDoor
