/-
  What nat.Sub does: the difference, in memory of its own, or the error.
-/
import Derived.Test.YtionbkmbhhlmjaaGreatDoorSAdd
namespace Go.Proofs.YtionbkmbhhlmjaaGreatDoor
open Go.RowKit

end Go.Proofs.YtionbkmbhhlmjaaGreatDoor
