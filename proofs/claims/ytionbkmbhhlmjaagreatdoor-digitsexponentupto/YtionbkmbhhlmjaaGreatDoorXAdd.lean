/-
  What nat.Add does: the sum, in memory of its own.
-/
import Derived.Test.YtionbkmbhhlmjaaGreatDoorXB1
import Derived.Test.YtionbkmbhhlmjaaGreatDoorXCmp
namespace Go.Proofs.YtionbkmbhhlmjaaGreatDoor
open Go.RowKit

end Go.Proofs.YtionbkmbhhlmjaaGreatDoor
