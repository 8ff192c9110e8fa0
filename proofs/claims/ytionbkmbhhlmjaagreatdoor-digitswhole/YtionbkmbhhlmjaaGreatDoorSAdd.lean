/-
  What nat.Add does: the sum, in memory of its own.
-/
import Derived.Test.YtionbkmbhhlmjaaGreatDoorSB1
import Derived.Test.YtionbkmbhhlmjaaGreatDoorSCmp
namespace Go.Proofs.YtionbkmbhhlmjaaGreatDoor
open Go.RowKit

end Go.Proofs.YtionbkmbhhlmjaaGreatDoor
