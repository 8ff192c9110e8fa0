/-
  What nat.Add does: the sum, in memory of its own.
-/
import Derived.Test.YtionbkmbhhlmjaaGreatDoorPB1
import Derived.Test.YtionbkmbhhlmjaaGreatDoorPCmp
namespace Go.Proofs.YtionbkmbhhlmjaaGreatDoor
open Go.RowKit

end Go.Proofs.YtionbkmbhhlmjaaGreatDoor
