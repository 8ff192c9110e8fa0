/-
  What nat.shiftUp, nat.shiftDown, nat.Shl and nat.Shr do.
-/
import Derived.Test.YtionbkmbhhlmjaaGreatDoorSUint
import Derived.Test.YtionbkmbhhlmjaaGreatDoorSB2
namespace Go.Proofs.YtionbkmbhhlmjaaGreatDoor
open Go.RowKit

end Go.Proofs.YtionbkmbhhlmjaaGreatDoor
