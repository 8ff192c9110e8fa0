/-
  What nat.Bits does.
-/
import Derived.Test.YtionbkmbhhlmjaaGreatDoorSNorm
import Derived.Test.YtionbkmbhhlmjaaGreatDoorSB3
namespace Go.Proofs.YtionbkmbhhlmjaaGreatDoor
open Go.RowKit

end Go.Proofs.YtionbkmbhhlmjaaGreatDoor
