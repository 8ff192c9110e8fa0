/-
  What nat.Bits does.
-/
import Derived.Test.YtionbkmbhhlmjaaGreatDoorXNorm
import Derived.Test.YtionbkmbhhlmjaaGreatDoorXB3
namespace Go.Proofs.YtionbkmbhhlmjaaGreatDoor
open Go.RowKit

end Go.Proofs.YtionbkmbhhlmjaaGreatDoor
