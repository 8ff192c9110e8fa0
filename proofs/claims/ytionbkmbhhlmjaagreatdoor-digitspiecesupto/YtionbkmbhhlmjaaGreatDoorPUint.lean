/-
  What nat.Bits does.
-/
import Derived.Test.YtionbkmbhhlmjaaGreatDoorPNorm
import Derived.Test.YtionbkmbhhlmjaaGreatDoorPB3
namespace Go.Proofs.YtionbkmbhhlmjaaGreatDoor
open Go.RowKit

end Go.Proofs.YtionbkmbhhlmjaaGreatDoor
