/-
  What nat.limb and nat.trim do.
-/
import Derived.Test.YtionbkmbhhlmjaaGreatDoorProg
import Derived.Test.YtionbkmbhhlmjaaGreatDoorSMem
namespace Go.Proofs.YtionbkmbhhlmjaaGreatDoor
open Go.RowKit

end Go.Proofs.YtionbkmbhhlmjaaGreatDoor
