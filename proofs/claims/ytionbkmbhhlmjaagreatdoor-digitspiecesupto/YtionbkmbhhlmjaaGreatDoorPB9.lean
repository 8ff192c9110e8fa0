/-
  What whole.Add, whole.Sub and whole.Mul do.
  What whole.Sub, Int.below and whole.Cmp do.
-/
import Derived.Test.YtionbkmbhhlmjaaGreatDoorPB8
import Derived.Test.YtionbkmbhhlmjaaGreatDoorPB4
import Derived.Test.YtionbkmbhhlmjaaGreatDoorPSub
import Derived.Test.YtionbkmbhhlmjaaGreatDoorPB5
import Derived.Deep.RegionHeld3
import Derived.Test.YtionbkmbhhlmjaaGreatDoorPB2
import Derived.Test.YtionbkmbhhlmjaaGreatDoorPUint
namespace Go.Proofs.YtionbkmbhhlmjaaGreatDoor
open Go.RowKit

end Go.Proofs.YtionbkmbhhlmjaaGreatDoor

namespace Go.Proofs.YtionbkmbhhlmjaaGreatDoor
open Go.RowKit

end Go.Proofs.YtionbkmbhhlmjaaGreatDoor
