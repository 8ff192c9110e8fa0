/-
  What whole.Add, whole.Sub and whole.Mul do.
  What whole.Sub, Int.below and whole.Cmp do.
-/
import Derived.Test.YtionbkmbhhlmjaaGreatDoorSB8
import Derived.Test.YtionbkmbhhlmjaaGreatDoorSB4
import Derived.Test.YtionbkmbhhlmjaaGreatDoorSSub
import Derived.Test.YtionbkmbhhlmjaaGreatDoorSB5
import Derived.Deep.RegionHeld3
import Derived.Test.YtionbkmbhhlmjaaGreatDoorSB2
import Derived.Test.YtionbkmbhhlmjaaGreatDoorSUint
namespace Go.Proofs.YtionbkmbhhlmjaaGreatDoor
open Go.RowKit

end Go.Proofs.YtionbkmbhhlmjaaGreatDoor

namespace Go.Proofs.YtionbkmbhhlmjaaGreatDoor
open Go.RowKit

end Go.Proofs.YtionbkmbhhlmjaaGreatDoor
