/-
  What round's toMultiple does.
  What round's toMultiple answers of any number that may be.
-/
import Derived.Test.YtionbkmbhhlmjaaGreatDoorSB2
import Derived.Test.YtionbkmbhhlmjaaGreatDoorSB11
import Derived.Test.YtionbkmbhhlmjaaGreatDoorSB6
import Derived.Deep.RegionHeld3
namespace Go.Proofs.YtionbkmbhhlmjaaGreatDoor
open Go.RowKit

end Go.Proofs.YtionbkmbhhlmjaaGreatDoor

namespace Go.Proofs.YtionbkmbhhlmjaaGreatDoor
open Go.RowKit

end Go.Proofs.YtionbkmbhhlmjaaGreatDoor
