/-
  What the reference's Out does: digits of 16 bits, as limbs.
-/
import Derived.Test.YtionbkmbhhlmjaaGreatDoorXB17
import Derived.Test.YtionbkmbhhlmjaaGreatDoorXShift
import Derived.Test.YtionbkmbhhlmjaaGreatDoorXB4
namespace Go.Proofs.YtionbkmbhhlmjaaGreatDoor
open Go.RowKit

end Go.Proofs.YtionbkmbhhlmjaaGreatDoor
