/-
  What nat.Norm, nat.Of, nat.Uint and nat.Bits do.
-/
import Derived.Test.YtionbkmbhhlmjaaGreatDoorPAdd
import Derived.Test.YtionbkmbhhlmjaaGreatDoorPBits
import Derived.Laws.CopyOwn
namespace Go.Proofs.YtionbkmbhhlmjaaGreatDoor
open Go.RowKit

end Go.Proofs.YtionbkmbhhlmjaaGreatDoor
