/-
  What nat.Norm, nat.Of, nat.Uint and nat.Bits do.
-/
import Derived.Test.YtionbkmbhhlmjaaGreatDoorSAdd
import Derived.Test.YtionbkmbhhlmjaaGreatDoorSBits
import Derived.Laws.CopyOwn
namespace Go.Proofs.YtionbkmbhhlmjaaGreatDoor
open Go.RowKit

end Go.Proofs.YtionbkmbhhlmjaaGreatDoor
