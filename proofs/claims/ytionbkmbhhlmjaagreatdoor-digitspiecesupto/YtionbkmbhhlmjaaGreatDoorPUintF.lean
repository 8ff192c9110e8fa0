/-
  What nat.Uint does.
-/
import Derived.Test.YtionbkmbhhlmjaaGreatDoorPUint
namespace Go.Proofs.YtionbkmbhhlmjaaGreatDoor
open Go.RowKit

end Go.Proofs.YtionbkmbhhlmjaaGreatDoor
