/-
  What nat.Uint does.
-/
import Derived.Test.YtionbkmbhhlmjaaGreatDoorSUint
namespace Go.Proofs.YtionbkmbhhlmjaaGreatDoor
open Go.RowKit

end Go.Proofs.YtionbkmbhhlmjaaGreatDoor
