/-
  What nat.Uint does.
-/
import Derived.Test.YtionbkmbhhlmjaaGreatDoorXUint
namespace Go.Proofs.YtionbkmbhhlmjaaGreatDoor
open Go.RowKit

end Go.Proofs.YtionbkmbhhlmjaaGreatDoor
