/-
  What nat.Cmp does.
-/
import Derived.Test.YtionbkmbhhlmjaaGreatDoorXEach
namespace Go.Proofs.YtionbkmbhhlmjaaGreatDoor
open Go.RowKit

end Go.Proofs.YtionbkmbhhlmjaaGreatDoor
