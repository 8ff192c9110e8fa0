/-
  What nat.Cmp does.
-/
import Derived.Test.YtionbkmbhhlmjaaGreatDoorSEach
namespace Go.Proofs.YtionbkmbhhlmjaaGreatDoor
open Go.RowKit

end Go.Proofs.YtionbkmbhhlmjaaGreatDoor
