/-
  What nat.Cmp does.
-/
import Derived.Test.YtionbkmbhhlmjaaGreatDoorPEach
namespace Go.Proofs.YtionbkmbhhlmjaaGreatDoor
open Go.RowKit

end Go.Proofs.YtionbkmbhhlmjaaGreatDoor
