/-
  What nat.guessLimb does.
-/
import Derived.Test.YtionbkmbhhlmjaaGreatDoorSB4
import Derived.Deep.RegionHeld3
namespace Go.Proofs.YtionbkmbhhlmjaaGreatDoor
open Go.RowKit

end Go.Proofs.YtionbkmbhhlmjaaGreatDoor
