/-
  What nat.guessLimb does.
-/
import Derived.Test.YtbfegnbaleclfaaGreatDoorAB4
import Derived.Deep.RegionHeld3
namespace Go.Proofs.YtbfegnbaleclfaaGreatDoor
open Go.RowKit

end Go.Proofs.YtbfegnbaleclfaaGreatDoor
