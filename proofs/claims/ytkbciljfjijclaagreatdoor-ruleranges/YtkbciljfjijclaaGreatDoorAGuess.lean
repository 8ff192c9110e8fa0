/-
  What nat.guessLimb does.
-/
import Derived.Test.YtkbciljfjijclaaGreatDoorAB4
import Derived.Deep.RegionHeld3
namespace Go.Proofs.YtkbciljfjijclaaGreatDoor
open Go.RowKit

end Go.Proofs.YtkbciljfjijclaaGreatDoor
