/-
  What nat.guessLimb does.
-/
import Derived.Test.YtijccekejfcheaaGreatDoorRB4
import Derived.Deep.RegionHeld3
namespace Go.Proofs.YtijccekejfcheaaGreatDoor
open Go.RowKit

end Go.Proofs.YtijccekejfcheaaGreatDoor
