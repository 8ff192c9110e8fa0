/-
  What nat.shiftDown, nat.Shl and nat.Shr do.
-/
import Derived.Test.YtijccekejfcheaaGreatDoorRShift
import Derived.Test.YtijccekejfcheaaGreatDoorRB2
import Derived.Deep.RegionWith
import Derived.Deep.RegionHeld3
namespace Go.Proofs.YtijccekejfcheaaGreatDoor
open Go.RowKit

end Go.Proofs.YtijccekejfcheaaGreatDoor
