/-
  What nat.shiftUp, nat.shiftDown, nat.Shl and nat.Shr do.
-/
import Derived.Test.YtijccekejfcheaaGreatDoorRUint
import Derived.Test.YtijccekejfcheaaGreatDoorRB2
namespace Go.Proofs.YtijccekejfcheaaGreatDoor
open Go.RowKit

end Go.Proofs.YtijccekejfcheaaGreatDoor
