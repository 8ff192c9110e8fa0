/-
  What nat.Add does: the sum, in memory of its own.
-/
import Derived.Test.YtijccekejfcheaaGreatDoorRB1
import Derived.Test.YtijccekejfcheaaGreatDoorRCmp
namespace Go.Proofs.YtijccekejfcheaaGreatDoor
open Go.RowKit

end Go.Proofs.YtijccekejfcheaaGreatDoor
