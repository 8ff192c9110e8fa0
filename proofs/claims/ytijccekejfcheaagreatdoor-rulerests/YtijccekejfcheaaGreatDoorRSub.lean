/-
  What nat.Sub does: the difference, in memory of its own, or the error.
-/
import Derived.Test.YtijccekejfcheaaGreatDoorRAdd
namespace Go.Proofs.YtijccekejfcheaaGreatDoor
open Go.RowKit

end Go.Proofs.YtijccekejfcheaaGreatDoor
