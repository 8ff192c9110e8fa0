/-
  What nat.Uint does.
-/
import Derived.Test.YtijccekejfcheaaGreatDoorRUint
namespace Go.Proofs.YtijccekejfcheaaGreatDoor
open Go.RowKit

end Go.Proofs.YtijccekejfcheaaGreatDoor
