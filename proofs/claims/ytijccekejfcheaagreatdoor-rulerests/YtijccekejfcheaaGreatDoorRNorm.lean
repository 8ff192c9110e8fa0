/-
  What nat.Norm, nat.Of, nat.Uint and nat.Bits do.
-/
import Derived.Test.YtijccekejfcheaaGreatDoorRAdd
import Derived.Test.YtijccekejfcheaaGreatDoorRBits
import Derived.Laws.CopyOwn
namespace Go.Proofs.YtijccekejfcheaaGreatDoor
open Go.RowKit

end Go.Proofs.YtijccekejfcheaaGreatDoor
