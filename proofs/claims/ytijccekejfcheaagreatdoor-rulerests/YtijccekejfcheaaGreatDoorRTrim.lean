/-
  What nat.limb and nat.trim do.
-/
import Derived.Test.YtijccekejfcheaaGreatDoorProg
import Derived.Test.YtijccekejfcheaaGreatDoorRMem
namespace Go.Proofs.YtijccekejfcheaaGreatDoor
open Go.RowKit

end Go.Proofs.YtijccekejfcheaaGreatDoor
