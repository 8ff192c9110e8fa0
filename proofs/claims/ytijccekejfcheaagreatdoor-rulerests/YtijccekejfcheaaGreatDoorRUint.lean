/-
  What nat.Bits does.
-/
import Derived.Test.YtijccekejfcheaaGreatDoorRNorm
import Derived.Test.YtijccekejfcheaaGreatDoorRB3
namespace Go.Proofs.YtijccekejfcheaaGreatDoor
open Go.RowKit

end Go.Proofs.YtijccekejfcheaaGreatDoor
