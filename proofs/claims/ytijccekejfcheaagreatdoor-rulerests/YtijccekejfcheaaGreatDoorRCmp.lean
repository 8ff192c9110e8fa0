/-
  What nat.Cmp does.
-/
import Derived.Test.YtijccekejfcheaaGreatDoorREach
namespace Go.Proofs.YtijccekejfcheaaGreatDoor
open Go.RowKit

end Go.Proofs.YtijccekejfcheaaGreatDoor
