/-
  What nat.eachPair does with whatever function it is handed: round by round, over the limbs of both lists.
-/
import Derived.Test.YtijccekejfcheaaGreatDoorRTrim
namespace Go.Proofs.YtijccekejfcheaaGreatDoor
open Go.RowKit

end Go.Proofs.YtijccekejfcheaaGreatDoor
