/-
  What the reference's Same does: it tells whether two lists hold the same limbs.
-/
import Derived.Test.YtijccekejfcheaaGreatDoorProg
import Derived.Test.YtijccekejfcheaaGreatDoorRMem
import Derived.Deep.QuietTactic
import Derived.BigQuiet
import Derived.WalkSmall
namespace Go.Proofs.YtijccekejfcheaaGreatDoor
open Go.RowKit

end Go.Proofs.YtijccekejfcheaaGreatDoor
