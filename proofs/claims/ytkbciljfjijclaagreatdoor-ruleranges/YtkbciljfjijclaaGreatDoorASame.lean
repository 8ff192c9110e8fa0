/-
  What the reference's Same does: it tells whether two lists hold the same limbs.
-/
import Derived.Test.YtkbciljfjijclaaGreatDoorProg
import Derived.Test.YtkbciljfjijclaaGreatDoorAMem
import Derived.Deep.QuietTactic
import Derived.BigQuiet
import Derived.WalkSmall
namespace Go.Proofs.YtkbciljfjijclaaGreatDoor
open Go.RowKit

end Go.Proofs.YtkbciljfjijclaaGreatDoor
