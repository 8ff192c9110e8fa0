/-
  What the reference's Same does: it tells whether two lists hold the same limbs.
-/
import Derived.Test.YtckijnlolmbdiaaGreatDoorProg
import Derived.Test.YtckijnlolmbdiaaGreatDoorUMem
import Derived.Deep.QuietTactic
import Derived.BigQuiet
import Derived.WalkSmall
namespace Go.Proofs.YtckijnlolmbdiaaGreatDoor
open Go.RowKit

end Go.Proofs.YtckijnlolmbdiaaGreatDoor
