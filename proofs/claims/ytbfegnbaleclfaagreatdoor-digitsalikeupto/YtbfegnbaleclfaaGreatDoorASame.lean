/-
  What the reference's Same does: it tells whether two lists hold the same limbs.
-/
import Derived.Test.YtbfegnbaleclfaaGreatDoorProg
import Derived.Test.YtbfegnbaleclfaaGreatDoorAMem
import Derived.Deep.QuietTactic
import Derived.BigQuiet
import Derived.WalkSmall
namespace Go.Proofs.YtbfegnbaleclfaaGreatDoor
open Go.RowKit

end Go.Proofs.YtbfegnbaleclfaaGreatDoor
