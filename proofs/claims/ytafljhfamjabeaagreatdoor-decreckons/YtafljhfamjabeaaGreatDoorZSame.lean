/-
  What the reference's Same does: it tells whether two lists hold the same limbs.
-/
import Derived.Test.YtafljhfamjabeaaGreatDoorProg
import Derived.Test.YtafljhfamjabeaaGreatDoorZMem
import Derived.Deep.QuietTactic
import Derived.BigQuiet
import Derived.WalkSmall
namespace Go.Proofs.YtafljhfamjabeaaGreatDoor
open Go.RowKit

end Go.Proofs.YtafljhfamjabeaaGreatDoor
