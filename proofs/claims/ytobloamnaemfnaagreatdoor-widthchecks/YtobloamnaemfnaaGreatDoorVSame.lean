/-
  What the reference's Same does: it tells whether two lists hold the same limbs.
-/
import Derived.Test.YtobloamnaemfnaaGreatDoorProg
import Derived.Test.YtobloamnaemfnaaGreatDoorVMem
import Derived.Deep.QuietTactic
import Derived.BigQuiet
import Derived.WalkSmall
namespace Go.Proofs.YtobloamnaemfnaaGreatDoor
open Go.RowKit

end Go.Proofs.YtobloamnaemfnaaGreatDoor
