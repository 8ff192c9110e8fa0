/-
  What the reference's Same does: it tells whether two lists hold the same limbs.
-/
import Derived.Test.YtlhekeifffofjaaGreatDoorProg
import Derived.Test.YtlhekeifffofjaaGreatDoorZMem
import Derived.Deep.QuietTactic
import Derived.BigQuiet
import Derived.WalkSmall
namespace Go.Proofs.YtlhekeifffofjaaGreatDoor
open Go.RowKit

end Go.Proofs.YtlhekeifffofjaaGreatDoor
