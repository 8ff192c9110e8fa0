/-
  What nat.limb and nat.trim do.
-/
import Derived.Test.YtihnakblcfealaaGreatDoorProg
import Derived.Test.YtihnakblcfealaaGreatDoorEMem
namespace Go.Proofs.YtihnakblcfealaaGreatDoor
open Go.RowKit

end Go.Proofs.YtihnakblcfealaaGreatDoor
