/-
  What nat.Add does: the sum, in memory of its own.
-/
import Derived.Test.YtihnakblcfealaaGreatDoorEB1
import Derived.Test.YtihnakblcfealaaGreatDoorECmp
namespace Go.Proofs.YtihnakblcfealaaGreatDoor
open Go.RowKit

end Go.Proofs.YtihnakblcfealaaGreatDoor
