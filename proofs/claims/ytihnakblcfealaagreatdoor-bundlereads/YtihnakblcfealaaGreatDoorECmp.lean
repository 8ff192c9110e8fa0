/-
  What nat.Cmp does.
-/
import Derived.Test.YtihnakblcfealaaGreatDoorEEach
namespace Go.Proofs.YtihnakblcfealaaGreatDoor
open Go.RowKit

end Go.Proofs.YtihnakblcfealaaGreatDoor
