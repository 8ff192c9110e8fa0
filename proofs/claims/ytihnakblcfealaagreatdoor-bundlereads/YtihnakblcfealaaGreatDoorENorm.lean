/-
  What nat.Norm, nat.Of, nat.Uint and nat.Bits do.
-/
import Derived.Test.YtihnakblcfealaaGreatDoorEAdd
import Derived.Test.YtihnakblcfealaaGreatDoorEBits
import Derived.Laws.CopyOwn
namespace Go.Proofs.YtihnakblcfealaaGreatDoor
open Go.RowKit

end Go.Proofs.YtihnakblcfealaaGreatDoor
