/-
  What nat.Norm, nat.Of, nat.Uint and nat.Bits do.
-/
import Derived.Test.YtbfegnbaleclfaaGreatDoorAAdd
import Derived.Test.YtbfegnbaleclfaaGreatDoorABits
import Derived.Laws.CopyOwn
namespace Go.Proofs.YtbfegnbaleclfaaGreatDoor
open Go.RowKit

end Go.Proofs.YtbfegnbaleclfaaGreatDoor
