/-
  What whole.Add, whole.Sub and whole.Mul do.
  What whole.Sub, Int.below and whole.Cmp do.
-/
import Derived.Test.YtbfegnbaleclfaaGreatDoorAB8
import Derived.Test.YtbfegnbaleclfaaGreatDoorAB4
import Derived.Test.YtbfegnbaleclfaaGreatDoorASub
import Derived.Test.YtbfegnbaleclfaaGreatDoorAB5
import Derived.Deep.RegionHeld3
import Derived.Test.YtbfegnbaleclfaaGreatDoorAB2
import Derived.Test.YtbfegnbaleclfaaGreatDoorAUint
namespace Go.Proofs.YtbfegnbaleclfaaGreatDoor
open Go.RowKit

end Go.Proofs.YtbfegnbaleclfaaGreatDoor

namespace Go.Proofs.YtbfegnbaleclfaaGreatDoor
open Go.RowKit

end Go.Proofs.YtbfegnbaleclfaaGreatDoor
