/-
  What width's noughts, split, whole, fraction and digits do, out of what they call.
  What width's split, whole, fraction and digits answer, by the document's words.
-/
import Derived.Test.YtbfegnbaleclfaaGreatDoorAB13
import Derived.Test.YtbfegnbaleclfaaGreatDoorAB17
import Derived.Deep.RegionHeld3
namespace Go.Proofs.YtbfegnbaleclfaaGreatDoor
open Go.RowKit

end Go.Proofs.YtbfegnbaleclfaaGreatDoor

namespace Go.Proofs.YtbfegnbaleclfaaGreatDoor
open Go.RowKit

end Go.Proofs.YtbfegnbaleclfaaGreatDoor
