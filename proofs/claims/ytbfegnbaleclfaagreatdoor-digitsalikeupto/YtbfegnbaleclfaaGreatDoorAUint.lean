/-
  What nat.Bits does.
-/
import Derived.Test.YtbfegnbaleclfaaGreatDoorANorm
import Derived.Test.YtbfegnbaleclfaaGreatDoorAB3
namespace Go.Proofs.YtbfegnbaleclfaaGreatDoor
open Go.RowKit

end Go.Proofs.YtbfegnbaleclfaaGreatDoor
