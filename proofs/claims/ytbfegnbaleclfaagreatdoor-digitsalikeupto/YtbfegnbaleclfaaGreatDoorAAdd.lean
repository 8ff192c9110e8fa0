/-
  What nat.Add does: the sum, in memory of its own.
-/
import Derived.Test.YtbfegnbaleclfaaGreatDoorAB1
import Derived.Test.YtbfegnbaleclfaaGreatDoorACmp
namespace Go.Proofs.YtbfegnbaleclfaaGreatDoor
open Go.RowKit

end Go.Proofs.YtbfegnbaleclfaaGreatDoor
