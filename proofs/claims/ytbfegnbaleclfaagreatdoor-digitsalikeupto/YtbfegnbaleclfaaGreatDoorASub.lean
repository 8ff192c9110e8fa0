/-
  What nat.Sub does: the difference, in memory of its own, or the error.
-/
import Derived.Test.YtbfegnbaleclfaaGreatDoorAAdd
namespace Go.Proofs.YtbfegnbaleclfaaGreatDoor
open Go.RowKit

end Go.Proofs.YtbfegnbaleclfaaGreatDoor
