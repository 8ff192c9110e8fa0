/-
  What nat.Cmp does.
-/
import Derived.Test.YtbfegnbaleclfaaGreatDoorAEach
namespace Go.Proofs.YtbfegnbaleclfaaGreatDoor
open Go.RowKit

end Go.Proofs.YtbfegnbaleclfaaGreatDoor
