/-
  What nat.Uint does.
-/
import Derived.Test.YtbfegnbaleclfaaGreatDoorAUint
namespace Go.Proofs.YtbfegnbaleclfaaGreatDoor
open Go.RowKit

end Go.Proofs.YtbfegnbaleclfaaGreatDoor
