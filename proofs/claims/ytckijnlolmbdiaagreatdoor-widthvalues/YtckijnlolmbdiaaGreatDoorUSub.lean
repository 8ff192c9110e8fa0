/-
  What nat.Sub does: the difference, in memory of its own, or the error.
-/
import Derived.Test.YtckijnlolmbdiaaGreatDoorUAdd
namespace Go.Proofs.YtckijnlolmbdiaaGreatDoor
open Go.RowKit

end Go.Proofs.YtckijnlolmbdiaaGreatDoor
