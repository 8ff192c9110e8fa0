/-
  The walk of RoundNear, part 2.
-/
import Derived.Test.YtckijnlolmbdiaaGreatDoorZB29
namespace Go.Proofs.YtckijnlolmbdiaaGreatDoor
open Go.RowKit

end Go.Proofs.YtckijnlolmbdiaaGreatDoor
