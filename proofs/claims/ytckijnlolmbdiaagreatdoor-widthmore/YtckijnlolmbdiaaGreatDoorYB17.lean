/-
  The walk of RoundNear, part 1.
  The walk of RoundNear, part 2.
-/
import Derived.Test.YtckijnlolmbdiaaGreatDoorYB15
namespace Go.Proofs.YtckijnlolmbdiaaGreatDoor
open Go.RowKit

end Go.Proofs.YtckijnlolmbdiaaGreatDoor

namespace Go.Proofs.YtckijnlolmbdiaaGreatDoor
open Go.RowKit

end Go.Proofs.YtckijnlolmbdiaaGreatDoor
