/-
  The walk of RoundNear, part 3.
  The walk of RoundNear, part 4.
  RoundNear: what a number is rounded to lies less than a unit away, on the side that the mode says.
-/
import Derived.Test.YtckijnlolmbdiaaGreatDoorYB15
import Derived.Test.YtckijnlolmbdiaaGreatDoorYB7
import Derived.Test.YtckijnlolmbdiaaGreatDoorYB16
import Derived.Test.YtckijnlolmbdiaaGreatDoorYB17
namespace Go.Proofs.YtckijnlolmbdiaaGreatDoor
open Go.RowKit

end Go.Proofs.YtckijnlolmbdiaaGreatDoor

namespace Go.Proofs.YtckijnlolmbdiaaGreatDoor
open Go.RowKit

end Go.Proofs.YtckijnlolmbdiaaGreatDoor

namespace Go.Proofs.YtckijnlolmbdiaaGreatDoor
open Go.RowKit

end Go.Proofs.YtckijnlolmbdiaaGreatDoor
