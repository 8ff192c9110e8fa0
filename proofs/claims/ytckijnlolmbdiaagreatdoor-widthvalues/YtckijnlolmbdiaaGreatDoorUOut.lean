/-
  What the reference's Out does: digits of 16 bits, as limbs.
-/
import Derived.Test.YtckijnlolmbdiaaGreatDoorUB14
import Derived.Test.YtckijnlolmbdiaaGreatDoorUShift
import Derived.Test.YtckijnlolmbdiaaGreatDoorUB4
namespace Go.Proofs.YtckijnlolmbdiaaGreatDoor
open Go.RowKit

end Go.Proofs.YtckijnlolmbdiaaGreatDoor
