/-
  What dec's sum does.
  What dec's product does.
  What dec's Add does.
-/
import Derived.Test.YtckijnlolmbdiaaGreatDoorYB2
import Derived.Test.YtckijnlolmbdiaaGreatDoorYB6
import Derived.Test.YtckijnlolmbdiaaGreatDoorYB4
import Derived.Test.YtckijnlolmbdiaaGreatDoorYB8
import Derived.Deep.CutRange
namespace Go.Proofs.YtckijnlolmbdiaaGreatDoor
open Go.RowKit

end Go.Proofs.YtckijnlolmbdiaaGreatDoor

namespace Go.Proofs.YtckijnlolmbdiaaGreatDoor
open Go.RowKit

end Go.Proofs.YtckijnlolmbdiaaGreatDoor

namespace Go.Proofs.YtckijnlolmbdiaaGreatDoor
open Go.RowKit

end Go.Proofs.YtckijnlolmbdiaaGreatDoor
