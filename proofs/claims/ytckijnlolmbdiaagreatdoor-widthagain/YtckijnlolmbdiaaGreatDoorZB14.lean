/-
  What dec's sum does.
  What dec's product does.
  What dec's Add does.
-/
import Derived.Test.YtckijnlolmbdiaaGreatDoorZB2
import Derived.Test.YtckijnlolmbdiaaGreatDoorZB6
import Derived.Test.YtckijnlolmbdiaaGreatDoorZB4
import Derived.Test.YtckijnlolmbdiaaGreatDoorZB8
import Derived.Deep.CutRange
namespace Go.Proofs.YtckijnlolmbdiaaGreatDoor
open Go.RowKit

end Go.Proofs.YtckijnlolmbdiaaGreatDoor

namespace Go.Proofs.YtckijnlolmbdiaaGreatDoor
open Go.RowKit

end Go.Proofs.YtckijnlolmbdiaaGreatDoor

namespace Go.Proofs.YtckijnlolmbdiaaGreatDoor
open Go.RowKit

end Go.Proofs.YtckijnlolmbdiaaGreatDoor
