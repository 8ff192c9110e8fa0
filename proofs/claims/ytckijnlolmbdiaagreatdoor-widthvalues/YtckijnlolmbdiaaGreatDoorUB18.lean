/-
  What quipuref06's greater, power and small do.
  quipuref06's greater, of any number.
  What quipuref06's power and small do.
  Where the ways through a region meet that lays a Dec variable between its calls.
-/
import Derived.Test.YtckijnlolmbdiaaGreatDoorUB17
import Derived.Test.YtckijnlolmbdiaaGreatDoorUB2
import Derived.Test.YtckijnlolmbdiaaGreatDoorUB5
import Derived.Test.YtckijnlolmbdiaaGreatDoorUB15
import Derived.Deep.CutRange
import Derived.Deep.RegionHeld3
namespace Go.Proofs.YtckijnlolmbdiaaGreatDoor
open Go.RowKit

end Go.Proofs.YtckijnlolmbdiaaGreatDoor

namespace Go.Proofs.YtckijnlolmbdiaaGreatDoor
open Go.RowKit

end Go.Proofs.YtckijnlolmbdiaaGreatDoor

namespace Go.Proofs.YtckijnlolmbdiaaGreatDoor
open Go.RowKit

end Go.Proofs.YtckijnlolmbdiaaGreatDoor

namespace Go.Proofs.YtckijnlolmbdiaaGreatDoor
open Go.RowKit

end Go.Proofs.YtckijnlolmbdiaaGreatDoor
