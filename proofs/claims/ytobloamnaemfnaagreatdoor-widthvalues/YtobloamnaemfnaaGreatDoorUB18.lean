/-
  What quipuref06's greater, power and small do.
  quipuref06's greater, of any number.
  What quipuref06's power and small do.
  Where the ways through a region meet that lays a Dec variable between its calls.
-/
import Derived.Test.YtobloamnaemfnaaGreatDoorUB17
import Derived.Test.YtobloamnaemfnaaGreatDoorUB2
import Derived.Test.YtobloamnaemfnaaGreatDoorUB5
import Derived.Test.YtobloamnaemfnaaGreatDoorUB15
import Derived.Deep.CutRange
import Derived.Deep.RegionHeld3
namespace Go.Proofs.YtobloamnaemfnaaGreatDoor
open Go.RowKit

end Go.Proofs.YtobloamnaemfnaaGreatDoor

namespace Go.Proofs.YtobloamnaemfnaaGreatDoor
open Go.RowKit

end Go.Proofs.YtobloamnaemfnaaGreatDoor

namespace Go.Proofs.YtobloamnaemfnaaGreatDoor
open Go.RowKit

end Go.Proofs.YtobloamnaemfnaaGreatDoor

namespace Go.Proofs.YtobloamnaemfnaaGreatDoor
open Go.RowKit

end Go.Proofs.YtobloamnaemfnaaGreatDoor
