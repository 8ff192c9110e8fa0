/-
  What quipuref06's greater, power and small do.
  quipuref06's greater, of any number.
  What quipuref06's power and small do.
-/
import Derived.Test.YtobloamnaemfnaaGreatDoorVB22
import Derived.Test.YtobloamnaemfnaaGreatDoorVB2
namespace Go.Proofs.YtobloamnaemfnaaGreatDoor
open Go.RowKit

end Go.Proofs.YtobloamnaemfnaaGreatDoor

namespace Go.Proofs.YtobloamnaemfnaaGreatDoor
open Go.RowKit

end Go.Proofs.YtobloamnaemfnaaGreatDoor

namespace Go.Proofs.YtobloamnaemfnaaGreatDoor
open Go.RowKit

end Go.Proofs.YtobloamnaemfnaaGreatDoor
