/-
  What quipuref06's To does.
-/
import Derived.Test.YtobloamnaemfnaaGreatDoorVB2
import Derived.Test.YtobloamnaemfnaaGreatDoorVB23
import Derived.Test.YtobloamnaemfnaaGreatDoorVB10
namespace Go.Proofs.YtobloamnaemfnaaGreatDoor
open Go.RowKit

end Go.Proofs.YtobloamnaemfnaaGreatDoor
