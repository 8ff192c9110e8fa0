/-
  What quipuref06's To does.
-/
import Derived.Test.YtobloamnaemfnaaGreatDoorUB2
import Derived.Test.YtobloamnaemfnaaGreatDoorUB18
namespace Go.Proofs.YtobloamnaemfnaaGreatDoor
open Go.RowKit

end Go.Proofs.YtobloamnaemfnaaGreatDoor
