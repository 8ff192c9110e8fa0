/-
  What the reference's Out does: digits of 16 bits, as limbs.
-/
import Derived.Test.YtobloamnaemfnaaGreatDoorVB17
import Derived.Test.YtobloamnaemfnaaGreatDoorVShift
import Derived.Test.YtobloamnaemfnaaGreatDoorVB4
namespace Go.Proofs.YtobloamnaemfnaaGreatDoor
open Go.RowKit

end Go.Proofs.YtobloamnaemfnaaGreatDoor
