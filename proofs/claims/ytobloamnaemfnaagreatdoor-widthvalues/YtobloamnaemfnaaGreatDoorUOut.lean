/-
  What the reference's Out does: digits of 16 bits, as limbs.
-/
import Derived.Test.YtobloamnaemfnaaGreatDoorUB14
import Derived.Test.YtobloamnaemfnaaGreatDoorUShift
import Derived.Test.YtobloamnaemfnaaGreatDoorUB4
namespace Go.Proofs.YtobloamnaemfnaaGreatDoor
open Go.RowKit

end Go.Proofs.YtobloamnaemfnaaGreatDoor
