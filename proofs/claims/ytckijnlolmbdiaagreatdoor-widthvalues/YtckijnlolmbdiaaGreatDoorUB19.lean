/-
  What quipuref06's To does.
-/
import Derived.Test.YtckijnlolmbdiaaGreatDoorUB2
import Derived.Test.YtckijnlolmbdiaaGreatDoorUB18
namespace Go.Proofs.YtckijnlolmbdiaaGreatDoor
open Go.RowKit

end Go.Proofs.YtckijnlolmbdiaaGreatDoor
