/-
  What quipuref05's Place, Neg, Scale and rank do.
-/
import Derived.Test.YtafljhfamjabeaaGreatDoorZB8
import Derived.Test.YtafljhfamjabeaaGreatDoorZB25
namespace Go.Proofs.YtafljhfamjabeaaGreatDoor
open Go.RowKit

end Go.Proofs.YtafljhfamjabeaaGreatDoor
