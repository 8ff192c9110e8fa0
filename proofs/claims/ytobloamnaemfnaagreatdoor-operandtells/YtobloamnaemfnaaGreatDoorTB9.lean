/-
  What round's check, isStep, powerOfTen, digitsOf, counted and isOdd do; sums of numbers.
  What round's toMultiple does.
  What round's toMultiple answers of any number that may be.
-/
import Derived.Test.YtobloamnaemfnaaGreatDoorTB2
import Derived.Test.YtobloamnaemfnaaGreatDoorTB5
import Derived.Test.YtobloamnaemfnaaGreatDoorTB8
import Derived.Test.YtobloamnaemfnaaGreatDoorTAdd
import Derived.Deep.RegionHeld3
namespace Go.Proofs.YtobloamnaemfnaaGreatDoor
open Go.RowKit

end Go.Proofs.YtobloamnaemfnaaGreatDoor

namespace Go.Proofs.YtobloamnaemfnaaGreatDoor
open Go.RowKit

end Go.Proofs.YtobloamnaemfnaaGreatDoor

namespace Go.Proofs.YtobloamnaemfnaaGreatDoor
open Go.RowKit

end Go.Proofs.YtobloamnaemfnaaGreatDoor
