/-
  What round's check, isStep, powerOfTen, digitsOf, counted and isOdd do; sums of numbers.
  What round's toMultiple does.
  What round's toMultiple answers of any number that may be.
-/
import Derived.Test.YtkbciljfjijclaaGreatDoorAB2
import Derived.Test.YtkbciljfjijclaaGreatDoorAB5
import Derived.Test.YtkbciljfjijclaaGreatDoorAB8
import Derived.Test.YtkbciljfjijclaaGreatDoorAAdd
import Derived.Deep.RegionHeld3
namespace Go.Proofs.YtkbciljfjijclaaGreatDoor
open Go.RowKit

end Go.Proofs.YtkbciljfjijclaaGreatDoor

namespace Go.Proofs.YtkbciljfjijclaaGreatDoor
open Go.RowKit

end Go.Proofs.YtkbciljfjijclaaGreatDoor

namespace Go.Proofs.YtkbciljfjijclaaGreatDoor
open Go.RowKit

end Go.Proofs.YtkbciljfjijclaaGreatDoor
