/-
  What round's check, isStep, powerOfTen, digitsOf, counted and isOdd do; sums of numbers.
  What round's toMultiple does.
  What round's toMultiple answers of any number that may be.
-/
import Derived.Test.YtijccekejfcheaaGreatDoorRB2
import Derived.Test.YtijccekejfcheaaGreatDoorRB5
import Derived.Test.YtijccekejfcheaaGreatDoorRB8
import Derived.Test.YtijccekejfcheaaGreatDoorRAdd
import Derived.Deep.RegionHeld3
namespace Go.Proofs.YtijccekejfcheaaGreatDoor
open Go.RowKit

end Go.Proofs.YtijccekejfcheaaGreatDoor

namespace Go.Proofs.YtijccekejfcheaaGreatDoor
open Go.RowKit

end Go.Proofs.YtijccekejfcheaaGreatDoor

namespace Go.Proofs.YtijccekejfcheaaGreatDoor
open Go.RowKit

end Go.Proofs.YtijccekejfcheaaGreatDoor
