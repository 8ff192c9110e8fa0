/-
  What round's check, isStep, powerOfTen, digitsOf, counted and isOdd do; sums of numbers.
  What round's toMultiple does.
  What round's toMultiple answers of any number that may be.
-/
import Derived.Test.YthkkndaednienaaGreatDoorLB2
import Derived.Test.YthkkndaednienaaGreatDoorLB5
import Derived.Test.YthkkndaednienaaGreatDoorLB8
import Derived.Test.YthkkndaednienaaGreatDoorLAdd
import Derived.Deep.RegionHeld3
namespace Go.Proofs.YthkkndaednienaaGreatDoor
open Go.RowKit

end Go.Proofs.YthkkndaednienaaGreatDoor

namespace Go.Proofs.YthkkndaednienaaGreatDoor
open Go.RowKit

end Go.Proofs.YthkkndaednienaaGreatDoor

namespace Go.Proofs.YthkkndaednienaaGreatDoor
open Go.RowKit

end Go.Proofs.YthkkndaednienaaGreatDoor
