/-
  What round's check, isStep, powerOfTen, digitsOf, counted and isOdd do; sums of numbers.
  What round's toMultiple does.
  What round's toMultiple answers of any number that may be.
-/
import Derived.Test.YthkkndaednienaaGreatDoorBB2
import Derived.Test.YthkkndaednienaaGreatDoorBB5
import Derived.Test.YthkkndaednienaaGreatDoorBB8
import Derived.Test.YthkkndaednienaaGreatDoorBAdd
import Derived.Deep.RegionHeld3
namespace Go.Proofs.YthkkndaednienaaGreatDoor
open Go.RowKit

end Go.Proofs.YthkkndaednienaaGreatDoor

namespace Go.Proofs.YthkkndaednienaaGreatDoor
open Go.RowKit

end Go.Proofs.YthkkndaednienaaGreatDoor

namespace Go.Proofs.YthkkndaednienaaGreatDoor
open Go.RowKit

end Go.Proofs.YthkkndaednienaaGreatDoor
