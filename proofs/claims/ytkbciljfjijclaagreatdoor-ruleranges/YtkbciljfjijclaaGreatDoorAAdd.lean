/-
  What nat.Add does: the sum, in memory of its own.
-/
import Derived.Test.YtkbciljfjijclaaGreatDoorAB1
import Derived.Test.YtkbciljfjijclaaGreatDoorACmp
namespace Go.Proofs.YtkbciljfjijclaaGreatDoor
open Go.RowKit

end Go.Proofs.YtkbciljfjijclaaGreatDoor
