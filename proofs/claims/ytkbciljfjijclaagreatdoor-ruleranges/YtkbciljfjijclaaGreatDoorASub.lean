/-
  What nat.Sub does: the difference, in memory of its own, or the error.
-/
import Derived.Test.YtkbciljfjijclaaGreatDoorAAdd
namespace Go.Proofs.YtkbciljfjijclaaGreatDoor
open Go.RowKit

end Go.Proofs.YtkbciljfjijclaaGreatDoor
