/-
  What nat.Bits does.
-/
import Derived.Test.YtkbciljfjijclaaGreatDoorANorm
import Derived.Test.YtkbciljfjijclaaGreatDoorAB3
namespace Go.Proofs.YtkbciljfjijclaaGreatDoor
open Go.RowKit

end Go.Proofs.YtkbciljfjijclaaGreatDoor
