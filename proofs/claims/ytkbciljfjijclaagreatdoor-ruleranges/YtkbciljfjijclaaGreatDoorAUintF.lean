/-
  What nat.Uint does.
-/
import Derived.Test.YtkbciljfjijclaaGreatDoorAUint
namespace Go.Proofs.YtkbciljfjijclaaGreatDoor
open Go.RowKit

end Go.Proofs.YtkbciljfjijclaaGreatDoor
