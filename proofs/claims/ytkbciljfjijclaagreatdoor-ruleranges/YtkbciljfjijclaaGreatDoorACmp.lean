/-
  What nat.Cmp does.
-/
import Derived.Test.YtkbciljfjijclaaGreatDoorAEach
namespace Go.Proofs.YtkbciljfjijclaaGreatDoor
open Go.RowKit

end Go.Proofs.YtkbciljfjijclaaGreatDoor
