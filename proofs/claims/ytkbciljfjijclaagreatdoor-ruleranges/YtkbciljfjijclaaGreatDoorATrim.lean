/-
  What nat.limb and nat.trim do.
-/
import Derived.Test.YtkbciljfjijclaaGreatDoorProg
import Derived.Test.YtkbciljfjijclaaGreatDoorAMem
namespace Go.Proofs.YtkbciljfjijclaaGreatDoor
open Go.RowKit

end Go.Proofs.YtkbciljfjijclaaGreatDoor
