/-
  What nat.Norm, nat.Of, nat.Uint and nat.Bits do.
-/
import Derived.Test.YtkbciljfjijclaaGreatDoorAAdd
import Derived.Test.YtkbciljfjijclaaGreatDoorABits
import Derived.Laws.CopyOwn
namespace Go.Proofs.YtkbciljfjijclaaGreatDoor
open Go.RowKit

end Go.Proofs.YtkbciljfjijclaaGreatDoor
