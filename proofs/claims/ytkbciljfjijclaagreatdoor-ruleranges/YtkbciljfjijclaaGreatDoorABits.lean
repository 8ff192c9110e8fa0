/-
  What math/bits.LeadingZeros64 and Mul64 do, walked through the library's own text.
-/
import Derived.Test.YtkbciljfjijclaaGreatDoorAOwn
import Derived.Test.YtkbciljfjijclaaGreatDoorALen
import Derived.Lib.Mul64
import Derived.Laws.Bits64b
namespace Go.Proofs.YtkbciljfjijclaaGreatDoor
open Go.RowKit

end Go.Proofs.YtkbciljfjijclaaGreatDoor
