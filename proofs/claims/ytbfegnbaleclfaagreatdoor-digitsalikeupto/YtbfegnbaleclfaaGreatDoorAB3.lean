/-
  What nat.addTimes and nat.Mul do.
  What nat.addBack does to a row.
  What nat.subTimes does to a row.
  Plain mathematics of dividing two digits by one, half a digit at a time (as the library's Div64 does).
  What math/bits.Div64 does, walked through the library's own text.
  Plain mathematics: how many bits a number has, by its highest digit.
-/
import Derived.Test.YtbfegnbaleclfaaGreatDoorANorm
import Derived.Test.YtbfegnbaleclfaaGreatDoorAB2
import Derived.Test.YtbfegnbaleclfaaGreatDoorABits
import Derived.Deep.QuietTactic
import Derived.BigQuiet
import Derived.Test.YtbfegnbaleclfaaGreatDoorANum
import Derived.Lib.BitFns
namespace Go.Proofs.YtbfegnbaleclfaaGreatDoor
open Go.RowKit

end Go.Proofs.YtbfegnbaleclfaaGreatDoor

namespace Go.Proofs.YtbfegnbaleclfaaGreatDoor
open Go.RowKit

end Go.Proofs.YtbfegnbaleclfaaGreatDoor

namespace Go.Proofs.YtbfegnbaleclfaaGreatDoor
open Go.RowKit

end Go.Proofs.YtbfegnbaleclfaaGreatDoor

namespace Go.Proofs.YtbfegnbaleclfaaGreatDoor

section
variable {K U Y y1 y0 u1 q rh : Nat}

end

end Go.Proofs.YtbfegnbaleclfaaGreatDoor

namespace Go.Proofs.YtbfegnbaleclfaaGreatDoor
open Go.RowKit

end Go.Proofs.YtbfegnbaleclfaaGreatDoor

namespace Go.Proofs.YtbfegnbaleclfaaGreatDoor

end Go.Proofs.YtbfegnbaleclfaaGreatDoor
