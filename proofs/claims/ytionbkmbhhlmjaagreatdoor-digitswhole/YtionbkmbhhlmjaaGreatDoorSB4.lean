/-
  What math/bits.Div64 does: the quotient and the rest of two limbs by one.
  Plain mathematics of dividing by hand: a limb of the quotient is guessed by the topmost limbs, and is one too high at most.
  What nat.Mul does: the product, in memory of its own.
  What nat.divLimb does: a list divided by one limb.
  What nat.DivMod does where the divisor is nought, longer than the dividend, or one limb long.
-/
import Derived.Test.YtionbkmbhhlmjaaGreatDoorSB3
import Derived.Test.YtionbkmbhhlmjaaGreatDoorSUint
import Derived.Test.YtionbkmbhhlmjaaGreatDoorSShift
import Derived.Test.YtionbkmbhhlmjaaGreatDoorSB2
namespace Go.Proofs.YtionbkmbhhlmjaaGreatDoor
open Go.RowKit

end Go.Proofs.YtionbkmbhhlmjaaGreatDoor

namespace Go.Proofs.YtionbkmbhhlmjaaGreatDoor

section
variable {b u2 u1 u0 d1 d2 g r : Nat}

end

end Go.Proofs.YtionbkmbhhlmjaaGreatDoor

namespace Go.Proofs.YtionbkmbhhlmjaaGreatDoor
open Go.RowKit

end Go.Proofs.YtionbkmbhhlmjaaGreatDoor

namespace Go.Proofs.YtionbkmbhhlmjaaGreatDoor
open Go.RowKit

end Go.Proofs.YtionbkmbhhlmjaaGreatDoor

namespace Go.Proofs.YtionbkmbhhlmjaaGreatDoor
open Go.RowKit

end Go.Proofs.YtionbkmbhhlmjaaGreatDoor
