/-
  What math/bits.Div64 does: the quotient and the rest of two limbs by one.
  Plain mathematics of dividing by hand: a limb of the quotient is guessed by the topmost limbs, and is one too high at most.
  What nat.Mul does: the product, in memory of its own.
  What nat.divLimb does: a list divided by one limb.
  What nat.DivMod does where the divisor is nought, longer than the dividend, or one limb long.
-/
import Derived.Test.YtbfegnbaleclfaaGreatDoorAB3
import Derived.Test.YtbfegnbaleclfaaGreatDoorAUint
import Derived.Test.YtbfegnbaleclfaaGreatDoorAShift
import Derived.Test.YtbfegnbaleclfaaGreatDoorAB2
namespace Go.Proofs.YtbfegnbaleclfaaGreatDoor
open Go.RowKit

end Go.Proofs.YtbfegnbaleclfaaGreatDoor

namespace Go.Proofs.YtbfegnbaleclfaaGreatDoor

def g3 (b u2 u1 u0 d1 d2 : Nat) : Nat := (u2 * b * b + u1 * b + u0) / (d1 * b + d2)

section
variable {b u2 u1 u0 d1 d2 g r : Nat}

end

end Go.Proofs.YtbfegnbaleclfaaGreatDoor

namespace Go.Proofs.YtbfegnbaleclfaaGreatDoor
open Go.RowKit

end Go.Proofs.YtbfegnbaleclfaaGreatDoor

namespace Go.Proofs.YtbfegnbaleclfaaGreatDoor
open Go.RowKit

end Go.Proofs.YtbfegnbaleclfaaGreatDoor

namespace Go.Proofs.YtbfegnbaleclfaaGreatDoor
open Go.RowKit

end Go.Proofs.YtbfegnbaleclfaaGreatDoor
