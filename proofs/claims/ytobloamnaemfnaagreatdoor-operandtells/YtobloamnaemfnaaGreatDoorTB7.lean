/-
  What whole.Text does: the number's decimal digits.
  nat's and whole's calls as package shortest makes them: over numbers, wherever their limbs lie.
  What whole.signed, whole.Make and whole.Neg do.
  What whole.Add, whole.Sub and whole.Mul do.
  What whole.Sub, Int.below and whole.Cmp do.
-/
import Derived.Test.YtobloamnaemfnaaGreatDoorTB6
import Derived.Test.YtobloamnaemfnaaGreatDoorTB2
import Derived.Test.YtobloamnaemfnaaGreatDoorTSub
import Derived.Test.YtobloamnaemfnaaGreatDoorTUintF
import Derived.Test.YtobloamnaemfnaaGreatDoorTNorm
import Derived.Handy
import Derived.Test.YtobloamnaemfnaaGreatDoorTB4
import Derived.Test.YtobloamnaemfnaaGreatDoorTB5
import Derived.Deep.RegionHeld3
import Derived.Test.YtobloamnaemfnaaGreatDoorTUint
namespace Go.Proofs.YtobloamnaemfnaaGreatDoor
open Go.RowKit

theorem repeat0 (c : Nat) : Lib.repeatL [48] c = List.replicate c (48 : UInt8) := by
  induction c with
  | zero => rfl
  | succ c ih => rw [Lib.repeatL, ih]; rfl

end Go.Proofs.YtobloamnaemfnaaGreatDoor

namespace Go.Proofs.YtobloamnaemfnaaGreatDoor
open Go.RowKit

end Go.Proofs.YtobloamnaemfnaaGreatDoor

namespace Go.Proofs.YtobloamnaemfnaaGreatDoor
open Go.RowKit

def zv (neg : Bool) (n : Nat) : Int := if neg then -(n : Int) else (n : Int)

section
variable {w w' : World} {b : Nat} {x y : Value} {t : TypeId}
end

end Go.Proofs.YtobloamnaemfnaaGreatDoor

namespace Go.Proofs.YtobloamnaemfnaaGreatDoor
open Go.RowKit

end Go.Proofs.YtobloamnaemfnaaGreatDoor

namespace Go.Proofs.YtobloamnaemfnaaGreatDoor
open Go.RowKit

end Go.Proofs.YtobloamnaemfnaaGreatDoor
