/-
  (*strings.Builder).WriteString at this dump: what it leaves in a builder.
  What whole.Text does: the number's decimal digits.
  nat's and whole's calls as package shortest makes them: over numbers, wherever their limbs lie.
  What whole.signed, whole.Make and whole.Neg do.
-/
import Derived.Test.YtbfegnbaleclfaaGreatDoorAOwn
import Derived.Lib.Builder
import Derived.Lib.AppendStr
import Derived.Lib.UnsafeStr
import Derived.Laws.Externs
import Derived.Test.YtbfegnbaleclfaaGreatDoorAB7
import Derived.Test.YtbfegnbaleclfaaGreatDoorAB6
import Derived.Test.YtbfegnbaleclfaaGreatDoorAB2
import Derived.Test.YtbfegnbaleclfaaGreatDoorASub
import Derived.Test.YtbfegnbaleclfaaGreatDoorAUintF
import Derived.Test.YtbfegnbaleclfaaGreatDoorANorm
import Derived.Handy
namespace Go.Proofs.YtbfegnbaleclfaaGreatDoor
open Go.RowKit

end Go.Proofs.YtbfegnbaleclfaaGreatDoor

namespace Go.Proofs.YtbfegnbaleclfaaGreatDoor
open Go.RowKit

theorem repeat0 (c : Nat) : Lib.repeatL [48] c = List.replicate c (48 : UInt8) := by
  induction c with
  | zero => rfl
  | succ c ih => rw [Lib.repeatL, ih]; rfl

end Go.Proofs.YtbfegnbaleclfaaGreatDoor

namespace Go.Proofs.YtbfegnbaleclfaaGreatDoor
open Go.RowKit

end Go.Proofs.YtbfegnbaleclfaaGreatDoor

namespace Go.Proofs.YtbfegnbaleclfaaGreatDoor
open Go.RowKit

def zv (neg : Bool) (n : Nat) : Int := if neg then -(n : Int) else (n : Int)

section
variable {w w' : World} {b : Nat} {x y : Value} {t : TypeId}
end

end Go.Proofs.YtbfegnbaleclfaaGreatDoor
