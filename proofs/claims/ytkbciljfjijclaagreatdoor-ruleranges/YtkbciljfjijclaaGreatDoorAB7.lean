/-
  What whole.Text does: the number's decimal digits.
  nat's and whole's calls as package shortest makes them: over numbers, wherever their limbs lie.
  What whole.signed, whole.Make and whole.Neg do.
  What whole.Add, whole.Sub and whole.Mul do.
  What whole.Sub, Int.below and whole.Cmp do.
-/
import Derived.Test.YtkbciljfjijclaaGreatDoorAB6
import Derived.Test.YtkbciljfjijclaaGreatDoorAB2
import Derived.Test.YtkbciljfjijclaaGreatDoorASub
import Derived.Test.YtkbciljfjijclaaGreatDoorAUintF
import Derived.Test.YtkbciljfjijclaaGreatDoorANorm
import Derived.Handy
import Derived.Test.YtkbciljfjijclaaGreatDoorAB4
import Derived.Test.YtkbciljfjijclaaGreatDoorAB5
import Derived.Deep.RegionHeld3
import Derived.Test.YtkbciljfjijclaaGreatDoorAUint
namespace Go.Proofs.YtkbciljfjijclaaGreatDoor
open Go.RowKit

theorem repeat0 (c : Nat) : Lib.repeatL [48] c = List.replicate c (48 : UInt8) := by
  induction c with
  | zero => rfl
  | succ c ih => rw [Lib.repeatL, ih]; rfl

end Go.Proofs.YtkbciljfjijclaaGreatDoor

namespace Go.Proofs.YtkbciljfjijclaaGreatDoor
open Go.RowKit

end Go.Proofs.YtkbciljfjijclaaGreatDoor

namespace Go.Proofs.YtkbciljfjijclaaGreatDoor
open Go.RowKit

def zv (neg : Bool) (n : Nat) : Int := if neg then -(n : Int) else (n : Int)

def Pair (w : World) (b : Nat) (x y : Value) (t : TypeId) : Prop := w.heap[b]? = some (.cells #[x, y] t (0, 0))

section
variable {w w' : World} {b : Nat} {x y : Value} {t : TypeId}
theorem Pair.put (h : Pair w b x y t) (x' y' : Value) : Pair ((w.setCell ⟨b, 0, none⟩ x').setCell ⟨b, 1, none⟩ y') b x' y' t := by
  unfold Pair at *
  simp only [World.setCell, Array.getElem?_modify, if_true, h, Option.map_some]
  rfl
end

end Go.Proofs.YtkbciljfjijclaaGreatDoor

namespace Go.Proofs.YtkbciljfjijclaaGreatDoor
open Go.RowKit

end Go.Proofs.YtkbciljfjijclaaGreatDoor

namespace Go.Proofs.YtkbciljfjijclaaGreatDoor
open Go.RowKit

end Go.Proofs.YtkbciljfjijclaaGreatDoor
