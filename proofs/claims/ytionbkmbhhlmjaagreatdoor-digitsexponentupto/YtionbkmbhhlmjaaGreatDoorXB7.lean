/-
  What whole.cut does: the number's digits to the base 10^19.
  (*strings.Builder).WriteString at this dump: what it leaves in a builder.
  What whole.Text does: the number's decimal digits.
  nat's and whole's calls as package shortest makes them: over numbers, wherever their limbs lie.
  What whole.signed, whole.Make and whole.Neg do.
  What whole.Add, whole.Sub and whole.Mul do.
-/
import Derived.Test.YtionbkmbhhlmjaaGreatDoorXB6
import Derived.Test.YtionbkmbhhlmjaaGreatDoorXUintF
import Derived.Deep.AppendLies
import Derived.Test.YtionbkmbhhlmjaaGreatDoorXOwn
import Derived.Lib.Builder
import Derived.Lib.AppendStr
import Derived.Lib.UnsafeStr
import Derived.Laws.Externs
import Derived.Test.YtionbkmbhhlmjaaGreatDoorXB2
import Derived.Test.YtionbkmbhhlmjaaGreatDoorXSub
import Derived.Test.YtionbkmbhhlmjaaGreatDoorXNorm
import Derived.Handy
import Derived.Test.YtionbkmbhhlmjaaGreatDoorXB4
import Derived.Test.YtionbkmbhhlmjaaGreatDoorXB5
import Derived.Deep.RegionHeld3
namespace Go.Proofs.YtionbkmbhhlmjaaGreatDoor
open Go.RowKit

def lenV : Value → Nat
  | .slice _ n _ => n
  | _ => 0

end Go.Proofs.YtionbkmbhhlmjaaGreatDoor

namespace Go.Proofs.YtionbkmbhhlmjaaGreatDoor
open Go.RowKit

end Go.Proofs.YtionbkmbhhlmjaaGreatDoor

namespace Go.Proofs.YtionbkmbhhlmjaaGreatDoor
open Go.RowKit

def padD : Nat → Nat → List UInt8
  | 0, _ => []
  | m + 1, r => padD m (r / 10) ++ [UInt8.ofNat (48 + r % 10)]

theorem padD_zero : ∀ m, padD m 0 = List.replicate m (48 : UInt8)
  | 0 => rfl
  | m + 1 => by
    show padD m (0 / 10) ++ [UInt8.ofNat (48 + 0 % 10)] = _
    rw [Nat.zero_div, padD_zero m, List.replicate_succ']
    rfl

theorem padD_eq : ∀ (m r : Nat), 1 ≤ m → r < 10 ^ m → padD m r = List.replicate (m - (Lib.decDigits r).length) (48 : UInt8) ++ Lib.decDigits r
  | 0, _, h, _ => absurd h (by omega)
  | m + 1, r, _, hr => by
    by_cases h : r < 10
    · show padD m (r / 10) ++ [UInt8.ofNat (48 + r % 10)] = _
      rw [Nat.div_eq_of_lt h, padD_zero, Nat.mod_eq_of_lt h, Lib.decDigits_one h]
      simp
    · have hm : 1 ≤ m := by
        rcases m with _ | m
        · simp at hr; omega
        · omega
      show padD m (r / 10) ++ [UInt8.ofNat (48 + r % 10)] = _
      rw [padD_eq m (r / 10) hm (by rw [Nat.pow_succ] at hr; omega), dd_big h]
      simp

theorem repeat0 (c : Nat) : Lib.repeatL [48] c = List.replicate c (48 : UInt8) := by
  induction c with
  | zero => rfl
  | succ c ih => rw [Lib.repeatL, ih]; rfl

end Go.Proofs.YtionbkmbhhlmjaaGreatDoor

namespace Go.Proofs.YtionbkmbhhlmjaaGreatDoor
open Go.RowKit

end Go.Proofs.YtionbkmbhhlmjaaGreatDoor

namespace Go.Proofs.YtionbkmbhhlmjaaGreatDoor
open Go.RowKit

def zv (neg : Bool) (n : Nat) : Int := if neg then -(n : Int) else (n : Int)

section
variable {w w' : World} {b : Nat} {x y : Value} {t : TypeId}
end

end Go.Proofs.YtionbkmbhhlmjaaGreatDoor

namespace Go.Proofs.YtionbkmbhhlmjaaGreatDoor
open Go.RowKit

end Go.Proofs.YtionbkmbhhlmjaaGreatDoor
