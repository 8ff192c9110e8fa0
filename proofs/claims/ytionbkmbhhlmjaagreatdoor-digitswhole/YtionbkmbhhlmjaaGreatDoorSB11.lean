/-
  What whole.Parse does.
  whole's numbers with a sign, as package dec makes them; what dec's counted does.
  What round's check, isStep, powerOfTen, digitsOf, counted and isOdd do; sums of numbers.
-/
import Derived.Test.YtionbkmbhhlmjaaGreatDoorSB10
import Derived.Test.YtionbkmbhhlmjaaGreatDoorSB7
import Derived.Deep.RegionHeld3
import Derived.Test.YtionbkmbhhlmjaaGreatDoorSB2
import Derived.Test.YtionbkmbhhlmjaaGreatDoorSB6
import Derived.Test.YtionbkmbhhlmjaaGreatDoorSB8
import Derived.Test.YtionbkmbhhlmjaaGreatDoorSB5
import Derived.Test.YtionbkmbhhlmjaaGreatDoorSAdd
namespace Go.Proofs.YtionbkmbhhlmjaaGreatDoor
open Go.RowKit

end Go.Proofs.YtionbkmbhhlmjaaGreatDoor

namespace Go.Proofs.YtionbkmbhhlmjaaGreatDoor
open Go.RowKit

theorem repeat_any (c : Nat) (w : World) (hc : c ≤ 100000) : Calls Tryz.prog 34 #[.string ⟨#[48]⟩, .int .i64 (c : Int)] w fun e w' => e = .returned (.string ⟨(List.replicate c (48 : UInt8)).toArray⟩) ∧ Below w.heap.size w w' := by
  have h := Tryz.strings_Repeat ⟨#[48]⟩ c w (by omega) (by show 1 * c ≤ _; omega)
  rw [show (⟨#[48]⟩ : ByteArray).data.toList = [48] from rfl, repeat0] at h
  exact h

end Go.Proofs.YtionbkmbhhlmjaaGreatDoor

namespace Go.Proofs.YtionbkmbhhlmjaaGreatDoor
open Go.RowKit

end Go.Proofs.YtionbkmbhhlmjaaGreatDoor
