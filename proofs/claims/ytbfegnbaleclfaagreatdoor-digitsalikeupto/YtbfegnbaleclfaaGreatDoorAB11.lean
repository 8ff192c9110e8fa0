/-
  What whole.Parse does.
  whole's numbers with a sign, as package dec makes them; what dec's counted does.
  What round's check, isStep, powerOfTen, digitsOf, counted and isOdd do; sums of numbers.
-/
import Derived.Test.YtbfegnbaleclfaaGreatDoorAB10
import Derived.Test.YtbfegnbaleclfaaGreatDoorAB7
import Derived.Deep.RegionHeld3
import Derived.Test.YtbfegnbaleclfaaGreatDoorAB2
import Derived.Test.YtbfegnbaleclfaaGreatDoorAB6
import Derived.Test.YtbfegnbaleclfaaGreatDoorAB8
import Derived.Test.YtbfegnbaleclfaaGreatDoorAB5
import Derived.Test.YtbfegnbaleclfaaGreatDoorAAdd
namespace Go.Proofs.YtbfegnbaleclfaaGreatDoor
open Go.RowKit

end Go.Proofs.YtbfegnbaleclfaaGreatDoor

namespace Go.Proofs.YtbfegnbaleclfaaGreatDoor
open Go.RowKit

theorem repeat_any (c : Nat) (w : World) (hc : c ≤ 100000) : Calls Tryz.prog 26 #[.string ⟨#[48]⟩, .int .i64 (c : Int)] w fun e w' => e = .returned (.string ⟨(List.replicate c (48 : UInt8)).toArray⟩) ∧ Below w.heap.size w w' := by
  have h := Tryz.strings_Repeat ⟨#[48]⟩ c w (by omega) (by show 1 * c ≤ _; omega)
  rw [show (⟨#[48]⟩ : ByteArray).data.toList = [48] from rfl, repeat0] at h
  exact h

end Go.Proofs.YtbfegnbaleclfaaGreatDoor

namespace Go.Proofs.YtbfegnbaleclfaaGreatDoor
open Go.RowKit

end Go.Proofs.YtbfegnbaleclfaaGreatDoor
