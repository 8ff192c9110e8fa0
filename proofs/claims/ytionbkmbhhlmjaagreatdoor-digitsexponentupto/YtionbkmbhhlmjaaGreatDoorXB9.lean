/-
  What whole.Parse does.
  whole's numbers with a sign, as package dec makes them; what dec's counted does.
  What round's check, isStep, powerOfTen, digitsOf, counted and isOdd do; sums of numbers.
  What round's toMultiple does.
-/
import Derived.Test.YtionbkmbhhlmjaaGreatDoorXB8
import Derived.Test.YtionbkmbhhlmjaaGreatDoorXB7
import Derived.Deep.RegionHeld3
import Derived.Test.YtionbkmbhhlmjaaGreatDoorXB2
import Derived.Test.YtionbkmbhhlmjaaGreatDoorXB6
import Derived.Test.YtionbkmbhhlmjaaGreatDoorXB5
import Derived.Test.YtionbkmbhhlmjaaGreatDoorXAdd
namespace Go.Proofs.YtionbkmbhhlmjaaGreatDoor
open Go.RowKit

theorem bys_from (t : ByteArray) (i n : Nat) (hn : t.size ≤ n) : bys (t.extract i n) = (bys t).drop i := by
  unfold bys
  rw [ByteArray.data_extract]
  have hl : t.data.toList.length ≤ n := by simpa using hn
  simp only [Array.toList_extract, List.extract_eq_take_drop]
  exact List.take_of_length_le (by rw [List.length_drop]; omega)

end Go.Proofs.YtionbkmbhhlmjaaGreatDoor

namespace Go.Proofs.YtionbkmbhhlmjaaGreatDoor
open Go.RowKit

theorem repeat_any (c : Nat) (w : World) (hc : c ≤ 100000) : Calls Tryz.prog 34 #[.string ⟨#[48]⟩, .int .i64 (c : Int)] w fun e w' => e = .returned (.string ⟨(List.replicate c (48 : UInt8)).toArray⟩) ∧ Below w.heap.size w w' := by
  have h := Tryz.strings_Repeat ⟨#[48]⟩ c w (by omega) (by show 1 * c ≤ _; omega)
  rw [show (⟨#[48]⟩ : ByteArray).data.toList = [48] from rfl, repeat0] at h
  exact h

end Go.Proofs.YtionbkmbhhlmjaaGreatDoor

namespace Go.Proofs.YtionbkmbhhlmjaaGreatDoor
open Go.RowKit

end Go.Proofs.YtionbkmbhhlmjaaGreatDoor

namespace Go.Proofs.YtionbkmbhhlmjaaGreatDoor
open Go.RowKit

end Go.Proofs.YtionbkmbhhlmjaaGreatDoor
