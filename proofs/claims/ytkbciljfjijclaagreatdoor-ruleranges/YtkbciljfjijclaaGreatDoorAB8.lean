/-
  What whole.DivMod does.
  What quipulaw02.same does of two numbers that are the same.
  whole's functions in the words of the numbers themselves.
  What whole.areDigits, whole.chunkOf and whole.Parse do.
  What whole.Parse does.
  whole's numbers with a sign, as package dec makes them; what dec's counted does.
-/
import Derived.Test.YtkbciljfjijclaaGreatDoorAB7
import Derived.Test.YtkbciljfjijclaaGreatDoorAB6
import Derived.Deep.RegionHeld3
import Derived.Test.YtkbciljfjijclaaGreatDoorASame
import Derived.Test.YtkbciljfjijclaaGreatDoorAB4
import Derived.Test.YtkbciljfjijclaaGreatDoorAB5
import Derived.Test.YtkbciljfjijclaaGreatDoorADown
import Derived.Test.YtkbciljfjijclaaGreatDoorAB2
namespace Go.Proofs.YtkbciljfjijclaaGreatDoor
open Go.RowKit

end Go.Proofs.YtkbciljfjijclaaGreatDoor

namespace Go.Proofs.YtkbciljfjijclaaGreatDoor
open Go.RowKit

end Go.Proofs.YtkbciljfjijclaaGreatDoor

namespace Go.Proofs.YtkbciljfjijclaaGreatDoor
open Go.RowKit

def NV (s : Bool) (x : List Nat) (z : Int) : Prop := Ok B64 x ∧ zv s (num B64 x) = z
section
variable (s t : Bool) (ao bo : Option Addr) (la ca lb cb : Nat) (xs ys : List Nat) (w : World) (hla : la ≤ ca) (hlb : lb ≤ cb) (hx : xs.length = la) (hy : ys.length = lb) (hax : At .u64 w ao xs) (hay : At .u64 w bo ys) (z u : Int) (hz : Hid (NV s xs z)) (hu : Hid (NV t ys u))
include hla hlb hx hy hax hay hz hu
end

end Go.Proofs.YtkbciljfjijclaaGreatDoor

namespace Go.Proofs.YtkbciljfjijclaaGreatDoor
open Go.RowKit

end Go.Proofs.YtkbciljfjijclaaGreatDoor

namespace Go.Proofs.YtkbciljfjijclaaGreatDoor
open Go.RowKit

theorem bys_to (t : ByteArray) (i : Nat) : bys (t.extract 0 i) = (bys t).take i := by
  unfold bys
  rw [ByteArray.data_extract]
  simp
theorem bys_from (t : ByteArray) (i n : Nat) (hn : t.size ≤ n) : bys (t.extract i n) = (bys t).drop i := by
  unfold bys
  rw [ByteArray.data_extract]
  have hl : t.data.toList.length ≤ n := by simpa using hn
  simp only [Array.toList_extract, List.extract_eq_take_drop]
  exact List.take_of_length_le (by rw [List.length_drop]; omega)

end Go.Proofs.YtkbciljfjijclaaGreatDoor

namespace Go.Proofs.YtkbciljfjijclaaGreatDoor
open Go.RowKit

theorem repeat_any (c : Nat) (w : World) (hc : c ≤ 100000) : Calls Tryz.prog 153 #[.string ⟨#[48]⟩, .int .i64 (c : Int)] w fun e w' => e = .returned (.string ⟨(List.replicate c (48 : UInt8)).toArray⟩) ∧ Below w.heap.size w w' := by
  have h := Tryz.strings_Repeat ⟨#[48]⟩ c w (by omega) (by show 1 * c ≤ _; omega)
  rw [show (⟨#[48]⟩ : ByteArray).data.toList = [48] from rfl, repeat0] at h
  exact h

theorem digB_rep (c : Nat) : DigB (List.replicate c (48 : UInt8)) := by
  intro k hk
  rw [List.length_replicate] at hk
  unfold byt
  rw [List.getElem?_replicate, if_pos hk]
  decide

end Go.Proofs.YtkbciljfjijclaaGreatDoor
