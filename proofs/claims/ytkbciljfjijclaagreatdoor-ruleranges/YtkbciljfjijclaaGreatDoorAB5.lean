/-
  What nat.divLong does.
  Decs as structs: what a function answers that hands back one, or one and an error.
  What the rounding modes' own functions do, and which of them leaves hands out.
  What decform's bare, areDigits, mayDigits and May do.
  What dec's May, place, Place, Neg, Scale, isZero, signed and rank do.
  What decform's Of and dec's finite do.
-/
import Derived.Test.YtkbciljfjijclaaGreatDoorAB3
import Derived.Test.YtkbciljfjijclaaGreatDoorAGuess
import Derived.Test.YtkbciljfjijclaaGreatDoorADown
import Derived.Test.YtkbciljfjijclaaGreatDoorAB4
import Derived.Test.YtkbciljfjijclaaGreatDoorAB2
import Derived.Laws.EntriesVeiled
import Derived.Test.YtkbciljfjijclaaGreatDoorAShelf
namespace Go.Proofs.YtkbciljfjijclaaGreatDoor
open Go.RowKit

end Go.Proofs.YtkbciljfjijclaaGreatDoor

namespace Go.Proofs.YtkbciljfjijclaaGreatDoor
open Go.RowKit

theorem below_put4 {w W : World} {H : Nat} (h : Below w.heap.size w W) (hH : w.heap.size ≤ H) (y0 y1 y2 y3 : Value) : Below w.heap.size w ((((W.setCell ⟨H, 0, none⟩ y0).setCell ⟨H, 1, none⟩ y1).setCell ⟨H, 2, none⟩ y2).setCell ⟨H, 3, none⟩ y3) :=
  (((h.setCell hH _).setCell hH _).setCell hH _).setCell hH _

theorem bdrewD (w : World) : Hid (Below w.heap.size w w.drew) := (Below.refl _ _).drew

end Go.Proofs.YtkbciljfjijclaaGreatDoor

namespace Go.Proofs.YtkbciljfjijclaaGreatDoor
open Go.RowKit

end Go.Proofs.YtkbciljfjijclaaGreatDoor

namespace Go.Proofs.YtkbciljfjijclaaGreatDoor
open Go.RowKit

theorem size_nil {t : ByteArray} (h : t.size = 0) : t = ⟨#[]⟩ := by
  cases t with | mk d => simp [ByteArray.size] at h; rw [h]

theorem toList_ne {t : ByteArray} (h : t.size ≠ 0) : (t.toList == []) = false := by
  have : t.toList ≠ [] := fun e => h (by
    rw [ByteArray.toList_eq] at e
    have h1 := congrArg List.length e
    rw [← bys_len]
    exact h1)
  cases hl : t.toList with
  | nil => exact absurd hl this
  | cons a l => rfl

theorem bys_nil {t : ByteArray} : bys t = [] ↔ t.size = 0 := by
  rw [← bys_len]; exact List.length_eq_zero_iff.symm

end Go.Proofs.YtkbciljfjijclaaGreatDoor

namespace Go.Proofs.YtkbciljfjijclaaGreatDoor
open Go.RowKit

end Go.Proofs.YtkbciljfjijclaaGreatDoor

namespace Go.Proofs.YtkbciljfjijclaaGreatDoor
open Go.RowKit

theorem bys_mk (l : List UInt8) : bys ⟨l.toArray⟩ = l := by simp [bys]
theorem mk_bys (t : ByteArray) : (⟨(bys t).toArray⟩ : ByteArray) = t := by cases t; simp [bys]
theorem size_mk0 (l : List UInt8) : (⟨l.toArray⟩ : ByteArray).size = l.length := by simp [ByteArray.size]

end Go.Proofs.YtkbciljfjijclaaGreatDoor
