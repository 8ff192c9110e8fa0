/-
  strconv.FormatUint to the base 10 at this dump: the number's decimal digits.
  What dec's amountText and Print do.
  What whole.Pow5 and whole.Pow10 do.
  What shortest's binary64, binary32, split, amount and powerOfTwo do.
  What nat.divLong does: the walk.
  nat.DivMod by nought and by one limb, whatever the dividend; literal lists, and what the numbers in them are.
  What nat.DivMod does, whatever the two numbers.
  Digits that a function gives.
  Plain mathematics of the reference's shifts.
  Plain mathematics of dividing bit by bit, with digits to the base 65536.
  Lists of limbs that are being built by append.
  What whole.cut does: the number's digits to the base 10^19.
  (*strings.Builder).WriteString at this dump: what it leaves in a builder.
-/
import Derived.Test.YtobloamnaemfnaaGreatDoorTShelf
import Derived.Test.YtobloamnaemfnaaGreatDoorTOwn
import Derived.Lib.AppendIntMem
import Derived.Laws.IdiomStrings
import Derived.Test.YtobloamnaemfnaaGreatDoorTB2
import Derived.Test.YtobloamnaemfnaaGreatDoorTB5
import Derived.Deep.RegionHeld3
import Derived.Test.YtobloamnaemfnaaGreatDoorTB4
import Derived.Test.YtobloamnaemfnaaGreatDoorTDown
import Derived.Laws.BitsLemmas
import Derived.Test.YtobloamnaemfnaaGreatDoorTSub
import Derived.Test.YtobloamnaemfnaaGreatDoorTSame
import Derived.Test.YtobloamnaemfnaaGreatDoorTB1
import Derived.Deep.AppendLies
import Derived.Test.YtobloamnaemfnaaGreatDoorTUintF
import Derived.Lib.Builder
import Derived.Lib.AppendStr
import Derived.Lib.UnsafeStr
import Derived.Laws.Externs
namespace Go.Proofs.YtobloamnaemfnaaGreatDoor
open Go.RowKit Go.Sort Go.Lib

def Tab (w : World) : Prop := Lib.TabIs Tryz.prog w "internal/strconv.uint64pow10" .u64 Lib.pow10Tab

theorem tab_some : (Tryz.prog.globalNamed "internal/strconv.uint64pow10").isSome = true := by kernel_rfl
theorem tab_glob : ∃ g, Tryz.prog.globalNamed "internal/strconv.uint64pow10" = some g := Option.isSome_iff_exists.1 tab_some

theorem Tab.below {w w' : World} (h : Tab w) (hb : Below w.heap.size w w') : Tab w' := by
  obtain ⟨g, hg⟩ := tab_glob
  unfold Tab Lib.TabIs World.var? at *
  rw [hg] at h ⊢
  simp only [Option.bind_some] at h ⊢
  have hlt : g < w.heap.size := by
    rcases Nat.lt_or_ge g w.heap.size with h' | h'
    · exact h'
    · rw [Array.getElem?_eq_none h'] at h; cases h
  rw [hb.block g hlt]
  exact h

theorem below_grow (w : World) (n : Nat) (os : Array Obj) : Below w.heap.size w (grow (w.drewN n) os) := by
  refine ⟨rfl, rfl, rfl, ?_, fun k hk => ?_⟩
  · show w.heap.size ≤ (w.heap ++ os).size
    rw [Array.size_append]; omega
  · show (w.heap ++ os)[k]? = w.heap[k]?
    rw [Array.getElem?_append_left hk]

end Go.Proofs.YtobloamnaemfnaaGreatDoor

namespace Go.Proofs.YtobloamnaemfnaaGreatDoor
open Go.RowKit

theorem itoa_len {e : Int} (h1 : -10000 ≤ e) (h2 : e ≤ 10000) : (Lib.itoa e).length ≤ 6 := by
  have h : ∀ n : Nat, n ≤ 10000 → (Lib.decDigits n).length ≤ 5 := fun n hn => sizeN_le (Nat.lt_of_le_of_lt hn (by decide)) (by omega)
  unfold Lib.itoa
  split
  · have := h e.natAbs (by omega); simp only [List.length_cons]; omega
  · have := h e.toNat (by omega); omega

theorem itoa_any (e : Int) (w : World) (h1 : -10000 ≤ e) (h2 : e ≤ 10000) (htab : Tab w) : Calls Tryz.prog 44 #[.int .i64 e] w fun e' w' => e' = .returned (.string ⟨(Lib.itoa e).toArray⟩) ∧ Below w.heap.size w w' := by
  refine (Tryz.strconv_Itoa e (by omega) (by omega) w htab).mono ?_
  rintro e' w' ⟨rfl, k, os, rfl⟩
  exact ⟨rfl, below_grow w k os⟩

end Go.Proofs.YtobloamnaemfnaaGreatDoor

namespace Go.Proofs.YtobloamnaemfnaaGreatDoor
open Go.RowKit

end Go.Proofs.YtobloamnaemfnaaGreatDoor

namespace Go.Proofs.YtobloamnaemfnaaGreatDoor
open Go.RowKit

end Go.Proofs.YtobloamnaemfnaaGreatDoor

namespace Go.Proofs.YtobloamnaemfnaaGreatDoor
open Go.RowKit

end Go.Proofs.YtobloamnaemfnaaGreatDoor

namespace Go.Proofs.YtobloamnaemfnaaGreatDoor
open Go.RowKit

end Go.Proofs.YtobloamnaemfnaaGreatDoor

namespace Go.Proofs.YtobloamnaemfnaaGreatDoor
open Go.RowKit

end Go.Proofs.YtobloamnaemfnaaGreatDoor

namespace Go.Proofs.YtobloamnaemfnaaGreatDoor

end Go.Proofs.YtobloamnaemfnaaGreatDoor

namespace Go.Proofs.YtobloamnaemfnaaGreatDoor

end Go.Proofs.YtobloamnaemfnaaGreatDoor

namespace Go.Proofs.YtobloamnaemfnaaGreatDoor

end Go.Proofs.YtobloamnaemfnaaGreatDoor

namespace Go.Proofs.YtobloamnaemfnaaGreatDoor
open Go.RowKit

end Go.Proofs.YtobloamnaemfnaaGreatDoor

namespace Go.Proofs.YtobloamnaemfnaaGreatDoor
open Go.RowKit

end Go.Proofs.YtobloamnaemfnaaGreatDoor

namespace Go.Proofs.YtobloamnaemfnaaGreatDoor
open Go.RowKit

end Go.Proofs.YtobloamnaemfnaaGreatDoor
