/-
  What quipuref16's Pieces answers.
  What quipuref16's Pieces and digits' Pieces answer, of whatever is shown.
-/
import Derived.Test.YtbfegnbaleclfaaGreatDoorAB17
import Derived.Test.YtbfegnbaleclfaaGreatDoorAB21
namespace Go.Proofs.YtbfegnbaleclfaaGreatDoor
open Go.RowKit

theorem digB_part {l : List UInt8} (h : DigB l) (a k : Nat) : DigB ((l.drop a).take k) := fun j hj => by
  rw [List.length_take, List.length_drop] at hj
  have := h (a + j) (by omega)
  have e : byt ((l.drop a).take k) j = byt l (a + j) := by
    unfold byt
    rw [List.getElem?_take_of_lt (by omega), List.getElem?_drop]
  rw [e]
  exact this

end Go.Proofs.YtbfegnbaleclfaaGreatDoor

namespace Go.Proofs.YtbfegnbaleclfaaGreatDoor
open Go.RowKit

theorem mayS_cls {y : ShownT} (h : MayS y) : y.cls = 0 ∨ y.cls = 1 ∨ y.cls = 2 := by
  obtain ⟨_, ⟨h, _⟩ | ⟨h, _⟩ | ⟨h, _⟩⟩ := h
  · exact .inl h
  · exact .inr (.inl h)
  · exact .inr (.inr h)
theorem pcsP_no {y : ShownT} (s : Sy) (first further least : Int) (al : Bool) (h : ¬ MayS y) : pcsP y s first further least al = [] := by unfold pcsP; rw [if_pos h]
theorem pcsP_inf {y : ShownT} (s : Sy) (first further least : Int) (al : Bool) (h : MayS y) (hc : y.cls = 1) : pcsP y s first further least al = oneP s.inf 2 := by unfold pcsP; rw [if_neg (fun g => g h), if_pos hc]
theorem pcsP_nan {y : ShownT} (s : Sy) (first further least : Int) (al : Bool) (h : MayS y) (hc : y.cls = 2) : pcsP y s first further least al = oneP s.nan 2 := by unfold pcsP; rw [if_neg (fun g => g h), if_neg (by omega), if_pos hc]
theorem pcsP_fin {y : ShownT} (s : Sy) (first further least : Int) (al : Bool) (h : MayS y) (hc : y.cls = 0) : pcsP y s first further least al = intP s (szG y.int.length first further least) y.int ++ fraP s y al := by unfold pcsP; rw [if_neg (fun g => g h), if_neg (by omega), if_neg (by omega)]

theorem dPieces_any (c : Int) (n : Bool) (ti tf : ByteArray) (x : Int) (cm : Bool) (s : Sy) (first further least : Int) (al : Bool) (w : World) (htab : Tab w) (hf : first ≤ 9223372036854775807) (hu : further ≤ 9223372036854775807) (hwi : (wrL s (bys ti)).length ≤ 100000000000) (hwf : (wrL s (bys tf)).length ≤ 100000000000) :
    Calls Tryz.prog 9 #[shV c n ti tf x cm, symV s, .int .i64 first, .int .i64 further, .int .i64 least, .bool al] w fun e w' => (∃ v, e = .returned v ∧ w'.ownsRow w.heap.size 36 2 v (pcsP ⟨c, n, bys ti, bys tf, x, cm⟩ s first further least al).length (cellsP (pcsP ⟨c, n, bys ti, bys tf, x, cm⟩ s first further least al))) ∧ Below w.heap.size w w' := by
  by_cases h : MayS ⟨c, n, bys ti, bys tf, x, cm⟩
  · rcases mayS_cls h with hc | hc | hc
    · rw [pcsP_fin s first further least al h hc]
      obtain rfl : c = 0 := hc
      exact pieces_fin n ti tf x cm s first further least al w htab h hf hu (by omega) (by omega)
    · rw [pcsP_inf s first further least al h hc]
      obtain rfl : c = 1 := hc
      exact pieces_inf n ti tf x cm s first further least al w htab h
    · rw [pcsP_nan s first further least al h hc]
      obtain rfl : c = 2 := hc
      exact pieces_nan n ti tf x cm s first further least al w htab h
  · rw [pcsP_no s first further least al h]
    refine (pieces_no c n ti tf x cm s first further least al w htab h).mono ?_
    rintro e w' ⟨h1, h2⟩
    exact ⟨⟨_, h1, World.ownsRow_nil _ _ _ _⟩, h2⟩

end Go.Proofs.YtbfegnbaleclfaaGreatDoor
