/-
  What quipuref16's Before and Same answer.
  Variables of three, six and fourteen cells, all cells at once; what is answered by a function that hands back digits that are shown.
  What width's small tests do.
-/
import Derived.Test.YtbfegnbaleclfaaGreatDoorAB16
import Derived.Laws.StructEq
import Derived.Test.YtbfegnbaleclfaaGreatDoorAB2
import Derived.Test.YtbfegnbaleclfaaGreatDoorAB5
import Derived.Laws.EntriesVeiled
namespace Go.Proofs.YtbfegnbaleclfaaGreatDoor
open Go.RowKit

def pcV (p : Pc) : Value := .agg #[.string p.text, .int .i64 p.field]
theorem tlD_inj {x y : ByteArray} (h : x.toList = y.toList) : x = y := by
  rw [sl, sl] at h
  rw [← mkP_bys x, ← mkP_bys y, h]
theorem pc_eql (a b : Pc) (W : World) : (binOp .eql 36 (pcV a) (pcV b)).run Tryz.prog W = .ok (.bool (decide (a = b))) W := by
  obtain ⟨x, n⟩ := a
  obtain ⟨y, m⟩ := b
  unfold pcV
  by_cases h3 : x = y
  · by_cases h2 : n = m
    · subst h3; subst h2
      simp [go_sem, Tryz.underlying36, Tryz.underlying3, Tryz.underlying9, Program.fieldsOf]
    · subst h3
      simp [go_sem, Tryz.underlying36, Tryz.underlying3, Tryz.underlying9, Program.fieldsOf, h2]
  · have h3' : ¬ x.toList = y.toList := fun e => h3 (tlD_inj e)
    simp [go_sem, Tryz.underlying36, Tryz.underlying3, Tryz.underlying9, Program.fieldsOf, h3, h3']
theorem pcN_drop {l : List Pc} {i : Nat} (h : i < l.length) : l.drop i = pcN l i :: l.drop (i + 1) := by
  rw [List.drop_eq_getElem_cons h]
  congr 1
  have := pcN_some h
  rw [List.getElem?_eq_getElem h] at this
  exact Option.some.inj this

end Go.Proofs.YtbfegnbaleclfaaGreatDoor

namespace Go.Proofs.YtbfegnbaleclfaaGreatDoor
open Go.RowKit

theorem Blk.six {w : World} {b : Nat} {x0 x1 x2 x3 x4 x5 : Value} {t : TypeId} (h : Blk w b #[x0, x1, x2, x3, x4, x5] t) : w.cell? ⟨b, 0, none⟩ = some x0 ∧ w.cell? ⟨b, 1, none⟩ = some x1 ∧ w.cell? ⟨b, 2, none⟩ = some x2 ∧ w.cell? ⟨b, 3, none⟩ = some x3 ∧ w.cell? ⟨b, 4, none⟩ = some x4 ∧ w.cell? ⟨b, 5, none⟩ = some x5 := ⟨h.cell 0, h.cell 1, h.cell 2, h.cell 3, h.cell 4, h.cell 5⟩
end Go.Proofs.YtbfegnbaleclfaaGreatDoor

namespace Go.Proofs.YtbfegnbaleclfaaGreatDoor
open Go.RowKit

set_option maxHeartbeats 1000000 in
theorem within_t (n lo hi : Int) (w : World) (h1 : lo ≤ n) (h2 : n ≤ hi) : Calls Tryz.prog 27 #[.int .i64 n, .int .i64 lo, .int .i64 hi] w fun e w' => e = .returned (.bool true) ∧ Below w.heap.size w w' := by
  go_enter Tryz.func27, Tryz.ntmps27
  go_wp2
  go_ret
  exact ⟨rfl, Below.refl _ _⟩

set_option maxHeartbeats 1000000 in
theorem within_f1 (n lo hi : Int) (w : World) (h1 : n < lo) : Calls Tryz.prog 27 #[.int .i64 n, .int .i64 lo, .int .i64 hi] w fun e w' => e = .returned (.bool false) ∧ Below w.heap.size w w' := by
  go_enter Tryz.func27, Tryz.ntmps27
  go_wp2
  go_ret
  exact ⟨rfl, Below.refl _ _⟩

set_option maxHeartbeats 1000000 in
theorem within_f2 (n lo hi : Int) (w : World) (h1 : lo ≤ n) (h2 : hi < n) : Calls Tryz.prog 27 #[.int .i64 n, .int .i64 lo, .int .i64 hi] w fun e w' => e = .returned (.bool false) ∧ Below w.heap.size w w' := by
  go_enter Tryz.func27, Tryz.ntmps27
  go_wp2
  go_ret
  exact ⟨congrArg (fun b => Ending.returned (Value.bool b)) (show decide (n ≤ hi) = false by simp; omega), Below.refl _ _⟩

theorem within_f (n lo hi : Int) (w : World) (h : ¬ (lo ≤ n ∧ n ≤ hi)) : Calls Tryz.prog 27 #[.int .i64 n, .int .i64 lo, .int .i64 hi] w fun e w' => e = .returned (.bool false) ∧ Below w.heap.size w w' := by
  by_cases h1 : lo ≤ n
  · exact within_f2 n lo hi w h1 (by omega)
  · exact within_f1 n lo hi w (by omega)

end Go.Proofs.YtbfegnbaleclfaaGreatDoor
