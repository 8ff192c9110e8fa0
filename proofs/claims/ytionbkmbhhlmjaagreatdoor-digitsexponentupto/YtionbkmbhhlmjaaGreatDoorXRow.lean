/-
  A row of numbers in a block of the call's own: read, written, kept.
-/
import Derived.Test.YtionbkmbhhlmjaaGreatDoorXNum
namespace Go.Proofs.YtionbkmbhhlmjaaGreatDoor
open Go.RowKit

def Like (w' w : World) : Prop := w'.heap = w.heap ∧ w'.os = w.os ∧ w'.tape = w.tape ∧ w'.output = w.output

theorem Like.below {w w' a : World} {B : Nat} (h : Like w' w) (hb : Below B a w) : Below B a w' :=
  hb.trans ⟨h.2.1, h.2.2.1, h.2.2.2, by rw [h.1]; exact Nat.le_refl _, fun _ _ => by rw [h.1]⟩

def vals (k : IntKind) (xs : List Nat) : List Value := xs.map fun (n : Nat) => Value.int k (n : Int)

def Row (k : IntKind) (e : TypeId) (w : World) (g : Nat) (xs : List Nat) : Prop := w.heap[g]? = some (.cells (vals k xs).toArray e (0, 0))

section
variable {k : IntKind} {e : TypeId} {w w' : World} {g : Nat} {xs : List Nat}

theorem Row.lt (h : Row k e w g xs) : g < w.heap.size := lt_of_block h

theorem Row.cell (h : Row k e w g xs) (i : Nat) (hi : i < xs.length) : w.cell? ⟨g, i, none⟩ = some (.int k ((dg xs i : Nat) : Int)) := by
  unfold Row at h
  simp [World.cell?, h, vals, dg, hi]

theorem Row.free (h : Row k e w g xs) (i : Nat) : w.frozen? ⟨g, i, none⟩ = false := by
  unfold Row at h
  simp [World.frozen?, h]

theorem Row.at (h : Row k e w g xs) : At k w (some ⟨g, 0, none⟩) xs :=
  .inr ⟨g, 0, rfl, h.lt, fun i hi => by rw [Nat.zero_add]; exact h.cell i hi⟩

theorem Row.set (h : Row k e w g xs) (i s : Nat) : Row k e (w.setCell ⟨g, i, none⟩ (.int k (s : Int))) g (xs.set i s) := by
  have hlt := h.lt
  unfold Row at *
  simp only [World.setCell, Array.getElem?_modify]
  simp only [if_true, h, Option.map_some]
  congr 1
  simp [vals, List.map_set]

theorem Row.alike (h : Row k e w g xs) (ha : Like w' w) : Row k e w' g xs := by
  unfold Row at *
  rw [ha.1]; exact h

theorem Row.of_owns {base n : Nat} {vs : List Value} (h : w.ownsRow base e 1 (.slice (some ⟨g, 0, none⟩) n n) n vs) (hv : vs = vals k xs) : Row k e w g xs := by
  obtain ⟨h1, h2⟩ := h
  rcases h2 with ⟨h2, _⟩ | ⟨g', cap, cur, hs, _, hh, _, _, hz, ht⟩
  · cases h2
  · simp only [Value.slice.injEq, Option.some.injEq, Addr.mk.injEq] at hs
    obtain ⟨⟨rfl, _⟩, _, rfl⟩ := hs
    unfold Row
    rw [hh, ← hv, ← ht, List.take_of_length_le (by simp; omega)]
end

theorem dg_set (xs : List Nat) (i s j : Nat) (hi : i < xs.length) : dg (xs.set i s) j = if j = i then s else dg xs j := by
  unfold dg
  rw [List.getElem?_set]
  by_cases h : i = j
  · subst h; simp [hi]
  · simp [h, show ¬ j = i from fun e => h e.symm]

theorem vals_replicate (k : IntKind) (n : Nat) : vals k (List.replicate n 0) = List.replicate n (.int k 0) := by
  simp [vals]

theorem Row.made {k : IntKind} {e : TypeId} {w : World} {g base n : Nat} (h : w.ownsRow base e 1 (.slice (some ⟨g, 0, none⟩) n n) n (madeCells #[Value.int k 0] n).toList) : Row k e w g (List.replicate n 0) :=
  Row.of_owns h (by rw [vals_replicate]; exact toList_madeCells_one _ _)

theorem dg_replicate (n i : Nat) : dg (List.replicate n 0) i = 0 := by
  unfold dg
  by_cases h : i < n
  · simp [h]
  · simp [h]

section
variable {w w' : World} {b : Nat} {v u : Value} {t : TypeId}
end

end Go.Proofs.YtionbkmbhhlmjaaGreatDoor
