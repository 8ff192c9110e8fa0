/-
  Eight lists in a row: what of the memory is theirs, and what stays while they are overwritten.
-/
import Derived.Test.YtpiloigpncbccaaKKept
import Derived.Test.YtpiloigpncbccaaDivAny
import Derived.Test.YtpiloigpncbccaaShrN
namespace Go.Proofs.Ytpiloigpncbccaa
open Go.RowKit

/-- As w, but for new blocks and for the blocks of 'bad'. -/
structure Bar (bad : Nat → Prop) (w w' : World) : Prop where
  os : w'.os = w.os
  tape : w'.tape = w.tape
  output : w'.output = w.output
  size : w.heap.size ≤ w'.heap.size
  block : ∀ b, b < w.heap.size → ¬ bad b → w'.heap[b]? = w.heap[b]?

section
variable {bad : Nat → Prop} {a b c : World}
theorem Bar.refl (bad : Nat → Prop) (w : World) : Bar bad w w := ⟨rfl, rfl, rfl, Nat.le_refl _, fun _ _ _ => rfl⟩
theorem Bar.below (h : Bar bad a b) (k : Below b.heap.size b c) : Bar bad a c :=
  ⟨k.os.trans h.os, k.tape.trans h.tape, k.output.trans h.output, Nat.le_trans h.size k.size, fun i hi hn => (k.block i (Nat.lt_of_lt_of_le hi h.size)).trans (h.block i hi hn)⟩
theorem Bar.grown (h : Bar bad a b) (o : Obj) {v : Option Nat} (k : (b.alloc o).grownBy c v) (hv : ∀ g, v = some g → g < a.heap.size → bad g) : Bar bad a c := by
  have hb : Below b.heap.size b (b.alloc o) := (Below.refl _ _).alloc (Nat.le_refl _) o
  have h1 := h.below hb
  refine ⟨k.os.trans h1.os, k.tape.trans h1.tape, k.output.trans h1.output, Nat.le_trans h1.size k.size, fun i hi hn => ?_⟩
  rw [k.block i (Nat.lt_of_lt_of_le hi h1.size) (fun e => hn (hv i e.symm hi))]
  exact h1.block i hi hn
theorem Bar.set (h : Bar bad a b) {g i : Nat} (hg : g < a.heap.size → bad g) (v : Value) : Bar bad a (b.setCell ⟨g, i, none⟩ v) := by
  refine ⟨h.os, h.tape, h.output, by simpa [World.setCell] using h.size, fun k hk hn => ?_⟩
  rw [← h.block k hk hn]
  have : g ≠ k := fun e => hn (by rw [← e] at hk ⊢; exact hg hk)
  simp [World.setCell, Array.getElem?_modify, this]
theorem Bar.mono (h : Bar bad a b) {bad' : Nat → Prop} (hb : ∀ i, bad i → bad' i) : Bar bad' a b := ⟨h.os, h.tape, h.output, h.size, fun i hi hn => h.block i hi (fun k => hn (hb i k))⟩
theorem Bar.cell (h : Bar bad a b) {g i : Nat} (hg : g < a.heap.size) (hn : ¬ bad g) : b.cell? ⟨g, i, none⟩ = a.cell? ⟨g, i, none⟩ := World.cell?_of_block (h.block g hg hn)
end

theorem At.bar {bad : Nat → Prop} {w w' : World} {ao : Option Addr} {xs : List Nat} (h : At .u64 w ao xs) (hb : Bar bad w w') (hn : ∀ b o, xs ≠ [] → ao = some ⟨b, o, none⟩ → ¬ bad b) : At .u64 w' ao xs := by
  rcases h with h | ⟨b, o, h1, h2, h3⟩
  · exact .inl h
  · by_cases hx : xs = []
    · exact .inl hx
    · exact .inr ⟨b, o, h1, Nat.lt_of_lt_of_le h2 hb.size, fun i hi => (hb.cell h2 (hn b o hx h1)).trans (h3 i hi)⟩

end Go.Proofs.Ytpiloigpncbccaa
