/-
  Small facts that NatKeeps' walk asks for: a row's block and what keeps it.
-/
import Derived.Test.YtpiloigpncbccaaKWas
namespace Go.Proofs.Ytpiloigpncbccaa
open Go.RowKit

theorem bdrewK (w : World) : Below w.heap.size w w.drew := ⟨rfl, rfl, rfl, Nat.le_refl _, fun _ _ => rfl⟩

theorem cell_new (w : World) (arr : Array Value) (t : TypeId) (k : Nat) (v : Value) (h : arr[k]? = some v) : (w.alloc (Obj.cells arr t)).cell? ⟨w.heap.size, k, none⟩ = some v := by
  have e : (w.alloc (Obj.cells arr t)).heap[w.heap.size]? = some (Obj.cells arr t) := by
    show (w.heap.push (Obj.cells arr t))[w.heap.size]? = _
    simp
  simp only [World.cell?, e]
  exact h

theorem new_two (w : World) (v1 v2 : Value) (t : TypeId) : ∀ (j : Nat) (u : Value), [v1, v2][j]? = some u → (w.alloc (Obj.cells #[v1, v2] t)).cell? ((⟨w.heap.size, 0, none⟩ : Addr).add j) = some u := by
  intro j u hj
  match j, hj with
  | 0, hj =>
    simp at hj
    subst hj
    simp [Addr.add]
  | 1, hj =>
    simp at hj
    subst hj
    exact cell_new w #[v1, v2] t 1 v2 rfl

theorem vals_cells (xs : List Nat) : ∀ u ∈ vals .u64 xs, u.oneCell' = true := by
  intro u hu
  simp only [vals, List.mem_map] at hu
  obtain ⟨n, _, rfl⟩ := hu
  rfl

theorem own_block {k : IntKind} {e : TypeId} {w : World} {base m n cap b f : Nat} {v : Value} {xs : List Nat} {ao : Option Addr} (h : Own k e w base m v xs) (hv : v = .slice ao n cap) (_hx : xs ≠ []) (ha : ao = some ⟨b, f, none⟩) : v.ownBlock = some b := by
  subst hv ha
  rfl

theorem own_len {k : IntKind} {e : TypeId} {w : World} {base m : Nat} {v : Value} {xs : List Nat} (h : Own k e w base m v xs) : xs.length ≤ m := by
  obtain ⟨_, _, _, h1, h2, _⟩ := h.shape
  omega

theorem row_below {w w' : World} {B n : Nat} {e : TypeId} {v : Value} {vs : List Value} (h : w.ownsRow B e 1 v n vs) (hb : Below w.heap.size w w') : w'.ownsRow B e 1 v n vs := by
  obtain ⟨h1, h2⟩ := h
  refine ⟨h1, ?_⟩
  rcases h2 with h2 | ⟨g, cap, cur, hv, hg, hh, hr⟩
  · exact .inl h2
  · exact .inr ⟨g, cap, cur, hv, hg, (hb.block g (lt_of_block hh)).trans hh, hr⟩

theorem row_kept {e : TypeId} {w w' : World} {bad : Nat → Prop} {base m n ci : Nat} {v : Value} {xs : List Nat} {ai : Option Addr} (h : Own .u64 e w base m v xs) (hv : v = .slice ai n ci) (hb : Bar bad w w') (hn : ∀ b, v.ownBlock = some b → ¬ bad b) :
    ∀ g, ai = some ⟨g, 0, none⟩ → ∃ full, Row .u64 e w' g full ∧ full.length = ci := by
  intro g hg
  subst hg
  rcases h with ⟨h1, _⟩ | ⟨g', full, h1, _, hr, _, _⟩
  · rw [hv] at h1; cases h1
  · have h2 := hv.symm.trans h1
    simp only [Value.slice.injEq, Option.some.injEq, Addr.mk.injEq] at h2
    obtain ⟨⟨rfl, _⟩, _, rfl⟩ := h2
    refine ⟨full, ?_, rfl⟩
    exact (hb.block g hr.lt (hn g (by rw [hv]; rfl))).trans hr

theorem row_owns {e : TypeId} {w : World} {g k B : Nat} {full : List Nat} (h : Row .u64 e w g full) (hk : k ≤ full.length) (hm : full.length ≤ maxLen) (hB : B ≤ g) : w.ownsRow B e 1 (.slice (some ⟨g, 0, none⟩) k full.length) k (vals .u64 (full.take k)) := by
  refine ⟨by simp [vals]; omega, .inr ⟨g, full.length, _, rfl, hB, h, hk, hm, by simp [vals], by simp [vals, List.map_take]⟩⟩

theorem owns_cell {e : TypeId} {w : World} {g n cap B : Nat} {ys : List Value} (h : w.ownsRow B e 1 (.slice (some ⟨g, 0, none⟩) n cap) n ys) (i : Nat) (hi : i < n) : w.cell? ⟨g, i, none⟩ = ys[i]? ∧ w.frozen? ⟨g, i, none⟩ = false := by
  obtain ⟨h1, h2⟩ := h
  rcases h2 with ⟨h2, _⟩ | ⟨g', cap', cur, hs, _, hh, _, _, hz, ht⟩
  · cases h2
  · simp only [Value.slice.injEq, Option.some.injEq, Addr.mk.injEq] at hs
    obtain ⟨⟨rfl, _⟩, _, rfl⟩ := hs
    refine ⟨?_, by simp [World.frozen?, hh]⟩
    simp only [World.cell?, hh]
    rw [← ht, List.getElem?_take_of_lt (by omega), Array.getElem?_toList]
    simp

end Go.Proofs.Ytpiloigpncbccaa
