/-
  Copies of lists, gathered in a list of lists by append: what stays while it grows.
-/
import Derived.Test.YtpiloigpncbccaaKLists
namespace Go.Proofs.Ytpiloigpncbccaa
open Go.RowKit

/-- The copies us of the first i lists lie in memory that was laid behind Wb, none of them in the block of the list u that holds them. -/
structure Was (Wb : World) (xs : Nat → List Nat) (i : Nat) (u : Value) (us : List Value) (wr : World) : Prop where
  bel : Below Wb.heap.size Wb wr
  row : wr.ownsRow Wb.heap.size 22 1 u i us
  each : ∀ k, k < i → ∃ bo co, us[k]? = some (.slice bo (xs k).length co) ∧ (xs k).length ≤ co ∧ At .u64 wr bo (xs k) ∧ ∀ b f, xs k ≠ [] → bo = some ⟨b, f, none⟩ → Wb.heap.size ≤ b ∧ u.ownBlock ≠ some b

theorem At.grown {wr w1 : World} {v : Option Nat} {xs : List Nat} {ao : Option Addr} (o : Obj) (hg : (wr.alloc o).grownBy w1 v) (hat : At .u64 wr ao xs) (hne : ∀ b f, xs ≠ [] → ao = some ⟨b, f, none⟩ → v ≠ some b) : At .u64 w1 ao xs := by
  rcases hat with h' | ⟨b, o', h1, h2, h3⟩
  · exact .inl h'
  · by_cases hx : xs = []
    · exact .inl hx
    · refine .inr ⟨b, o', h1, Nat.lt_of_lt_of_le h2 (Nat.le_trans (by simp) hg.size), fun i hi => ?_⟩
      rw [World.cell?_of_block (w := wr) ((hg.block b (by simp; omega) (fun e => hne b o' hx h1 e.symm)).trans (Below.heap_alloc _ _ _ h2))]
      exact h3 i hi

theorem Was.step {Wb wr w1 w2 : World} {xs : Nat → List Nat} {i g cap co : Nat} {u : Value} {us : List Value} {bo : Option Addr} (h : Was Wb xs i u us wr) (hc : Below wr.heap.size wr w1) (hle : (xs i).length ≤ co) (hat : At .u64 w1 bo (xs i)) (hnew : ∀ b f, xs i ≠ [] → bo = some ⟨b, f, none⟩ → wr.heap.size ≤ b)
    (o : Obj) (hg : (w1.alloc o).grownBy w2 u.ownBlock) (hown : w2.ownsRow Wb.heap.size 22 1 (.slice (some ⟨g, 0, none⟩) (i + 1) cap) (i + 1) (us ++ [.slice bo (xs i).length co])) (hl : u.ownBlock = some g ∨ g = w1.heap.size + 1) :
    Was Wb xs (i + 1) (.slice (some ⟨g, 0, none⟩) (i + 1) cap) (us ++ [.slice bo (xs i).length co]) w2 := by
  have hub := h.row.lt
  have hul : us.length = i := by have := h.row.1; omega
  have hb1 : Below Wb.heap.size Wb w1 := h.bel.trans (hc.mono h.bel.size)
  have hb2 : Below Wb.heap.size Wb (w1.alloc o) := hb1.alloc hb1.size o
  refine ⟨hb2.grown hg hb2.size (fun k hk => (hub k hk).1), hown, ?_⟩
  intro k hk
  rcases Nat.lt_or_ge k i with hki | hki
  · obtain ⟨b', c', h1, h2, h3, h4⟩ := h.each k hki
    refine ⟨b', c', by rw [List.getElem?_append_left (by omega)]; exact h1, h2, At.grown o hg (h3.below hc) (fun b f hx e => (h4 b f hx e).2), ?_⟩
    intro b f hx e
    have h5 := h4 b f hx e
    refine ⟨h5.1, ?_⟩
    show some g ≠ some b
    intro h6
    injection h6 with h6
    subst h6
    rcases hl with hl | hl
    · exact h5.2 hl
    · have h7 : g < wr.heap.size := by
        rcases h3 with h3 | ⟨b3, f3, e3, h3, _⟩
        · exact absurd h3 hx
        · rw [e] at e3; simp only [Option.some.injEq, Addr.mk.injEq] at e3; omega
      have := hc.size
      omega
  · obtain rfl : k = i := by omega
    refine ⟨bo, co, by rw [List.getElem?_append_right (by omega), hul]; simp, hle, At.grown o hg hat (fun b f hx e h6 => ?_), ?_⟩
    · have h7 := hnew b f hx e
      have := (hub b h6).2
      omega
    · intro b f hx e
      have h7 := hnew b f hx e
      refine ⟨by have := h.bel.size; omega, ?_⟩
      show some g ≠ some b
      intro h6
      injection h6 with h6
      subst h6
      rcases hl with hl | hl
      · have := (hub g hl).2; omega
      · have h8 : g < w1.heap.size := by
          rcases hat with h3 | ⟨b3, f3, e3, h3, _⟩
          · exact absurd h3 hx
          · rw [e] at e3; simp only [Option.some.injEq, Addr.mk.injEq] at e3; omega
        omega

/-- What lies in the block of the list of lists. -/
theorem Was.cells {Wb wr : World} {xs : Nat → List Nat} {i : Nat} {u : Value} {us : List Value} (h : Was Wb xs i u us wr) (hi : 0 < i) : ∃ g cap, u = .slice (some ⟨g, 0, none⟩) i cap ∧ Wb.heap.size ≤ g ∧ g < wr.heap.size ∧ i ≤ cap ∧ ∀ k, k < i → wr.cell? ⟨g, k, none⟩ = us[k]? := by
  rcases h.row.2 with ⟨_, h0⟩ | ⟨g, cap, cur, rfl, hg, hh, hn, _, hs, ht⟩
  · omega
  · refine ⟨g, cap, rfl, hg, lt_of_block hh, hn, fun k hk => ?_⟩
    simp only [World.cell?, hh]
    rw [← ht, List.getElem?_take_of_lt (by omega), Array.getElem?_toList]
    simp

end Go.Proofs.Ytpiloigpncbccaa
