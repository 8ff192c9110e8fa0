/-
  Lists of limbs that are being built by append.
-/
import Derived.Test.YtifpacgacbpalabGreatDoorOwn
import Derived.Deep.AppendLies
namespace Go.Proofs.YtifpacgacbpalabGreatDoor
open Go.RowKit

/-- A list of uint64 that is being built by append. -/
def Grw (w wr : World) (v : Value) (ys : List Nat) : Prop := Below w.heap.size w wr ∧ wr.ownsRow w.heap.size 88 1 v ys.length (vals .u64 ys)

theorem Grw.at {w wr : World} {v : Value} {ys : List Nat} (h : Grw w wr v ys) : ∃ ao cap, v = .slice ao ys.length cap ∧ ys.length ≤ cap ∧ At .u64 wr ao ys := by
  obtain ⟨hb, hl, ho⟩ := h
  rcases ho with ⟨rfl, h0⟩ | ⟨g, cap, cur, rfl, hg, hh, hn, _, hs, ht⟩
  · obtain rfl : ys = [] := List.length_eq_zero_iff.1 h0
    exact ⟨none, 0, rfl, Nat.le_refl _, At.nil _ _ _⟩
  · refine ⟨_, cap, rfl, hn, .inr ⟨g, 0, rfl, lt_of_block hh, fun i hi => ?_⟩⟩
    simp only [World.cell?, hh]
    have hc : cur[i]? = (vals .u64 ys)[i]? := by
      rw [← ht, List.getElem?_take_of_lt (by omega), Array.getElem?_toList]
    simp only [Option.isSome_none, Bool.false_eq_true, if_false, Nat.zero_add, hc]
    simp [vals, hi]

theorem Grw.step {w wr w1 : World} {v v' : Value} {ys : List Nat} {d : Nat} (o : Obj) (h : Grw w wr v ys) (ho : w1.ownsRow w.heap.size 88 1 v' (ys.length + 1) (vals .u64 ys ++ [.int .u64 (d : Int)])) (hg : (wr.alloc o).grownBy w1 v.ownBlock) :
    Grw w w1 v' (ys ++ [d]) := by
  have hb := h.1.alloc (h.1.size) o
  refine ⟨hb.grown hg hb.size ?_, ?_⟩
  · intro k hk
    rcases h.2.2 with ⟨rfl, _⟩ | ⟨g, cap, cur, rfl, hgb, _⟩
    · simp [Value.ownBlock] at hk
    · simp [Value.ownBlock] at hk; omega
  · rw [List.length_append]
    have : vals .u64 (ys ++ [d]) = vals .u64 ys ++ [.int .u64 (d : Int)] := by simp [vals]
    rw [this]; exact ho

/-- Other lists stay, where they lie ahead of what was laid last: the list that grows is changed alone. -/
theorem At.keep {wr w1 : World} {v : Value} {xs : List Nat} {ao : Option Addr} (o : Obj) (hg : (wr.alloc o).grownBy w1 v.ownBlock) (hat : At .u64 wr ao xs)
    (hne : ∀ b o, xs ≠ [] → ao = some ⟨b, o, none⟩ → v.ownBlock ≠ some b) : At .u64 w1 ao xs := by
  rcases hat with h' | ⟨b, o', h1, h2, h3⟩
  · exact .inl h'
  · by_cases hx : xs = []
    · exact .inl hx
    · refine .inr ⟨b, o', h1, Nat.lt_of_lt_of_le h2 (Nat.le_trans (by simp) hg.size), fun i hi => ?_⟩
      rw [World.cell?_of_block (w := wr) ((hg.block b (by simp; omega) (fun e => hne b o' hx h1 e.symm)).trans (Below.heap_alloc _ _ _ h2))]
      exact h3 i hi

theorem Grw.below {w wr w' : World} {v : Value} {ys : List Nat} (h : Grw w wr v ys) (hb : Below wr.heap.size wr w') : Grw w w' v ys := by
  refine ⟨h.1.trans (hb.mono h.1.size), h.2.kept (row := none) ⟨hb.os, hb.tape, hb.output, hb.size, fun k hk _ => hb.block k hk⟩ ?_⟩
  cases hv : v.ownBlock with
  | none => exact .inl rfl
  | some g => exact .inr (by simp)

end Go.Proofs.YtifpacgacbpalabGreatDoor
