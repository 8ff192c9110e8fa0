/-
  Plain mathematics: limbs of 64 bits as digits of 16 bits, and back.
  What the reference's In does: limbs, as digits of 16 bits.
-/
import Derived.Test.YtafljhfamjabeaaGreatDoorZB2
import Derived.Test.YtafljhfamjabeaaGreatDoorZB4
import Derived.Test.YtafljhfamjabeaaGreatDoorZRTrim
import Derived.Test.YtafljhfamjabeaaGreatDoorZUint
import Derived.Laws.Bits64b
namespace Go.Proofs.YtafljhfamjabeaaGreatDoor

end Go.Proofs.YtafljhfamjabeaaGreatDoor

namespace Go.Proofs.YtafljhfamjabeaaGreatDoor
open Go.RowKit

/-- What the reference's functions answer: a list of digits, without noughts on top, that is the number n; it has at most m digits. -/
def RPost (w : World) (m n : Nat) (e : Ending) (w' : World) : Prop :=
  ∃ ao cap ys, e = .returned (.slice ao ys.length cap) ∧ ys.length ≤ cap ∧ At .u32 w' ao ys ∧ Is 65536 ys n ∧ ys.length ≤ m ∧ Below w.heap.size w w'

/-- A list that is being built by append. -/
def Grows (w wr : World) (v : Value) (ys : List Nat) : Prop := Below w.heap.size w wr ∧ wr.ownsRow w.heap.size 101 1 v ys.length (vals .u32 ys)

theorem Grows.at {w wr : World} {v : Value} {ys : List Nat} (h : Grows w wr v ys) : ∃ ao cap, v = .slice ao ys.length cap ∧ ys.length ≤ cap ∧ At .u32 wr ao ys := by
  obtain ⟨hb, hl, ho⟩ := h
  rcases ho with ⟨rfl, h0⟩ | ⟨g, cap, cur, rfl, hg, hh, hn, _, hs, ht⟩
  · obtain rfl : ys = [] := List.length_eq_zero_iff.1 h0
    exact ⟨none, 0, rfl, Nat.le_refl _, At.nil _ _ _⟩
  · refine ⟨_, cap, rfl, hn, .inr ⟨g, 0, rfl, lt_of_block hh, fun i hi => ?_⟩⟩
    simp only [World.cell?, hh]
    have hc : cur[i]? = (vals .u32 ys)[i]? := by
      rw [← ht, List.getElem?_take_of_lt (by omega), Array.getElem?_toList]
    simp only [Option.isSome_none, Bool.false_eq_true, if_false, Nat.zero_add, hc]
    simp [vals, hi]

theorem Grows.step {w wr w1 : World} {v v' : Value} {ys : List Nat} {d : Nat} (o : Obj) (h : Grows w wr v ys) (ho : w1.ownsRow w.heap.size 101 1 v' (ys.length + 1) (vals .u32 ys ++ [.int .u32 (d : Int)])) (hg : (wr.alloc o).grownBy w1 v.ownBlock) :
    Grows w w1 v' (ys ++ [d]) := by
  have hb := h.1.alloc (h.1.size) o
  refine ⟨hb.grown hg hb.size ?_, ?_⟩
  · intro k hk
    rcases h.2.2 with ⟨rfl, _⟩ | ⟨g, cap, cur, rfl, hgb, _⟩
    · simp [Value.ownBlock] at hk
    · simp [Value.ownBlock] at hk; omega
  · rw [List.length_append]
    have : vals .u32 (ys ++ [d]) = vals .u32 ys ++ [.int .u32 (d : Int)] := by simp [vals]
    rw [this]; exact ho

theorem and16 (a : Nat) (ha : a < B64) : bits .and .u64 (a : Int) 65535 % 4294967296 = ((a % 65536 : Nat) : Int) := by
  have h := bits_and_u64_nat a 65535 ha (by omega)
  rw [Nat.and_two_pow_sub_one_eq_mod a 16] at h
  rw [show (65535 : Int) = ((65535 : Nat) : Int) from rfl, h]
  omega

end Go.Proofs.YtafljhfamjabeaaGreatDoor
