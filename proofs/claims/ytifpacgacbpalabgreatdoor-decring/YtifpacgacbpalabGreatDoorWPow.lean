/-
  What whole.Pow5 and whole.Pow10 do.
-/
import Derived.Test.YtifpacgacbpalabGreatDoorZMul
import Derived.Test.YtifpacgacbpalabGreatDoorDown
import Derived.Test.YtifpacgacbpalabGreatDoorZLong
import Derived.Laws.BitsLemmas
namespace Go.Proofs.YtifpacgacbpalabGreatDoor
open Go.RowKit

theorem i64_and1 (n : Int) : bits .and .i64 n 1 = n % 2 := by
  have h1 : (BitVec.ofInt 64 1).toNat = 2 ^ 1 - 1 := by decide
  have key : (BitVec.ofInt 64 n &&& BitVec.ofInt 64 1).toNat = (n % ((2 ^ 64 : Nat) : Int)).toNat % 2 ^ 1 := by
    rw [BitVec.toNat_and, BitVec.toNat_ofInt, h1, Nat.and_two_pow_sub_one_eq_mod]
  show IntKind.i64.wrap ((BitVec.ofInt 64 n &&& BitVec.ofInt 64 1).toNat : Nat) = n % 2
  rw [key, IntKind.wrap_i64]
  omega

theorem five_small : (5 : Nat) ^ 8192 < B64 ^ 400 := by decide +kernel

theorem five_len {r : List Nat} {e : Nat} (h : Is B64 r (5 ^ e)) (he : e ≤ 8192) : r.length ≤ 400 := by
  have h1 := Nat.pow_le_pow_right (show 0 < 5 by omega) he
  have h2 := five_small
  have h3 := trimmed_small (xs := r) (t := 400) (by rw [h.2.2]; omega)
  rw [trimmed_of_top h.2.1] at h3
  exact h3

/-- At the head of Pow5's loop, k bits of n being left. -/
structure PowInv (w : World) (n k : Nat) (v : Value) (wr : World) : Prop where
  bel : Below w.heap.size w wr
  own : ∃ r, Own .u64 88 wr w.heap.size 1000 v r ∧ Is B64 r (5 ^ (n / 2 ^ k))

theorem pow_bits (n k : Nat) : n / 2 ^ k = 2 * (n / 2 ^ (k + 1)) + n / 2 ^ k % 2 := by
  rw [Nat.pow_succ, ← Nat.div_div_eq_div_mul]; omega

end Go.Proofs.YtifpacgacbpalabGreatDoor
