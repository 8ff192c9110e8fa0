/-
  Plain mathematics: limbs of 64 bits as digits of 16 bits, and back.
-/
import Derived.Test.YtnlnjdieajdgfaaShiftM
namespace Go.Proofs.Ytnlnjdieajdgfaa

/-- The j-th digit of 16 bits of a list of limbs. -/
def d16 (xs : List Nat) (j : Nat) : Nat := dg xs (j / 4) / 65536 ^ (j % 4) % 65536

def digs (xs : List Nat) (n : Nat) : List Nat := (List.range n).map (d16 xs)

theorem length_digs (xs : List Nat) (n : Nat) : (digs xs n).length = n := by simp [digs]

theorem digs_succ (xs : List Nat) (n : Nat) : digs xs (n + 1) = digs xs n ++ [d16 xs n] := by simp [digs, List.range_succ]

theorem dg_digs (xs : List Nat) (n j : Nat) (h : j < n) : dg (digs xs n) j = d16 xs j := by
  simp [dg, digs, h]

theorem d16_lt (xs : List Nat) (j : Nat) : d16 xs j < 65536 := Nat.mod_lt _ (by omega)

theorem digs_ok (xs : List Nat) (n : Nat) : Ok 65536 (digs xs n) := by
  intro j
  by_cases h : j < n
  · rw [dg_digs _ _ _ h]; exact d16_lt _ _
  · rw [dg_out (by rw [length_digs]; omega)]; omega

theorem split4 (x : Nat) (hx : x < 18446744073709551616) : x % 65536 + (x / 65536 % 65536) * 65536 + (x / 4294967296 % 65536) * 4294967296 + (x / 281474976710656 % 65536) * 281474976710656 = x := by
  omega

theorem V_digs (B : Nat) (hB : B = 65536 ^ 4) (xs : List Nat) (h : ∀ i, dg xs i < 18446744073709551616) : ∀ m, V 65536 (d16 xs) (4 * m) = V B (dg xs) m
  | 0 => rfl
  | m + 1 => by
    have ih := V_digs B hB xs h m
    rw [show 4 * (m + 1) = 4 * m + 1 + 1 + 1 + 1 by omega]
    simp only [V]
    rw [ih]
    have e0 : d16 xs (4 * m) = dg xs m % 65536 := by
      unfold d16; rw [show 4 * m / 4 = m by omega, show 4 * m % 4 = 0 by omega]; simp
    have e1 : d16 xs (4 * m + 1) = dg xs m / 65536 % 65536 := by
      unfold d16; rw [show (4 * m + 1) / 4 = m by omega, show (4 * m + 1) % 4 = 1 by omega, Nat.pow_one]
    have e2 : d16 xs (4 * m + 1 + 1) = dg xs m / 4294967296 % 65536 := by
      unfold d16; rw [show (4 * m + 1 + 1) / 4 = m by omega, show (4 * m + 1 + 1) % 4 = 2 by omega]
    have e3 : d16 xs (4 * m + 1 + 1 + 1) = dg xs m / 281474976710656 % 65536 := by
      unfold d16; rw [show (4 * m + 1 + 1 + 1) / 4 = m by omega, show (4 * m + 1 + 1 + 1) % 4 = 3 by omega]
    rw [e0, e1, e2, e3]
    have hp : 65536 ^ (4 * m) = B ^ m := by rw [hB, Nat.pow_mul]
    have q1 : 65536 ^ (4 * m + 1) = B ^ m * 65536 := by rw [Nat.pow_succ, hp]
    have q2 : 65536 ^ (4 * m + 1 + 1) = B ^ m * 4294967296 := by rw [Nat.pow_succ, q1, Nat.mul_assoc]
    have q3 : 65536 ^ (4 * m + 1 + 1 + 1) = B ^ m * 281474976710656 := by rw [Nat.pow_succ, q2, Nat.mul_assoc]
    rw [hp, q1, q2, q3]
    have hs := split4 (dg xs m) (h m)
    have mc : ∀ a P c : Nat, a * (P * c) = a * c * P := fun a P c => by rw [Nat.mul_comm P c, Nat.mul_assoc]
    rw [mc, mc, mc]
    generalize B ^ m = P at *
    have e4 := congrArg (· * P) hs
    simp only [Nat.add_mul] at e4
    omega

end Go.Proofs.Ytnlnjdieajdgfaa
