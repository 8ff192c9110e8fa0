/-
  Plain mathematics: how many bits a number has, by its highest digit.
-/
import Derived.Test.YtifpacgacbpalaaGreatDoorZNum
import Derived.Lib.BitFns
namespace Go.Proofs.YtifpacgacbpalaaGreatDoor

/-- How many bits a number has. -/
def bitsN (n : Nat) : Nat := if n = 0 then 0 else n.log2 + 1

theorem bitsN_eq {n k : Nat} (h1 : 2 ^ k ≤ n) (h2 : n < 2 ^ (k + 1)) : bitsN n = k + 1 := by
  have h0 : n ≠ 0 := by have := Nat.two_pow_pos k; omega
  unfold bitsN
  rw [if_neg h0, (Nat.log2_eq_iff h0).2 ⟨h1, h2⟩]

theorem bitsN_spec {n : Nat} (h : n ≠ 0) : ∃ k, bitsN n = k + 1 ∧ 2 ^ k ≤ n ∧ n < 2 ^ (k + 1) :=
  ⟨n.log2, by simp [bitsN, h], Nat.log2_self_le h, Nat.lt_log2_self⟩

theorem bitLen_bits (x : Nat) (h : x < 2 ^ 64) : Lib.bitLen x = bitsN x := by
  by_cases h0 : x = 0
  · subst h0; decide
  · obtain ⟨k, hk, h1, h2⟩ := bitsN_spec h0
    rw [hk, Lib.bitLen_shift k x h1 h]
    have : x / 2 ^ k = 1 := by
      have hp := Nat.two_pow_pos k
      have a1 : 1 ≤ x / 2 ^ k := (Nat.le_div_iff_mul_le hp).2 (by omega)
      have a2 : x / 2 ^ k < 2 := (Nat.div_lt_iff_lt_mul hp).2 (by rw [Nat.pow_succ] at h2; omega)
      omega
    rw [this]
    have : Lib.bitLen 1 = 1 := by decide
    rw [this]

theorem bits_top {s b : Nat} {f : Nat → Nat} {n : Nat} (hb : b = 2 ^ s) (hf : ∀ i, i < n + 1 → f i < b) (h0 : f n ≠ 0) : bitsN (V b f (n + 1)) = s * n + bitsN (f n) := by
  obtain ⟨k, hk, h1, h2⟩ := bitsN_spec h0
  have hv := V_lt n (fun i hi => hf i (by omega))
  rw [hk]
  have hp : b ^ n = 2 ^ (s * n) := by rw [hb, Nat.pow_mul]
  refine bitsN_eq (k := s * n + k) ?_ ?_
  · simp only [V]
    rw [Nat.pow_add, ← hp]
    have := Nat.mul_le_mul_left (b ^ n) h1
    rw [Nat.mul_comm (f n)]
    omega
  · simp only [V]
    rw [show s * n + k + 1 = s * n + (k + 1) by omega, Nat.pow_add, ← hp]
    have h3 : (f n + 1) * b ^ n ≤ 2 ^ (k + 1) * b ^ n := Nat.mul_le_mul_right _ h2
    rw [Nat.add_mul, Nat.one_mul] at h3
    rw [Nat.mul_comm (b ^ n)]
    omega

end Go.Proofs.YtifpacgacbpalaaGreatDoor
