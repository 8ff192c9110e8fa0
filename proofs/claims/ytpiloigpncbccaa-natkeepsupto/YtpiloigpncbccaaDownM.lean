/-
  Plain mathematics of shifts down.
-/
import Derived.Test.YtpiloigpncbccaaShiftM
namespace Go.Proofs.Ytpiloigpncbccaa

theorem V_split (b : Nat) (f : Nat → Nat) (m : Nat) : ∀ n, V b f (m + n) = V b f m + b ^ m * V b (fun i => f (m + i)) n
  | 0 => by simp [V]
  | n + 1 => by
    rw [← Nat.add_assoc]
    simp only [V]
    rw [V_split b f m n, Nat.pow_add, Nat.mul_add, Nat.mul_left_comm, Nat.add_assoc]

/-- The digits of a number shifted down by s bits: its own high part, and the next one's low part. -/
def downD (n s : Nat) (y : Nat → Nat) (i : Nat) : Nat := y i / 2 ^ s + y (i + 1) % 2 ^ s * 2 ^ (n - s)

theorem downD_lt {n s : Nat} (hs : s ≤ n) {y : Nat → Nat} (hy : ∀ i, y i < 2 ^ n) (i : Nat) : downD n s y i < 2 ^ n := by
  unfold downD
  have h1 := high_lt (n := n) (s := n - s) (by omega) (hy i)
  rw [show n - (n - s) = s by omega] at h1
  have h2 : y (i + 1) % 2 ^ s + 1 ≤ 2 ^ s := Nat.mod_lt _ (Nat.two_pow_pos _)
  have h3 := Nat.mul_le_mul_right (2 ^ (n - s)) h2
  rw [← Nat.pow_add, show s + (n - s) = n by omega, Nat.add_mul, Nat.one_mul] at h3
  omega

theorem down_sum {n s : Nat} (hs : s ≤ n) (y : Nat → Nat) : ∀ m, V (2 ^ n) y m + y m % 2 ^ s * (2 ^ n) ^ m = 2 ^ s * V (2 ^ n) (downD n s y) m + y 0 % 2 ^ s
  | 0 => by simp [V]
  | m + 1 => by
    have ih := down_sum hs y m
    simp only [V, downD]
    have e1 := Nat.div_add_mod (y m) (2 ^ s)
    have e2 : 2 ^ s * 2 ^ (n - s) = 2 ^ n := by rw [← Nat.pow_add]; congr 1; omega
    have e3 : y m * (2 ^ n) ^ m = 2 ^ s * (y m / 2 ^ s) * (2 ^ n) ^ m + y m % 2 ^ s * (2 ^ n) ^ m := by rw [← Nat.add_mul, e1]
    have e4 : 2 ^ s * (V (2 ^ n) (downD n s y) m + (y m / 2 ^ s + y (m + 1) % 2 ^ s * 2 ^ (n - s)) * (2 ^ n) ^ m) =
        2 ^ s * V (2 ^ n) (downD n s y) m + (2 ^ s * (y m / 2 ^ s) * (2 ^ n) ^ m + y (m + 1) % 2 ^ s * (2 ^ n) ^ (m + 1)) := by
      rw [Nat.mul_add, Nat.add_mul, Nat.mul_add, Nat.pow_succ, ← Nat.mul_assoc (2 ^ s)]
      congr 2
      rw [← Nat.mul_assoc, Nat.mul_left_comm (2 ^ s), e2, Nat.mul_assoc, Nat.mul_comm (2 ^ n)]
    show V (2 ^ n) y m + y m * (2 ^ n) ^ m + y (m + 1) % 2 ^ s * (2 ^ n) ^ (m + 1) = 2 ^ s * (V (2 ^ n) (downD n s y) m + (y m / 2 ^ s + y (m + 1) % 2 ^ s * 2 ^ (n - s)) * (2 ^ n) ^ m) + y 0 % 2 ^ s
    rw [e4]
    omega

theorem down_val {n s m : Nat} (hs : s ≤ n) (y : Nat → Nat) (h0 : y m = 0) : V (2 ^ n) (downD n s y) m = V (2 ^ n) y m / 2 ^ s := by
  have h := down_sum hs y m
  rw [h0, Nat.zero_mod, Nat.zero_mul, Nat.add_zero] at h
  rw [h, Nat.mul_add_div (Nat.two_pow_pos s), Nat.div_eq_of_lt (Nat.mod_lt _ (Nat.two_pow_pos s)), Nat.add_zero]

/-- The list whose digits are these is the number divided by the power of the base and by 2^s, rounded down. -/
theorem down_num {n s lm : Nat} (hs : s ≤ n) {xs r : List Nat} (ox : Ok (2 ^ n) xs) (hl : lm ≤ xs.length) (hr : r.length = xs.length - lm) (hd : ∀ j, j < r.length → dg r j = downD n s (fun i => dg xs (lm + i)) j) :
    Ok (2 ^ n) r ∧ num (2 ^ n) r = num (2 ^ n) xs / (2 ^ n) ^ lm / 2 ^ s := by
  refine ⟨?_, ?_⟩
  · intro j
    by_cases h : j < r.length
    · rw [hd j h]; exact downD_lt hs (fun i => ox _) j
    · rw [dg_out (by omega)]; exact Nat.two_pow_pos _
  · have e := V_split (2 ^ n) (dg xs) lm (xs.length - lm)
    rw [show lm + (xs.length - lm) = xs.length by omega] at e
    have hp : 0 < (2 ^ n) ^ lm := Nat.pow_pos (Nat.two_pow_pos n)
    have e2 : num (2 ^ n) xs / (2 ^ n) ^ lm = V (2 ^ n) (fun i => dg xs (lm + i)) (xs.length - lm) := by
      unfold num
      rw [e, Nat.add_mul_div_left _ _ hp, Nat.div_eq_of_lt (V_lt lm (fun i _ => ox i)), Nat.zero_add]
    rw [e2, ← down_val hs (fun i => dg xs (lm + i)) (show dg xs (lm + (xs.length - lm)) = 0 from dg_out (by omega))]
    unfold num
    rw [hr]
    exact V_congr _ (fun i hi => hd i (by omega))

theorem or_down {n s a b : Nat} (hs : s ≤ n) (ha : a < 2 ^ n) : a / 2 ^ s ||| b * 2 ^ (n - s) % 2 ^ n = a / 2 ^ s + b % 2 ^ s * 2 ^ (n - s) := by
  rw [low_eq (by omega), show n - (n - s) = s by omega]
  have h1 := high_lt (n := n) (s := n - s) (by omega) ha
  rw [show n - (n - s) = s by omega] at h1
  exact or_low h1

end Go.Proofs.Ytpiloigpncbccaa
