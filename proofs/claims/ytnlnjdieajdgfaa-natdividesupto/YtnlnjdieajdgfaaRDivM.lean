/-
  Plain mathematics of dividing bit by bit, with digits to the base 65536.
-/
import Derived.Test.YtnlnjdieajdgfaaRShM
namespace Go.Proofs.Ytnlnjdieajdgfaa

theorem dig_at {b : Nat} {xs : List Nat} (hb : 0 < b) (ox : Ok b xs) (j : Nat) : num b xs / b ^ j % b = dg xs j := by
  by_cases hj : j < xs.length
  · obtain ⟨t, ht⟩ : ∃ t, xs.length = j + (1 + t) := ⟨xs.length - j - 1, by omega⟩
    have h1 := V_split b (dg xs) j (1 + t)
    have h2 := V_split b (fun i => dg xs (j + i)) 1 t
    have h3 : V b (dg xs) j < b ^ j := V_lt j (fun i _ => ox i)
    have hp : 0 < b ^ j := Nat.pow_pos hb
    unfold num
    rw [ht, h1, Nat.add_comm, Nat.mul_add_div hp, Nat.div_eq_of_lt h3, Nat.add_zero, h2]
    simp only [V, Nat.pow_zero, Nat.mul_one, Nat.zero_add, Nat.pow_one, Nat.add_zero]
    rw [Nat.add_mul_mod_self_left]
    exact Nat.mod_eq_of_lt (ox j)
  · have h1 := num_lt ox
    have h2 := Nat.pow_le_pow_right hb (show xs.length ≤ j by omega)
    rw [Nat.div_eq_of_lt (by omega), dg_out (by omega), Nat.zero_mod]

theorem pow16j (j : Nat) : (65536 : Nat) ^ j = 2 ^ (16 * j) := by rw [show (65536 : Nat) = 2 ^ 16 by decide +kernel, ← Nat.pow_mul]

theorem bit_at {xs : List Nat} (ox : Ok 65536 xs) {j s : Nat} (hs : s ≤ 15) : num 65536 xs / 2 ^ (16 * j + s) % 2 = dg xs j / 2 ^ s % 2 := by
  have h1 := dig_at (by omega) ox j
  rw [Nat.pow_add, ← pow16j, ← Nat.div_div_eq_div_mul]
  generalize num 65536 xs / 65536 ^ j = M at *
  have h2 := Nat.div_add_mod M 65536
  rw [h1] at h2
  generalize dg xs j = d at *
  generalize M / 65536 = h at *
  have h3 : (65536 : Nat) = 2 ^ s * (2 * 2 ^ (15 - s)) := by
    rw [show 2 * 2 ^ (15 - s) = 2 ^ (15 - s + 1) by rw [Nat.pow_succ]; omega, ← Nat.pow_add, show s + (15 - s + 1) = 16 by omega]
  rw [← h2, h3, Nat.mul_assoc, Nat.mul_add_div (Nat.two_pow_pos s), Nat.mul_assoc, Nat.mul_add_mod]

theorem low_zero {xs : List Nat} (ox : Ok 65536 xs) {j s t : Nat} (hs : s ≤ 15) (h : num 65536 xs = t * 2 ^ (16 * j + s + 1)) : dg xs j % 2 ^ (s + 1) = 0 := by
  rw [← dig_at (by omega) ox j, h]
  have e : t * 2 ^ (16 * j + s + 1) = 65536 ^ j * (t * 2 ^ (s + 1)) := by
    rw [pow16j, show 16 * j + s + 1 = 16 * j + (s + 1) by omega, Nat.pow_add, Nat.mul_left_comm]
  rw [e, Nat.mul_div_cancel_left _ (Nat.pow_pos (by omega))]
  have hd : 2 ^ (s + 1) ∣ (65536 : Nat) := by
    rw [show (65536 : Nat) = 2 ^ 16 by decide +kernel]
    exact Nat.pow_dvd_pow 2 (by omega)
  rw [Nat.mod_mod_of_dvd _ hd, Nat.mul_mod_left]

theorem set_bit {d s : Nat} (hd : d < 65536) (hs : s ≤ 15) (h : d % 2 ^ (s + 1) = 0) : d ||| 2 ^ s = d + 2 ^ s ∧ d + 2 ^ s < 65536 := by
  have h1 := Nat.div_add_mod d (2 ^ (s + 1))
  rw [h, Nat.add_zero] at h1
  have hlt : (2 : Nat) ^ s < 2 ^ (s + 1) := Nat.pow_lt_pow_right (by omega) (by omega)
  generalize d / 2 ^ (s + 1) = a at *
  have e : d ||| 2 ^ s = d + 2 ^ s := by
    rw [← h1, Nat.or_comm, Nat.mul_comm, or_low hlt, Nat.add_comm]
  refine ⟨e, ?_⟩
  have hp : (65536 : Nat) = 2 ^ (s + 1) * 2 ^ (15 - s) := by rw [← Nat.pow_add, show s + 1 + (15 - s) = 16 by omega]
  have ha : a < 2 ^ (15 - s) := by
    rw [hp, ← h1] at hd
    exact Nat.lt_of_mul_lt_mul_left hd
  have h2 : 2 ^ (s + 1) * (a + 1) ≤ 2 ^ (s + 1) * 2 ^ (15 - s) := Nat.mul_le_mul_left _ ha
  rw [Nat.mul_add, ← hp] at h2
  omega

theorem rdiv_next (A B k : Nat) (hB : 0 < B) : (B ≤ 2 * (A / 2 ^ (k + 1) % B) + A / 2 ^ k % 2 → A / 2 ^ k / B = 2 * (A / 2 ^ (k + 1) / B) + 1 ∧ A / 2 ^ k % B = 2 * (A / 2 ^ (k + 1) % B) + A / 2 ^ k % 2 - B) ∧
    (¬ B ≤ 2 * (A / 2 ^ (k + 1) % B) + A / 2 ^ k % 2 → A / 2 ^ k / B = 2 * (A / 2 ^ (k + 1) / B) ∧ A / 2 ^ k % B = 2 * (A / 2 ^ (k + 1) % B) + A / 2 ^ k % 2) := by
  have e1 : A / 2 ^ (k + 1) = A / 2 ^ k / 2 := by rw [Nat.pow_succ, Nat.div_div_eq_div_mul]
  rw [e1]
  generalize A / 2 ^ k = T at *
  have e2 := Nat.div_add_mod T 2
  have e3 := Nat.div_add_mod (T / 2) B
  have e4 := Nat.mod_lt (T / 2) hB
  have e5 := Nat.mod_lt T (show 0 < 2 by omega)
  generalize T % 2 = c at *
  generalize T / 2 = H at *
  generalize H % B = R at *
  generalize H / B = Q at *
  refine ⟨fun h => ?_, fun h => ?_⟩
  · refine (Nat.div_mod_unique hB).2 ⟨?_, by omega⟩
    rw [← e2, ← e3, Nat.mul_add B, Nat.mul_left_comm B 2]; omega
  · refine (Nat.div_mod_unique hB).2 ⟨?_, by omega⟩
    rw [← e2, ← e3, Nat.mul_left_comm B 2]; omega

end Go.Proofs.Ytnlnjdieajdgfaa
