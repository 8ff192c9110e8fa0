/-
  Plain mathematics: a narrow float taken as a wide one has the same digits, and never fewer of the fewest.
-/
import Derived.Test.YtpiloigpncbccabDoorZSM
namespace Go.Proofs.YtpiloigpncbccabDoor

theorem p2_shift (n : Int) (k : Nat) : ∃ j : Nat, 2 ^ k * p2N (n - k) = p2N n * 10 ^ j ∧ p2E (n - k) + j = p2E n := by
  unfold p2N p2E
  by_cases h1 : n < 0
  · rw [if_pos h1, if_pos h1, if_pos (by omega), if_pos (by omega)]
    refine ⟨k, ?_, by omega⟩
    rw [show (-(n - (k : Int))).toNat = (-n).toNat + k by omega, Nat.pow_add, Nat.mul_comm (5 ^ _) (5 ^ k), ← Nat.mul_assoc, ← Nat.mul_pow, Nat.mul_comm]
  · rw [if_neg h1, if_neg h1]
    by_cases h2 : n - (k : Int) < 0
    · rw [if_pos h2, if_pos h2]
      refine ⟨k - n.toNat, ?_, by omega⟩
      obtain ⟨a, ha⟩ : ∃ a, a = n.toNat := ⟨_, rfl⟩
      obtain ⟨c, hc⟩ : ∃ c, c = k - n.toNat := ⟨_, rfl⟩
      have hk : k = a + c := by omega
      rw [← ha] at hc
      rw [show (-(n - (k : Int))).toNat = c by omega, ← ha, ← hc, hk, Nat.pow_add, Nat.mul_assoc, ← Nat.mul_pow]
    · rw [if_neg h2, if_neg h2]
      refine ⟨0, ?_, by omega⟩
      rw [Nat.pow_zero, Nat.mul_one, ← Nat.pow_add]
      congr 1
      omega

/-- What is picked lies in reach. -/
theorem pick_near {r : Near} {p v : Nat} (h : pickAt r p = some v) : (v * 10 ^ p ≤ r.amt ∧ r.amt - v * 10 ^ p ≤ r.lo) ∨ (r.amt ≤ v * 10 ^ p ∧ v * 10 ^ p - r.amt ≤ r.hi) := by
  have hp : 0 < 10 ^ p := Nat.pow_pos (by omega)
  have hdm := Nat.div_add_mod r.amt (10 ^ p)
  have hlt := Nat.mod_lt r.amt hp
  have hle : ∀ {c : Bool} {d far : Nat}, heldN c d far = true → d ≤ far := by
    intro c d far h
    unfold heldN at h
    by_cases h1 : d < far
    · omega
    · simp [h1] at h; omega
  unfold pickAt pickN at h
  split at h
  · next hc =>
    left
    obtain rfl : r.amt / 10 ^ p = v := by simpa using h
    have := hle hc.1
    rw [Nat.mul_comm (r.amt / 10 ^ p)]
    generalize 10 ^ p * (r.amt / 10 ^ p) = z at *
    omega
  · split at h
    · next hc =>
      right
      obtain rfl : r.amt / 10 ^ p + 1 = v := by simpa using h
      have := hle hc
      rw [Nat.add_mul, Nat.one_mul, Nat.mul_comm (r.amt / 10 ^ p)]
      generalize 10 ^ p * (r.amt / 10 ^ p) = z at *
      omega
    · cases h

/-- If a multiple of 10^p lies strictly in reach, one is picked at that place. -/
theorem pick_mult {r : Near} {p z : Nat} (h : (z * 10 ^ p ≤ r.amt ∧ r.amt - z * 10 ^ p < r.lo) ∨ (r.amt ≤ z * 10 ^ p ∧ z * 10 ^ p - r.amt < r.hi)) (hlo : 0 < r.lo) : pickAt r p ≠ none := by
  have hp : 0 < 10 ^ p := Nat.pow_pos (by omega)
  have hdm := Nat.div_add_mod r.amt (10 ^ p)
  have hlt := Nat.mod_lt r.amt hp
  have two : heldN r.clo (r.amt % 10 ^ p) r.lo = true ∨ heldN r.clo (10 ^ p - r.amt % 10 ^ p) r.hi = true := by
    rcases h with ⟨h1, h2⟩ | ⟨h1, h2⟩
    · left
      have : z ≤ r.amt / 10 ^ p := (Nat.le_div_iff_mul_le hp).2 h1
      have := Nat.mul_le_mul_right (10 ^ p) this
      rw [Nat.mul_comm (r.amt / 10 ^ p)] at this
      exact heldN_lt (by omega)
    · by_cases h3 : r.amt % 10 ^ p = 0
      · left; rw [h3]; exact heldN_zero hlo
      · right
        have h4 : r.amt / 10 ^ p + 1 ≤ z := by
          have h5 : r.amt / 10 ^ p < z := (Nat.div_lt_iff_lt_mul hp).2 (by
            rcases Nat.lt_or_ge r.amt (z * 10 ^ p) with h6 | h6
            · exact h6
            · exfalso
              have h7 : r.amt = z * 10 ^ p := by omega
              rw [h7, Nat.mul_mod_left] at h3
              exact h3 rfl)
          exact h5
        have := Nat.mul_le_mul_right (10 ^ p) h4
        rw [Nat.add_mul, Nat.one_mul, Nat.mul_comm (r.amt / 10 ^ p)] at this
        exact heldN_lt (by omega)
  unfold pickAt pickN
  split
  · simp
  · next hc =>
    split
    · simp
    · next hd =>
      rcases two with h1 | h1
      · exact absurd ⟨h1, fun e => absurd e hd⟩ hc
      · exact absurd h1 hd

theorem decA_len (neg : Bool) {N most : Nat} {e : Int} (h : N ≠ 0) (hl : N < 10 ^ most ∨ N = 10 ^ most) (h1 : 1 ≤ most) : (decA neg N e).dig.length ≤ most := by
  obtain ⟨M, k, h2, h3, h4⟩ := decA_form neg e h
  have hk : 0 < 10 ^ k := Nat.pow_pos (by omega)
  have hMN : M ≤ N := by rw [h2]; exact Nat.le_mul_of_pos_right _ hk
  rw [h4]
  rcases hl with hl | hl
  · exact sizeN_le (by omega) h1
  · rcases Nat.lt_or_ge M (10 ^ most) with h5 | h5
    · exact sizeN_le h5 h1
    · exfalso
      have hM2 : M = 10 ^ most := by omega
      apply h3
      rw [hM2, show most = (most - 1) + 1 by omega, Nat.pow_succ, Nat.mul_mod_left]

/-- The fewest digits are as many as the places down to where one was picked. -/
theorem few_len {r : Near} (g : r.Good) (h0 : r.amt ≠ 0) {v p : Nat} (h : fewN r (sizeN r.amt) = (v, p)) (neg : Bool) (e : Int) : (decA neg v e).dig.length ≤ sizeN r.amt - p := by
  obtain ⟨b1, b2, _, b4, _⟩ := few_bound g h0 h
  have hp : 0 < 10 ^ p := Nat.pow_pos (by omega)
  have h1 : r.amt / 10 ^ p < 10 ^ (sizeN r.amt - p) := (Nat.div_lt_iff_lt_mul hp).2 (by
    rw [← Nat.pow_add, show sizeN r.amt - p + p = sizeN r.amt by omega]; exact sizeN_lt _)
  have := pick_or b4
  exact decA_len neg (by omega) (by omega) (by omega)

/-- Where one is picked at a place, no lower place is looked at. -/
theorem few_ge {r : Near} (g : r.Good) (h0 : r.amt ≠ 0) {v p P : Nat} (h : fewN r (sizeN r.amt) = (v, p)) (hP : P < sizeN r.amt) (hk : pickAt r P ≠ none) : P ≤ p := by
  obtain ⟨_, _, _, _, _, _, b7⟩ := few_bound g h0 h
  rcases Nat.lt_or_ge p P with h1 | h1
  · exact absurd (b7 P h1 hP) hk
  · exact h1

/-- A reach within another one, in units of which T make one: never more digits of the outer one. -/
theorem len_within {r s : Near} (gr : r.Good) (gs : s.Good) (h0 : r.amt ≠ 0) {j : Nat} (ha : s.amt = r.amt * 10 ^ j) (hl : s.lo < r.lo * 10 ^ j) (hh : s.hi < r.hi * 10 ^ j) {v p v' p' : Nat} (hr : fewN r (sizeN r.amt) = (v, p)) (hs : fewN s (sizeN s.amt) = (v', p')) (neg : Bool) (e e' : Int) :
    (decA neg v e).dig.length ≤ (decA neg v' e').dig.length := by
  have hT : 0 < 10 ^ j := Nat.pow_pos (by omega)
  have hs0 : s.amt ≠ 0 := by rw [ha]; exact Nat.mul_ne_zero h0 (by omega)
  obtain ⟨_, c2, _, c4, _⟩ := few_bound gs hs0 hs
  have near := pick_near c4
  obtain ⟨M, k, hN, hM, hD⟩ := decA_form neg e' (show v' ≠ 0 by omega)
  have hlen : (decA neg v' e').dig.length = sizeN M := by rw [hD]; rfl
  have hM0 : M ≠ 0 := by omega
  have hM1 := sizeN_pos M
  rw [hlen]
  have up := few_len gr h0 hr neg e
  obtain ⟨b1, _⟩ := few_bound gr h0 hr
  -- the value picked is U = M 10^(k + p')
  have hU : v' * 10 ^ p' = M * 10 ^ (k + p') := by rw [hN, Nat.pow_add, Nat.mul_assoc]
  obtain ⟨U, hUd⟩ : ∃ U, U = v' * 10 ^ p' := ⟨_, rfl⟩
  rw [← hUd] at near hU
  have hst : (U ≤ r.amt * 10 ^ j ∧ r.amt * 10 ^ j - U < r.lo * 10 ^ j) ∨ (r.amt * 10 ^ j ≤ U ∧ U - r.amt * 10 ^ j < r.hi * 10 ^ j) := by
    rw [← ha]; omega
  have hge := sizeN_ge h0
  -- a multiple z 10^P of the outer unit, between U and the amount, is in reach
  have between : ∀ P z, (U ≤ z * 10 ^ P * 10 ^ j ∧ z * 10 ^ P * 10 ^ j ≤ r.amt * 10 ^ j) ∨ (r.amt * 10 ^ j ≤ z * 10 ^ P * 10 ^ j ∧ z * 10 ^ P * 10 ^ j ≤ U) → pickAt r P ≠ none := by
    intro P z hz
    refine pick_mult (z := z) ?_ gr.pos
    obtain ⟨Z, hZ⟩ : ∃ Z, Z = z * 10 ^ P := ⟨_, rfl⟩
    rw [← hZ] at hz ⊢
    rcases hz with ⟨h1, h2⟩ | ⟨h1, h2⟩
    · left
      refine ⟨Nat.le_of_mul_le_mul_right h2 hT, ?_⟩
      apply Nat.lt_of_mul_lt_mul_right (a := 10 ^ j)
      rw [Nat.sub_mul]; omega
    · right
      refine ⟨Nat.le_of_mul_le_mul_right h1 hT, ?_⟩
      apply Nat.lt_of_mul_lt_mul_right (a := 10 ^ j)
      rw [Nat.sub_mul]; omega
  rcases Nat.lt_or_ge U (10 ^ (sizeN r.amt - 1) * 10 ^ j) with h1 | h1
  · have hk := between (sizeN r.amt - 1) 1 (.inl ⟨by rw [Nat.one_mul]; omega, by rw [Nat.one_mul]; exact Nat.mul_le_mul_right _ hge⟩)
    have := few_ge gr h0 hr (by omega) hk
    omega
  · have hsz : sizeN r.amt + j ≤ sizeN U := by
      have hU0 : U ≠ 0 := by
        have : 0 < 10 ^ (sizeN r.amt - 1) * 10 ^ j := Nat.mul_pos (Nat.pow_pos (by omega)) hT
        omega
      rw [← Nat.pow_add] at h1
      have h2 := sizeN_lt U
      have : sizeN r.amt - 1 + j < sizeN U := (Nat.pow_lt_pow_iff_right (by omega : 1 < 10)).1 (by omega)
      omega
    have hsU : sizeN U = sizeN M + (k + p') := by
      rw [hU]
      generalize k + p' = i
      induction i with
      | zero => simp
      | succ i ih =>
        have : M * 10 ^ i ≠ 0 := Nat.mul_ne_zero hM0 (by have := Nat.pow_pos (n := i) (show 0 < 10 by omega); omega)
        rw [Nat.pow_succ, ← Nat.mul_assoc]
        unfold sizeN at *
        rw [dd_ten this, List.length_append, List.length_singleton, ih]; omega
    rcases Nat.lt_or_ge (k + p') j with h2 | h2
    · omega
    · obtain ⟨P, hP⟩ : ∃ P, P = k + p' - j := ⟨_, rfl⟩
      have hUP : U = M * 10 ^ P * 10 ^ j := by rw [hU, Nat.mul_assoc, ← Nat.pow_add]; congr 2; omega
      rcases Nat.lt_or_ge P (sizeN r.amt) with h3 | h3
      · have hk := between P M (by rw [← hUP]; omega)
        have := few_ge gr h0 hr h3 hk
        omega
      · have hk := between (sizeN r.amt - 1) (M * 10 ^ (P - (sizeN r.amt - 1))) (by
          have e1 : M * 10 ^ (P - (sizeN r.amt - 1)) * 10 ^ (sizeN r.amt - 1) * 10 ^ j = U := by
            rw [hUP, Nat.mul_assoc M, ← Nat.pow_add]; congr 3; omega
          rw [e1]; omega)
        have := few_ge gr h0 hr (by omega) hk
        omega

end Go.Proofs.YtpiloigpncbccabDoor
