/-
  Plain mathematics: the same for the narrow floats.
  Plain mathematics: the float that an amount is nearest to, midway the even one; there is just one; what is rounded in steps and joined is it.
  Plain mathematics: the bits that package nearest answers, and those of its reference, are the nearest float's.
  Plain mathematics: a float's digits, the fewest and all of them, are nearest to it; the bits that package nearest answers for a Dec.
  Plain mathematics: which Decs may be; of two the greater one never has the lesser float.
  Plain mathematics: with one digit less, rounded either way, the fewest digits are another float's.
-/
import Derived.Test.YtpiloigpncbccacGreatDoorZSM
import Derived.Test.YtpiloigpncbccacGreatDoorBitsM
namespace Go.Proofs.YtpiloigpncbccacGreatDoor

theorem Tn_powN (k : Nat) : Tn (-151 + (k : Int)) = 2 ^ k * Tn (-151) := by
  induction k with
  | zero => simp
  | succ k ih =>
    rw [show -151 + ((k + 1 : Nat) : Int) = -151 + (k : Int) + 1 by omega, Tn_succ (by omega), ih, Nat.pow_succ, ← Nat.mul_assoc, Nat.mul_comm 2]

def T0N : Nat := Tn (-151)
theorem T0_posN : 0 < T0N := Nat.mul_pos (p2N_pos _) (Nat.pow_pos (by omega))

/-- A float's amount in units of 2^-149. -/
def fAmtN (a : Nat) : Nat := fNum 23 (a / 2 ^ 23) (a % 2 ^ 23) * 2 ^ (a / 2 ^ 23 - 1)

theorem fPow_natN (x : Nat) : fPow 149 x = -151 + ((x - 1 + 2 : Nat) : Int) := by
  unfold fPow; split <;> omega

theorem fAmt_succN (a : Nat) : fAmtN (a + 1) = fAmtN a + 2 ^ (a / 2 ^ 23 - 1) := by
  have e1 : (2 : Nat) ^ 23 = 8388608 := by decide
  unfold fAmtN fNum
  rw [e1]
  by_cases h : a % 8388608 + 1 < 8388608
  · have h1 : (a + 1) / 8388608 = a / 8388608 := by omega
    have h2 : (a + 1) % 8388608 = a % 8388608 + 1 := by omega
    rw [h1, h2]
    split
    · rw [Nat.add_mul, Nat.one_mul]
    · rw [← Nat.add_assoc, Nat.add_mul _ 1, Nat.one_mul]
  · have h1 : (a + 1) / 8388608 = a / 8388608 + 1 := by omega
    have h2 : (a + 1) % 8388608 = 0 := by omega
    have h3 : a % 8388608 = 8388607 := by omega
    rw [h1, h2, h3, if_neg (by omega), Nat.add_sub_cancel, Nat.add_zero]
    by_cases h0 : a / 8388608 = 0
    · rw [h0]; simp
    · rw [if_neg h0]
      obtain ⟨i, hi⟩ : ∃ i, a / 8388608 = i + 1 := ⟨a / 8388608 - 1, by omega⟩
      rw [hi, Nat.add_sub_cancel, Nat.pow_succ]
      omega

theorem fAmt_monoN {a b : Nat} (h : a ≤ b) : fAmtN a ≤ fAmtN b := by
  induction b with
  | zero => rw [show a = 0 by omega]; exact Nat.le_refl _
  | succ b ih =>
    by_cases e : a = b + 1
    · rw [e]; exact Nat.le_refl _
    · have := ih (by omega)
      rw [fAmt_succN]; exact Nat.le_trans this (Nat.le_add_right _ _)

theorem fAmt_ltN {a b : Nat} (h : a < b) : fAmtN a < fAmtN b := by
  have h1 := fAmt_monoN (show a + 1 ≤ b from h)
  have h2 := fAmt_succN a
  have h3 : 0 < 2 ^ (a / 2 ^ 23 - 1) := Nat.pow_pos (by omega)
  omega

/-- The fields of a float that is not below 0 and finite. -/
theorem pos_fieldsN {a : Nat} (h : a < 2139095040) : a / 2 ^ 23 % 2 ^ 8 = a / 2 ^ 23 ∧ a / 2 ^ 23 < 255 ∧ a / 2 ^ 23 / 2 ^ 8 = 0 := by
  have e1 : (2 : Nat) ^ 23 = 8388608 := by decide
  have e2 : (2 : Nat) ^ 8 = 256 := by decide
  rw [e1, e2]; omega

theorem pos_decN {a : Nat} (h : a < 2139095040) (h0 : a ≠ 0) (tell : Nat → Nat → Nat × Int) : decOf 23 8 tell a = decA false (tell (a / 2 ^ 23) (a % 2 ^ 23)).1 (tell (a / 2 ^ 23) (a % 2 ^ 23)).2 := by
  have e1 : (2 : Nat) ^ 23 = 8388608 := by decide
  obtain ⟨g1, g2, g3⟩ := pos_fieldsN h
  unfold decOf
  rw [g1, g3, if_neg (by rw [show (2 : Nat) ^ 8 = 256 by decide]; omega), if_neg (by rw [e1]; omega)]
  rfl

theorem zero_decN (tell : Nat → Nat → Nat × Int) : decOf 23 8 tell 0 = ⟨0, false, [], 0⟩ := by
  unfold decOf
  rw [if_neg (by decide), if_pos (by decide)]
  rfl

theorem fNum_posN {a : Nat} (h0 : a ≠ 0) : fNum 23 (a / 2 ^ 23) (a % 2 ^ 23) ≠ 0 := by
  have e1 : (2 : Nat) ^ 23 = 8388608 := by decide
  unfold fNum
  rw [e1]
  split <;> omega

theorem fPow_boundsN {a : Nat} (h : a < 2139095040) : -149 ≤ fPow 149 (a / 2 ^ 23) ∧ fPow 149 (a / 2 ^ 23) ≤ 104 := by
  have := (pos_fieldsN h).2.1
  unfold fPow; split <;> omega

theorem val_exN {a : Nat} (h : a < 2139095040) : valD (ex32D a) = 4 * fAmtN a * T0N := by
  by_cases h0 : a = 0
  · subst h0
    have : fAmtN 0 = 0 := by decide +kernel
    rw [valD_nil (by rw [show ex32D 0 = _ from zero_decN _]), this, Nat.mul_zero, Nat.zero_mul]
  · have hb := fPow_boundsN h
    have hp := p2N_pos (fPow 149 (a / 2 ^ 23))
    have hE : -1100 ≤ p2E (fPow 149 (a / 2 ^ 23)) := by unfold p2E; split <;> omega
    rw [show ex32D a = _ from pos_decN h h0 _, val_decA false (N := (allD 23 149 (a / 2 ^ 23) (a % 2 ^ 23)).1) (e := (allD 23 149 (a / 2 ^ 23) (a % 2 ^ 23)).2) (Nat.mul_ne_zero (fNum_posN h0) (by omega)) hE]
    show fNum 23 (a / 2 ^ 23) (a % 2 ^ 23) * p2N (fPow 149 (a / 2 ^ 23)) * 10 ^ (p2E (fPow 149 (a / 2 ^ 23)) + 1100).toNat = _
    rw [Nat.mul_assoc]
    show fNum 23 (a / 2 ^ 23) (a % 2 ^ 23) * Tn (fPow 149 (a / 2 ^ 23)) = _
    rw [fPow_natN, Tn_powN, Nat.pow_add]
    unfold fAmtN T0N
    rw [show (2 : Nat) ^ 2 = 4 by decide]
    generalize fNum 23 (a / 2 ^ 23) (a % 2 ^ 23) = A
    generalize 2 ^ (a / 2 ^ 23 - 1) = B
    simp only [Nat.mul_comm, Nat.mul_assoc]

/-- The fewest digits lie from midway below to midway above, and at an end only of an even float. -/
theorem val_ofN {a : Nat} (h : a < 2139095040) :
    (2 * valD (of32D a) ≤ (4 * fAmtN a + 4 * fAmtN (a + 1)) * T0N ∧ (2 * valD (of32D a) = (4 * fAmtN a + 4 * fAmtN (a + 1)) * T0N → a % 2 = 0)) ∧
    (a ≠ 0 → (4 * fAmtN (a - 1) + 4 * fAmtN a) * T0N ≤ 2 * valD (of32D a) ∧ ((4 * fAmtN (a - 1) + 4 * fAmtN a) * T0N = 2 * valD (of32D a) → a % 2 = 0)) := by
  obtain ⟨T, hTe⟩ : ∃ T, T = T0N := ⟨_, rfl⟩
  have hT : 0 < T := by rw [hTe]; exact T0_posN
  rw [← hTe]
  by_cases h0 : a = 0
  · subst h0
    have hz : valD (of32D 0) = 0 := valD_nil (by rw [show of32D 0 = _ from zero_decN _])
    rw [hz]
    exact ⟨⟨by omega, fun _ => rfl⟩, fun e => absurd rfl e⟩
  · have e1 : (2 : Nat) ^ 23 = 8388608 := by decide
    have hb := fPow_boundsN h
    obtain ⟨x, hx⟩ : ∃ x, x = a / 2 ^ 23 := ⟨_, rfl⟩
    obtain ⟨m, hm⟩ : ∃ m, m = a % 2 ^ 23 := ⟨_, rfl⟩
    have hm2 : m < 2 ^ 23 := by rw [hm]; exact Nat.mod_lt _ (by omega)
    have hnum := fNum_posN h0
    have hs := fAmt_succN a
    have hs' := fAmt_succN (a - 1)
    rw [show a - 1 + 1 = a by omega] at hs'
    have hdec := pos_decN h h0 (fewD 23 149)
    have hAm : fAmtN a = fNum 23 x m * 2 ^ (x - 1) := by rw [hx, hm]; rfl
    rw [← hx] at hb hs hdec hnum
    rw [← hm] at hdec hnum
    have g := nearOf_good (F := 23) (B := 149) (x := x) (m := m) (by omega) hm2
    have ha0 : (nearOf 23 149 x m).amt ≠ 0 := by
      have := p2N_pos (fPow 149 x - 2)
      exact Nat.mul_ne_zero (by omega) (by omega)
    rcases hf : fewN (nearOf 23 149 x m) (sizeN (nearOf 23 149 x m).amt) with ⟨v, p⟩
    obtain ⟨b1, b2, b3, b4, b5, _, _⟩ := few_bound g ha0 hf
    have near := pick_near b4
    have hclo : ∀ {d far : Nat}, heldN (nearOf 23 149 x m).clo d far = true → d = far → m % 2 = 0 := by
      intro d far hh e
      subst e
      unfold heldN at hh
      simp at hh
      simpa [nearOf] using hh
    -- at an end only if the ends belong to it
    have tie : (v * 10 ^ p ≤ (nearOf 23 149 x m).amt ∧ (nearOf 23 149 x m).amt - v * 10 ^ p = (nearOf 23 149 x m).lo → m % 2 = 0) ∧ ((nearOf 23 149 x m).amt ≤ v * 10 ^ p ∧ v * 10 ^ p - (nearOf 23 149 x m).amt = (nearOf 23 149 x m).hi → m % 2 = 0) := by
      have hp : 0 < 10 ^ p := Nat.pow_pos (by omega)
      have hdm := Nat.div_add_mod (nearOf 23 149 x m).amt (10 ^ p)
      have hlt := Nat.mod_lt (nearOf 23 149 x m).amt hp
      have hlo := g.pos
      have hhi := g.le
      unfold pickAt pickN at b4
      split at b4
      · next hc =>
        obtain rfl : (nearOf 23 149 x m).amt / 10 ^ p = v := by simpa using b4
        rw [Nat.mul_comm ((nearOf 23 149 x m).amt / 10 ^ p)]
        refine ⟨fun e => hclo hc.1 (by omega), fun e => ?_⟩
        exfalso; omega
      · split at b4
        · next hc =>
          obtain rfl : (nearOf 23 149 x m).amt / 10 ^ p + 1 = v := by simpa using b4
          rw [Nat.add_mul, Nat.one_mul, Nat.mul_comm ((nearOf 23 149 x m).amt / 10 ^ p)]
          refine ⟨fun e => ?_, fun e => hclo hc (by omega)⟩
          exfalso; omega
        · cases b4
    have par : m % 2 = a % 2 := by rw [hm, e1]; omega
    have e : fewD 23 149 x m = (v, p2E (fPow 149 x - 2) + (p : Nat)) := by unfold fewD; rw [hf]
    have hE : -1100 ≤ p2E (fPow 149 x - 2) := by unfold p2E; split <;> omega
    obtain ⟨t, ht⟩ : ∃ t, t = 10 ^ (p2E (fPow 149 x - 2) + 1100).toNat := ⟨_, rfl⟩
    have ht0 : 0 < t := by rw [ht]; exact Nat.pow_pos (by omega)
    have hval : valD (of32D a) = v * 10 ^ p * t := by
      rw [show of32D a = _ from hdec, e, val_decA false (by omega) (by omega), ht, Nat.mul_assoc, ← Nat.pow_add]
      congr 2
      omega
    -- the quarter, in these units
    have hq : p2N (fPow 149 x - 2) * t = 2 ^ (x - 1) * T := by
      have h1 : Tn (fPow 149 x - 2) = 2 ^ (x - 1) * Tn (-151) := by rw [← Tn_powN]; congr 1; have := fPow_natN x; omega
      rw [ht, hTe]; exact h1
    obtain ⟨Q, hQ⟩ : ∃ Q, Q = 2 ^ (x - 1) := ⟨_, rfl⟩
    rw [← hQ] at hs hAm hq
    have A1 : (nearOf 23 149 x m).amt * t = 4 * fAmtN a * T := by
      show p2N (fPow 149 x - 2) * (fNum 23 x m * 4) * t = _
      rw [Nat.mul_right_comm, hq, hAm]
      simp only [Nat.mul_comm, Nat.mul_left_comm, Nat.mul_assoc]
    have H1 : (nearOf 23 149 x m).hi * t = 2 * Q * T := by
      show p2N (fPow 149 x - 2) * 2 * t = _
      rw [Nat.mul_right_comm, hq]
      simp only [Nat.mul_comm, Nat.mul_assoc]
    -- the step down
    have L1 : 2 * ((nearOf 23 149 x m).lo * t) = 4 * 2 ^ ((a - 1) / 2 ^ 23 - 1) * T := by
      show 2 * ((if m = 0 ∧ 1 < x then p2N (fPow 149 x - 2) else p2N (fPow 149 x - 2) * 2) * t) = _
      by_cases hc : m = 0 ∧ 1 < x
      · rw [if_pos hc, hq, hQ]
        have h1 : (a - 1) / 2 ^ 23 = x - 1 := by rw [e1] at *; omega
        rw [h1]
        obtain ⟨i, hi⟩ : ∃ i, x = i + 2 := ⟨x - 2, by omega⟩
        rw [hi, show i + 2 - 1 = i + 1 by omega, show i + 1 - 1 = i by omega, Nat.pow_succ]
        generalize 2 ^ i = R
        have i1 : R * 2 * T = 2 * (R * T) := by rw [Nat.mul_comm R 2, Nat.mul_assoc]
        have i2 : 4 * R * T = 4 * (R * T) := Nat.mul_assoc _ _ _
        omega
      · rw [if_neg hc, Nat.mul_right_comm, hq, hQ]
        have h1 : (a - 1) / 2 ^ 23 - 1 = x - 1 := by rw [e1] at *; omega
        rw [h1, Nat.mul_assoc 4]
        generalize 2 ^ (x - 1) * T = R
        omega
    obtain ⟨q', hq'⟩ : ∃ q', q' = 2 ^ ((a - 1) / 2 ^ 23 - 1) := ⟨_, rfl⟩
    rw [← hq'] at hs' L1
    obtain ⟨V, hV⟩ : ∃ V, V = v * 10 ^ p := ⟨_, rfl⟩
    rw [← hV] at near tie hval
    obtain ⟨n, hn⟩ : ∃ n, n = nearOf 23 149 x m := ⟨_, rfl⟩
    rw [← hn] at near tie A1 H1 L1
    -- multiplied out
    have s1 : (4 * fAmtN a + 4 * fAmtN (a + 1)) * T = 2 * (n.amt * t) + 2 * (n.hi * t) := by
      rw [hs, A1, H1, Nat.mul_add 4, Nat.add_mul, Nat.add_mul]
      generalize fAmtN a = X
      have i1 : 2 * Q * T = 2 * (Q * T) := Nat.mul_assoc _ _ _
      have i2 : 4 * Q * T = 4 * (Q * T) := Nat.mul_assoc _ _ _
      omega
    have s2 : (4 * fAmtN (a - 1) + 4 * fAmtN a) * T + 2 * (n.lo * t) = 2 * (n.amt * t) := by
      rw [L1, A1, hs', Nat.mul_add 4, Nat.add_mul, Nat.add_mul]
      generalize fAmtN (a - 1) = X
      omega
    rw [hval, s1]
    have cmpT : ∀ y z : Nat, y ≤ z ↔ y * t ≤ z * t := fun y z => ⟨fun hh => Nat.mul_le_mul_right _ hh, fun hh => Nat.le_of_mul_le_mul_right hh ht0⟩
    have eqT : ∀ y z : Nat, y * t = z * t → y = z := fun y z hh => Nat.eq_of_mul_eq_mul_right ht0 hh
    have up : V ≤ n.amt + n.hi ∧ (V = n.amt + n.hi → m % 2 = 0) := by
      refine ⟨by omega, fun hh => ?_⟩
      exact tie.2 ⟨by omega, by omega⟩
    have dn : n.amt ≤ V + n.lo ∧ (n.amt = V + n.lo → m % 2 = 0) := by
      refine ⟨by omega, fun hh => ?_⟩
      exact tie.1 ⟨by omega, by omega⟩
    have u1 := (cmpT _ _).1 up.1
    have u2 := (cmpT _ _).1 dn.1
    rw [Nat.add_mul] at u1 u2
    refine ⟨⟨by omega, fun hh => ?_⟩, fun _ => ⟨by omega, fun hh => ?_⟩⟩
    · rw [← par]
      apply up.2
      apply eqT
      rw [Nat.add_mul]; omega
    · rw [← par]
      apply dn.2
      apply eqT
      rw [Nat.add_mul]; omega

/-- The fewest digits stand as their floats do. -/
theorem of_ltN {a b : Nat} (h : a < b) (hb : b < 2139095040) : valD (of32D a) < valD (of32D b) := by
  have hT := T0_posN
  obtain ⟨⟨u1, u2⟩, _⟩ := val_ofN (a := a) (by omega)
  obtain ⟨_, l⟩ := val_ofN hb
  obtain ⟨l1, l2⟩ := l (by omega)
  have m1 := fAmt_monoN (show a + 1 ≤ b from h)
  have m2 := fAmt_monoN (show a ≤ b - 1 by omega)
  have k1 : (4 * fAmtN a + 4 * fAmtN (a + 1)) * T0N ≤ (4 * fAmtN (b - 1) + 4 * fAmtN b) * T0N := Nat.mul_le_mul_right _ (by omega)
  rcases Nat.lt_or_ge (valD (of32D a)) (valD (of32D b)) with hh | hh
  · exact hh
  · exfalso
    have q1 := u2 (by omega)
    have q2 := l2 (by omega)
    have k2 : (4 * fAmtN a + 4 * fAmtN (a + 1)) * T0N = (4 * fAmtN (b - 1) + 4 * fAmtN b) * T0N := by omega
    have k3 := Nat.eq_of_mul_eq_mul_right hT k2
    have k4 : a + 1 = b := by
      rcases Nat.lt_or_ge (a + 1) b with h3 | h3
      · have := fAmt_ltN h3; omega
      · omega
    omega

theorem ex_ltN {a b : Nat} (h : a < b) (hb : b < 2139095040) : valD (ex32D a) < valD (ex32D b) := by
  have hT := T0_posN
  rw [val_exN (by omega), val_exN hb]
  have := fAmt_ltN h
  exact Nat.mul_lt_mul_of_pos_right (by omega) hT

end Go.Proofs.YtpiloigpncbccacGreatDoor

namespace Go.Proofs.YtpiloigpncbccacGreatDoor

/-- A float's amount, in steps of the least one. -/
def fA (F a : Nat) : Nat := fNum F (a / 2 ^ F) (a % 2 ^ F) * 2 ^ (a / 2 ^ F - 1)

theorem fA_at {F x m : Nat} (hm : m < 2 ^ F) : fA F (x * 2 ^ F + m) = fNum F x m * 2 ^ (x - 1) := by
  have hK : 0 < 2 ^ F := Nat.pow_pos (by omega)
  have h1 : (x * 2 ^ F + m) / 2 ^ F = x := by
    rw [Nat.mul_comm, Nat.mul_add_div hK, Nat.div_eq_of_lt hm, Nat.add_zero]
  have h2 : (x * 2 ^ F + m) % 2 ^ F = m := by
    rw [Nat.mul_comm, Nat.mul_add_mod, Nat.mod_eq_of_lt hm]
  unfold fA; rw [h1, h2]

theorem split_at (F a : Nat) : ∃ x m, m < 2 ^ F ∧ a = x * 2 ^ F + m ∧ a / 2 ^ F = x :=
  ⟨a / 2 ^ F, a % 2 ^ F, Nat.mod_lt _ (Nat.pow_pos (by omega)), by have := Nat.div_add_mod a (2 ^ F); rw [Nat.mul_comm] at this; exact this.symm, rfl⟩

theorem fA_succ (F a : Nat) : fA F (a + 1) = fA F a + 2 ^ (a / 2 ^ F - 1) := by
  obtain ⟨x, m, hm, ha, hx⟩ := split_at F a
  rw [hx, ha, fA_at hm]
  by_cases h : m + 1 < 2 ^ F
  · rw [Nat.add_assoc, fA_at h]
    unfold fNum
    split
    · rw [Nat.add_mul, Nat.one_mul]
    · rw [← Nat.add_assoc, Nat.add_mul _ 1, Nat.one_mul]
  · have e : x * 2 ^ F + m + 1 = (x + 1) * 2 ^ F + 0 := by rw [Nat.add_mul, Nat.one_mul]; omega
    rw [e, fA_at (by omega)]
    unfold fNum
    rw [if_neg (by omega), Nat.add_zero, Nat.add_sub_cancel]
    by_cases h0 : x = 0
    · subst h0
      rw [if_pos rfl]; simp; omega
    · rw [if_neg h0]
      obtain ⟨i, rfl⟩ : ∃ i, x = i + 1 := ⟨x - 1, by omega⟩
      rw [Nat.add_sub_cancel, Nat.pow_succ, show 2 ^ F + m = 2 * 2 ^ F - 1 by omega, Nat.sub_mul, Nat.one_mul]
      have : 0 < 2 ^ F * 2 ^ i := Nat.mul_pos (Nat.pow_pos (by omega)) (Nat.pow_pos (by omega))
      have h2 : 2 ^ i ≤ 2 * 2 ^ F * 2 ^ i := Nat.le_mul_of_pos_left _ (by omega)
      rw [Nat.sub_add_cancel h2, ← Nat.mul_assoc, Nat.mul_comm (2 ^ F * 2 ^ i) 2, Nat.mul_assoc]

theorem fA_mono {F a b : Nat} (h : a ≤ b) : fA F a ≤ fA F b := by
  induction b with
  | zero => rw [show a = 0 by omega]; exact Nat.le_refl _
  | succ b ih =>
    by_cases e : a = b + 1
    · rw [e]; exact Nat.le_refl _
    · have := ih (by omega)
      rw [fA_succ]; exact Nat.le_trans this (Nat.le_add_right _ _)

theorem fA_lt {F a b : Nat} (h : a < b) : fA F a < fA F b := by
  have h1 := fA_mono (F := F) (show a + 1 ≤ b from h)
  have h2 := fA_succ F a
  have h3 : 0 < 2 ^ (a / 2 ^ F - 1) := Nat.pow_pos (by omega)
  omega

/-- The amount p/q, in steps of the least float, is nearest to the float b, of those up to I; midway it is the even one's. -/
structure Lies (F I b p q : Nat) : Prop where
  le : b ≤ I
  lo : b ≠ 0 → (fA F (b - 1) + fA F b) * q ≤ 2 * p ∧ ((fA F (b - 1) + fA F b) * q = 2 * p → b % 2 = 0)
  hi : b ≠ I → 2 * p ≤ (fA F b + fA F (b + 1)) * q ∧ (2 * p = (fA F b + fA F (b + 1)) * q → b % 2 = 0)

theorem Lies.mono {F I b p q b' p' q' : Nat} (h : Lies F I b p q) (h' : Lies F I b' p' q') (hq : 0 < q) (hq' : 0 < q') (hpq : p * q' ≤ p' * q) : b ≤ b' := by
  rcases Nat.lt_or_ge b' b with hlt | hge
  · exfalso
    obtain ⟨l1, l2⟩ := h.lo (by omega)
    have := h.le
    obtain ⟨u1, u2⟩ := h'.hi (by omega)
    have m1 := fA_mono (F := F) (show b' ≤ b - 1 by omega)
    have m2 := fA_mono (F := F) (show b' + 1 ≤ b by omega)
    have a1 := Nat.mul_le_mul_right q' l1
    have a2 := Nat.mul_le_mul_right q u1
    have a3 : (fA F b' + fA F (b' + 1)) * (q * q') ≤ (fA F (b - 1) + fA F b) * (q * q') := Nat.mul_le_mul_right _ (by omega)
    have e1 : (fA F (b - 1) + fA F b) * q * q' = (fA F (b - 1) + fA F b) * (q * q') := Nat.mul_assoc _ _ _
    have e2 : (fA F b' + fA F (b' + 1)) * q' * q = (fA F b' + fA F (b' + 1)) * (q * q') := by rw [Nat.mul_assoc, Nat.mul_comm q' q]
    have e3 : 2 * p * q' = 2 * (p * q') := Nat.mul_assoc _ _ _
    have e4 : 2 * p' * q = 2 * (p' * q) := Nat.mul_assoc _ _ _
    have hqq : 0 < q * q' := Nat.mul_pos hq hq'
    have s := Nat.eq_of_mul_eq_mul_right hqq (show (fA F b' + fA F (b' + 1)) * (q * q') = (fA F (b - 1) + fA F b) * (q * q') by omega)
    have hb : b = b' + 1 := by
      rcases Nat.lt_or_ge (b' + 1) b with h3 | h3
      · have := fA_lt (F := F) h3; omega
      · omega
    have p1 := l2 (Nat.eq_of_mul_eq_mul_right hq' (by omega))
    have p2 := u2 (Nat.eq_of_mul_eq_mul_right hq (by omega))
    omega
  · exact hge

theorem Lies.uniq {F I b p q b' p' q' : Nat} (h : Lies F I b p q) (h' : Lies F I b' p' q') (hq : 0 < q) (hq' : 0 < q') (hpq : p * q' = p' * q) : b = b' :=
  Nat.le_antisymm (h.mono h' hq hq' (by omega)) (h'.mono h hq' hq (by omega))

/-- To the nearest whole number, of two as near the even one. -/
def rne (p q : Nat) : Nat := if q < 2 * (p % q) ∨ (2 * (p % q) = q ∧ p / q % 2 = 1) then p / q + 1 else p / q

theorem rne_spec {p q : Nat} (hq : 0 < q) : 2 * (rne p q * q) ≤ 2 * p + q ∧ (2 * (rne p q * q) = 2 * p + q → rne p q % 2 = 0) ∧ 2 * p ≤ 2 * (rne p q * q) + q ∧ (2 * p = 2 * (rne p q * q) + q → rne p q % 2 = 0) := by
  have h1 := Nat.div_add_mod p q
  have h2 := Nat.mod_lt p hq
  unfold rne
  split
  · next h =>
    rw [Nat.add_mul, Nat.one_mul, Nat.mul_comm (p / q) q]
    generalize q * (p / q) = z at *
    refine ⟨by omega, fun e => by omega, by omega, fun e => by omega⟩
  · next h =>
    rw [Nat.mul_comm (p / q) q]
    generalize q * (p / q) = z at *
    refine ⟨by omega, fun e => by omega, by omega, fun e => by omega⟩

theorem rne_scale {p q k : Nat} (hk : 0 < k) : rne (p * k) (q * k) = rne p q := by
  unfold rne
  rw [Nat.mul_div_mul_right _ _ hk, Nat.mul_mod_mul_right, ← Nat.mul_assoc]
  have h1 : (q * k < 2 * (p % q) * k) ↔ (q < 2 * (p % q)) := Nat.mul_lt_mul_right hk
  have h2 : (2 * (p % q) * k = q * k) ↔ (2 * (p % q) = q) := ⟨fun h => Nat.eq_of_mul_eq_mul_right hk h, fun h => by rw [h]⟩
  simp only [h1, h2]

/-- Only the ratio counts. -/
theorem rne_ratio {p q p' q' : Nat} (hq : 0 < q) (hq' : 0 < q') (h : p * q' = p' * q) : rne p q = rne p' q' := by
  rw [← rne_scale hq', h, Nat.mul_comm q q', rne_scale hq]

theorem rne_le {p q N : Nat} (hq : 0 < q) (h : p ≤ N * q) : rne p q ≤ N := by
  have s := (rne_spec (p := p) hq)
  rcases Nat.lt_or_ge N (rne p q) with hlt | hge
  · exfalso
    have a1 := Nat.mul_le_mul_right q (show N + 1 ≤ rne p q from hlt)
    rw [Nat.add_mul, Nat.one_mul] at a1
    omega
  · exact hge

theorem rne_ge {p q N : Nat} (hq : 0 < q) (h : 2 * (N * q) < 2 * p + q) : N ≤ rne p q := by
  have s := (rne_spec (p := p) hq)
  rcases Nat.lt_or_ge (rne p q) N with hlt | hge
  · exfalso
    have a1 := Nat.mul_le_mul_right q (show rne p q + 1 ≤ N from hlt)
    rw [Nat.add_mul, Nat.one_mul] at a1
    omega
  · exact hge

theorem fA_join {F s N : Nat} (h : N ≤ 2 * 2 ^ F) (hs : s ≠ 0 → 2 ^ F ≤ N) : fA F (s * 2 ^ F + N) = N * 2 ^ s := by
  have hK : 0 < 2 ^ F := Nat.pow_pos (by omega)
  by_cases h1 : N < 2 ^ F
  · have : s = 0 := by
      rcases Nat.eq_zero_or_pos s with e | e
      · exact e
      · have := hs (by omega); omega
    subst this
    rw [fA_at h1]; unfold fNum; rw [if_pos rfl]
  · by_cases h2 : N < 2 * 2 ^ F
    · rw [show s * 2 ^ F + N = (s + 1) * 2 ^ F + (N - 2 ^ F) by rw [Nat.add_mul, Nat.one_mul]; omega, fA_at (by omega)]
      unfold fNum
      rw [if_neg (by omega), Nat.add_sub_cancel, show 2 ^ F + (N - 2 ^ F) = N by omega]
    · obtain rfl : N = 2 * 2 ^ F := by omega
      rw [show s * 2 ^ F + 2 * 2 ^ F = (s + 2) * 2 ^ F + 0 by rw [Nat.add_mul]; rfl, fA_at hK]
      unfold fNum
      rw [if_neg (by omega), show s + 2 - 1 = s + 1 by omega, Nat.pow_succ, Nat.add_zero, Nat.mul_comm 2, Nat.mul_assoc, Nat.mul_comm 2]

theorem even_join {F s N : Nat} (hF : 1 ≤ F) : (s * 2 ^ F + N) % 2 = N % 2 := by
  obtain ⟨i, rfl⟩ : ∃ i, F = i + 1 := ⟨F - 1, by omega⟩
  rw [Nat.pow_succ, ← Nat.mul_assoc]; omega

/-- What is rounded in steps of 2^s, and joined, is the nearest float. -/
theorem lies_join {F I s N p q : Nat} (hF : 1 ≤ F) (hI : I % 2 = 0) (_hq : 0 < q) (h : N ≤ 2 * 2 ^ F) (hs : s ≠ 0 → 2 ^ F ≤ N)
    (r1 : 2 * (N * (q * 2 ^ s)) ≤ 2 * p + q * 2 ^ s) (r2 : 2 * (N * (q * 2 ^ s)) = 2 * p + q * 2 ^ s → N % 2 = 0) (r3 : 2 * p ≤ 2 * (N * (q * 2 ^ s)) + q * 2 ^ s) (r4 : 2 * p = 2 * (N * (q * 2 ^ s)) + q * 2 ^ s → N % 2 = 0)
    (low : s ≠ 0 → N = 2 ^ F → 4 * (N * (q * 2 ^ s)) ≤ 4 * p + q * 2 ^ s) : Lies F I (min (s * 2 ^ F + N) I) p q := by
  have hK : 0 < 2 ^ F := Nat.pow_pos (by omega)
  have hpar := even_join (F := F) (s := s) (N := N) hF
  have hA := fA_join h hs
  have hup := fA_succ F (s * 2 ^ F + N)
  obtain ⟨b, hb⟩ : ∃ b, b = s * 2 ^ F + N := ⟨_, rfl⟩
  have hS : 0 < 2 ^ s := Nat.pow_pos (by omega)
  have eA : fA F b * q = N * (q * 2 ^ s) := by rw [hb, hA, Nat.mul_assoc, Nat.mul_comm (2 ^ s)]
  -- the step up
  have stepUp : 2 ^ s ≤ 2 ^ (b / 2 ^ F - 1) ∧ (N < 2 * 2 ^ F → 2 ^ (b / 2 ^ F - 1) = 2 ^ s) := by
    have hd : b / 2 ^ F = s + N / 2 ^ F := by rw [hb, Nat.mul_comm, Nat.mul_add_div hK]
    by_cases h1 : N < 2 ^ F
    · have h0 : s = 0 := by
        rcases Nat.eq_zero_or_pos s with e | e
        · exact e
        · have := hs (by omega); omega
      rw [hd, Nat.div_eq_of_lt h1, h0]; simp
    · by_cases h2 : N < 2 * 2 ^ F
      · have : N / 2 ^ F = 1 := Nat.div_eq_of_lt_le (by omega) (by omega)
        rw [hd, this]; exact ⟨Nat.le_refl _, fun _ => rfl⟩
      · have : N / 2 ^ F = 2 := Nat.div_eq_of_lt_le (by omega) (by omega)
        rw [hd, this]
        exact ⟨Nat.pow_le_pow_right (by omega) (by omega), fun e => absurd e h2⟩
  rw [← hb] at hup hpar ⊢
  have upper : 2 * p ≤ (fA F b + fA F (b + 1)) * q ∧ (2 * p = (fA F b + fA F (b + 1)) * q → b % 2 = 0) := by
    rw [hup, Nat.add_mul, Nat.add_mul, eA]
    have k1 : q * 2 ^ s ≤ 2 ^ (b / 2 ^ F - 1) * q := by rw [Nat.mul_comm q]; exact Nat.mul_le_mul_right _ stepUp.1
    generalize N * (q * 2 ^ s) = z at *
    exact ⟨by omega, fun e => by rw [hpar]; exact r4 (by omega)⟩
  have lower : b ≠ 0 → (fA F (b - 1) + fA F b) * q ≤ 2 * p ∧ ((fA F (b - 1) + fA F b) * q = 2 * p → b % 2 = 0) := by
    intro hb0
    have hdn := fA_succ F (b - 1)
    rw [show b - 1 + 1 = b by omega] at hdn
    by_cases hc : s ≠ 0 ∧ N = 2 ^ F
    · -- a power of 2: the next lesser one is nearer
      obtain ⟨hs0, rfl⟩ := hc
      obtain ⟨i, rfl⟩ : ∃ i, s = i + 1 := ⟨s - 1, by omega⟩
      have hd : (b - 1) / 2 ^ F = i + 1 := by
        rw [hb, show (i + 1) * 2 ^ F + 2 ^ F - 1 = 2 ^ F * (i + 1) + (2 ^ F - 1) by rw [Nat.mul_comm]; omega, Nat.mul_add_div hK, Nat.div_eq_of_lt (by omega), Nat.add_zero]
      rw [hd, Nat.add_sub_cancel] at hdn
      have l := low hs0 rfl
      have e1 : q * 2 ^ (i + 1) = 2 * (2 ^ i * q) := by rw [Nat.pow_succ, Nat.mul_comm q, Nat.mul_comm (2 ^ i) 2, Nat.mul_assoc]
      have e2 : fA F b * q = fA F (b - 1) * q + 2 ^ i * q := by rw [hdn, Nat.add_mul]
      rw [Nat.add_mul]
      have hev : b % 2 = 0 := by
        rw [hpar]
        obtain ⟨j, rfl⟩ : ∃ j, F = j + 1 := ⟨F - 1, by omega⟩
        rw [Nat.pow_succ]; omega
      refine ⟨by omega, fun _ => hev⟩
    · have hd : (b - 1) / 2 ^ F - 1 = s := by
        by_cases h1 : N ≤ 2 ^ F
        · have h0 : s = 0 := by
            rcases Nat.eq_zero_or_pos s with e | e
            · exact e
            · have := hs (by omega)
              exact absurd ⟨by omega, by omega⟩ hc
          subst h0
          rw [hb, Nat.zero_mul, Nat.zero_add, Nat.div_eq_of_lt (by omega)]
        · have : (b - 1) / 2 ^ F = s + 1 := by
            rw [hb, show s * 2 ^ F + N - 1 = 2 ^ F * (s + 1) + (N - 1 - 2 ^ F) by rw [Nat.mul_add, Nat.mul_one, Nat.mul_comm s]; omega, Nat.mul_add_div hK, Nat.div_eq_of_lt (by omega), Nat.add_zero]
          rw [this]; rfl
      rw [hd] at hdn
      have e2 : fA F b * q = fA F (b - 1) * q + q * 2 ^ s := by rw [hdn, Nat.add_mul, Nat.mul_comm q]
      rw [Nat.add_mul]
      generalize N * (q * 2 ^ s) = z at *
      exact ⟨by omega, fun e => by rw [hpar]; exact r2 (by omega)⟩
  rcases Nat.lt_or_ge b I with hI1 | hI1
  · rw [Nat.min_eq_left (by omega)]
    exact ⟨by omega, lower, fun _ => upper⟩
  · rw [Nat.min_eq_right hI1]
    refine ⟨Nat.le_refl _, fun hI0 => ?_, fun e => absurd rfl e⟩
    have m1 := fA_mono (F := F) (show I - 1 ≤ b - 1 by omega)
    have m2 := fA_mono (F := F) hI1
    exact ⟨Nat.le_trans (Nat.mul_le_mul_right _ (by omega)) (lower (by omega)).1, fun _ => hI⟩

end Go.Proofs.YtpiloigpncbccacGreatDoor

namespace Go.Proofs.YtpiloigpncbccacGreatDoor

/-- over/under is below 2^e. -/
def LtP (o u : Nat) (e : Int) : Prop := o * 2 ^ (-e).toNat < u * 2 ^ e.toNat

theorem LtP.iff {o u : Nat} {e : Int} {C : Nat} (h : 0 ≤ e + C) : LtP o u e ↔ o * 2 ^ C < u * 2 ^ (e + C).toNat := by
  unfold LtP
  by_cases he : 0 ≤ e
  · obtain ⟨k, rfl⟩ : ∃ k : Nat, e = k := ⟨e.toNat, by omega⟩
    rw [show (-(k : Int)).toNat = 0 by omega, show ((k : Int)).toNat = k by omega, show ((k : Int) + C).toNat = k + C by omega, Nat.pow_zero, Nat.mul_one, Nat.pow_add, ← Nat.mul_assoc]
    exact (Nat.mul_lt_mul_right (Nat.pow_pos (by omega))).symm
  · obtain ⟨k, rfl⟩ : ∃ k : Nat, e = -(k : Int) := ⟨(-e).toNat, by omega⟩
    obtain ⟨j, rfl⟩ : ∃ j, C = k + j := ⟨C - k, by omega⟩
    rw [show (- -(k : Int)).toNat = k by omega, show (-(k : Int)).toNat = 0 by omega, show (-(k : Int) + (k + j : Nat)).toNat = j by omega, Nat.pow_zero, Nat.mul_one, Nat.pow_add, ← Nat.mul_assoc]
    constructor
    · intro hh; exact (Nat.mul_lt_mul_right (Nat.pow_pos (by omega))).2 hh
    · intro hh; exact (Nat.mul_lt_mul_right (Nat.pow_pos (by omega))).1 hh

theorem LtP.up {o u : Nat} {e e' : Int} (h : LtP o u e) (he : e ≤ e') : LtP o u e' := by
  rw [LtP.iff (C := e.natAbs) (by omega)] at h ⊢
  exact Nat.lt_of_lt_of_le h (Nat.mul_le_mul_left _ (Nat.pow_le_pow_right (by omega) (by omega)))

/-- The power of 2 of the highest bit of over/under, as package nearest finds it. -/
def highN (o u : Nat) : Int := if o * 2 ^ (-((bitsN o : Int) - bitsN u)).toNat < u * 2 ^ ((bitsN o : Int) - bitsN u).toNat then (bitsN o : Int) - bitsN u - 1 else (bitsN o : Int) - bitsN u

theorem bits_ltP {o u : Nat} (ho : o ≠ 0) (hu : u ≠ 0) : LtP o u ((bitsN o : Int) - bitsN u + 1) ∧ ¬ LtP o u ((bitsN o : Int) - bitsN u - 1) := by
  obtain ⟨a, ea, a1, a2⟩ := bitsN_spec ho
  obtain ⟨c, ec, c1, c2⟩ := bitsN_spec hu
  rw [ea, ec]
  constructor
  · rw [LtP.iff (C := c) (by omega), show (((a + 1 : Nat) : Int) - ((c + 1 : Nat) : Int) + 1 + c).toNat = a + 1 by omega]
    calc o * 2 ^ c < 2 ^ (a + 1) * 2 ^ c := (Nat.mul_lt_mul_right (Nat.pow_pos (by omega))).2 a2
      _ ≤ u * 2 ^ (a + 1) := by rw [Nat.mul_comm]; exact Nat.mul_le_mul_right _ c1
  · rw [LtP.iff (C := c + 1) (by omega), show (((a + 1 : Nat) : Int) - ((c + 1 : Nat) : Int) - 1 + (c + 1 : Nat)).toNat = a by omega]
    have h1 : u * 2 ^ a < 2 ^ (c + 1) * 2 ^ a := (Nat.mul_lt_mul_right (Nat.pow_pos (by omega))).2 c2
    have h2 : 2 ^ (c + 1) * 2 ^ a ≤ o * 2 ^ (c + 1) := by rw [Nat.mul_comm]; exact Nat.mul_le_mul_right _ a1
    omega

theorem highN_spec {o u : Nat} (ho : o ≠ 0) (hu : u ≠ 0) : LtP o u (highN o u + 1) ∧ ¬ LtP o u (highN o u) := by
  obtain ⟨h1, h2⟩ := bits_ltP ho hu
  unfold highN
  split
  · next h => exact ⟨by rw [Int.sub_add_cancel]; exact h, h2⟩
  · next h => exact ⟨h1, h⟩

/-- The bits that package nearest answers. -/
def powN (F B o u : Nat) : Int := max (highN o u - F) (-(B : Int))
def numN (F B o u : Nat) : Nat := rne (o * 2 ^ (-(powN F B o u)).toNat) (u * 2 ^ (powN F B o u).toNat)
def bitsOf (F B I o u : Nat) : Nat := min ((powN F B o u + B).toNat * 2 ^ F + numN F B o u) I

theorem ratio_at {o u B : Nat} {pw : Int} (h : -(B : Int) ≤ pw) : o * 2 ^ (-pw).toNat * (u * 2 ^ (pw + B).toNat) = o * 2 ^ B * (u * 2 ^ pw.toNat) := by
  have e : 2 ^ (-pw).toNat * 2 ^ (pw + B).toNat = 2 ^ B * 2 ^ pw.toNat := by
    rw [← Nat.pow_add, ← Nat.pow_add]; congr 1; omega
  have : ∀ x y z t : Nat, x * y * (z * t) = x * z * (y * t) := fun x y z t => by
    rw [Nat.mul_assoc, Nat.mul_assoc, Nat.mul_left_comm y]
  rw [this, e, this]

theorem numN_eq {F B o u : Nat} (hu : u ≠ 0) : numN F B o u = rne (o * 2 ^ B) (u * 2 ^ (powN F B o u + B).toNat) :=
  rne_ratio (Nat.mul_pos (by omega) (Nat.pow_pos (by omega))) (Nat.mul_pos (by omega) (Nat.pow_pos (by omega))) (ratio_at (by unfold powN; omega))

/-- Where the number to be rounded lies. -/
theorem numN_bounds {F B o u : Nat} (ho : o ≠ 0) (hu : u ≠ 0) : o * 2 ^ B < u * 2 ^ (powN F B o u + B).toNat * (2 * 2 ^ F) ∧ ((powN F B o u + B).toNat ≠ 0 → u * 2 ^ (powN F B o u + B).toNat * 2 ^ F ≤ o * 2 ^ B) := by
  obtain ⟨h1, h2⟩ := highN_spec ho hu
  have hp : powN F B o u = highN o u - F ∨ (powN F B o u = -(B : Int) ∧ highN o u - F ≤ -(B : Int)) := by unfold powN; omega
  have hb : -(B : Int) ≤ powN F B o u := by unfold powN; omega
  rcases hp with hp | ⟨hp, hh⟩
  · have hC : 0 ≤ highN o u + 1 + B := by omega
    rw [LtP.iff (C := B) hC] at h1
    rw [LtP.iff (C := B) (by omega)] at h2
    have e1 : (highN o u + 1 + B).toNat = (powN F B o u + B).toNat + (1 + F) := by omega
    have e2 : (highN o u + B).toNat = (powN F B o u + B).toNat + F := by omega
    rw [e1, Nat.pow_add, Nat.pow_add 2 1, Nat.pow_one, ← Nat.mul_assoc] at h1
    rw [e2, Nat.pow_add, ← Nat.mul_assoc] at h2
    exact ⟨h1, fun _ => by omega⟩
  · have e : (powN F B o u + B).toNat = 0 := by omega
    rw [e]
    have h3 := h1.up (e' := (F : Int) + 1 - B) (by omega)
    rw [LtP.iff (C := B) (by omega), show ((F : Int) + 1 - B + B).toNat = 1 + F by omega, Nat.pow_add, Nat.pow_one] at h3
    exact ⟨by rw [Nat.pow_zero, Nat.mul_one]; exact h3, fun h => absurd rfl h⟩

theorem numN_le {F B o u : Nat} (ho : o ≠ 0) (hu : u ≠ 0) : numN F B o u ≤ 2 * 2 ^ F ∧ ((powN F B o u + B).toNat ≠ 0 → 2 ^ F ≤ numN F B o u) := by
  obtain ⟨h1, h2⟩ := numN_bounds (F := F) (B := B) ho hu
  have hq : 0 < u * 2 ^ (powN F B o u + B).toNat := Nat.mul_pos (by omega) (Nat.pow_pos (by omega))
  rw [numN_eq hu]
  rw [Nat.mul_comm _ (2 * 2 ^ F)] at h1
  refine ⟨rne_le hq (by omega), fun h => rne_ge hq ?_⟩
  have := h2 h
  rw [Nat.mul_comm _ (2 ^ F)] at this
  omega

theorem bitsOf_lies {F B I o u : Nat} (hF : 1 ≤ F) (hI : I % 2 = 0) (ho : o ≠ 0) (hu : u ≠ 0) : Lies F I (bitsOf F B I o u) (o * 2 ^ B) u := by
  have hq : 0 < u * 2 ^ (powN F B o u + B).toNat := Nat.mul_pos (by omega) (Nat.pow_pos (by omega))
  obtain ⟨r1, r2, r3, r4⟩ := rne_spec (p := o * 2 ^ B) hq
  obtain ⟨n1, n2⟩ := numN_le (F := F) (B := B) ho hu
  have e := numN_eq (F := F) (B := B) (o := o) hu
  rw [← e] at r1 r2 r3 r4
  unfold bitsOf
  refine lies_join hF hI (by omega) n1 n2 r1 r2 r3 r4 (fun hs hN => ?_)
  have := (numN_bounds (F := F) (B := B) ho hu).2 hs
  rw [hN, Nat.mul_comm (2 ^ F)]
  omega

/-- The reference's rounding of num by den at the exponent e: while it has too many bits the exponent rises. -/
def RInv (F B o u : Nat) (e : Int) : Prop := -(B : Int) ≤ e ∧ (e ≠ -(B : Int) → 4 * (2 ^ F * (u * 2 ^ (e + B).toNat)) ≤ 4 * (o * 2 ^ B) + u * 2 ^ (e + B).toNat)

def rnd (o u : Nat) (e : Int) : Nat := rne (o * 2 ^ (-e).toNat) (u * 2 ^ e.toNat)

theorem rnd_eq {B o u : Nat} {e : Int} (hu : u ≠ 0) (h : -(B : Int) ≤ e) : rnd o u e = rne (o * 2 ^ B) (u * 2 ^ (e + B).toNat) :=
  rne_ratio (Nat.mul_pos (by omega) (Nat.pow_pos (by omega))) (Nat.mul_pos (by omega) (Nat.pow_pos (by omega))) (ratio_at h)

theorem RInv.start {F B o u : Nat} (ho : o ≠ 0) (hu : u ≠ 0) : RInv F B o u (max ((bitsN o : Int) - bitsN u - F - 2) (-(B : Int))) := by
  refine ⟨by omega, fun h => ?_⟩
  obtain ⟨_, h2⟩ := bits_ltP ho hu
  obtain ⟨e, he⟩ : ∃ e, e = max ((bitsN o : Int) - bitsN u - F - 2) (-(B : Int)) := ⟨_, rfl⟩
  rw [← he] at h ⊢
  rw [LtP.iff (C := B) (by omega), show ((bitsN o : Int) - bitsN u - 1 + B).toNat = (e + B).toNat + (1 + F) by omega, Nat.pow_add, Nat.pow_add 2 1, Nat.pow_one, ← Nat.mul_assoc, Nat.mul_comm _ (2 * 2 ^ F), Nat.mul_assoc 2] at h2
  omega

theorem RInv.step {F B o u : Nat} {e : Int} (hu : u ≠ 0) (h : RInv F B o u e) (hm : 2 * 2 ^ F ≤ rnd o u e) : RInv F B o u (e + 1) := by
  refine ⟨by have := h.1; omega, fun _ => ?_⟩
  have hq : 0 < u * 2 ^ (e + B).toNat := Nat.mul_pos (by omega) (Nat.pow_pos (by omega))
  rw [rnd_eq hu h.1] at hm
  obtain ⟨r1, _⟩ := rne_spec (p := o * 2 ^ B) hq
  have h1 := Nat.mul_le_mul_right (u * 2 ^ (e + B).toNat) hm
  have e1 : u * 2 ^ (e + 1 + B).toNat = 2 * (u * 2 ^ (e + B).toNat) := by
    rw [show (e + 1 + B).toNat = (e + B).toNat + 1 by have := h.1; omega, Nat.pow_succ, Nat.mul_comm (2 ^ _) 2, Nat.mul_left_comm]
  rw [e1, Nat.mul_left_comm (2 ^ F) 2]
  rw [Nat.mul_assoc 2] at h1
  omega

theorem RInv.lies {F B I o u : Nat} {e : Int} (hF : 1 ≤ F) (hI : I % 2 = 0) (hu : u ≠ 0) (h : RInv F B o u e) (hm : rnd o u e < 2 * 2 ^ F) : Lies F I (min ((e + B).toNat * 2 ^ F + rnd o u e) I) (o * 2 ^ B) u ∧ ((e + B).toNat ≠ 0 → 2 ^ F ≤ rnd o u e) := by
  have hq : 0 < u * 2 ^ (e + B).toNat := Nat.mul_pos (by omega) (Nat.pow_pos (by omega))
  obtain ⟨r1, r2, r3, r4⟩ := rne_spec (p := o * 2 ^ B) hq
  rw [rnd_eq hu h.1] at hm ⊢
  have hge : (e + B).toNat ≠ 0 → 2 ^ F ≤ rne (o * 2 ^ B) (u * 2 ^ (e + B).toNat) := fun hs => rne_ge hq (by
    have := h.2 (by omega)
    omega)
  exact ⟨lies_join hF hI (by omega) (by omega) hge r1 r2 r3 r4 (fun hs hN => by
    rw [hN]; exact h.2 (by omega)), hge⟩

/-- The reference's exponent has an end. -/
theorem rnd_end {F B o u : Nat} {e : Int} (ho : o ≠ 0) (hu : u ≠ 0) (h : -(B : Int) ≤ e) (he : (bitsN o : Int) - bitsN u + 1 - F ≤ e) : rnd o u e ≤ 2 ^ F := by
  obtain ⟨h1, _⟩ := bits_ltP ho hu
  have hq : 0 < u * 2 ^ (e + B).toNat := Nat.mul_pos (by omega) (Nat.pow_pos (by omega))
  rw [rnd_eq hu h]
  have h3 := h1.up (e' := e + F) (by omega)
  rw [LtP.iff (C := B) (by omega), show (e + F + B).toNat = (e + B).toNat + F by omega, Nat.pow_add, ← Nat.mul_assoc, Nat.mul_comm _ (2 ^ F)] at h3
  exact rne_le hq (by omega)

end Go.Proofs.YtpiloigpncbccacGreatDoor

namespace Go.Proofs.YtpiloigpncbccacGreatDoor

/-- An infinity's bits; a sign's. -/
def infN (F X : Nat) : Nat := (2 ^ X - 1) * 2 ^ F
def sigN (F X : Nat) (neg : Bool) : Nat := if neg then 2 ^ (X + F) else 0

theorem inf64 : infN 52 11 = 9218868437227405312 := by decide
theorem inf32 : infN 23 8 = 2139095040 := by decide

/-- A Dec's amount as one number by another. -/
def dOver (d : DecT) : Nat := decV d.dig * 10 ^ d.exp.toNat
def dUnder (d : DecT) : Nat := 10 ^ (-d.exp).toNat

/-- The bits of the nearest float of a Dec that may be. -/
def toD (F X B : Nat) (d : DecT) : Nat :=
  if d.cls = 2 then infN F X + 2 ^ (F - 1) + 1
  else if d.cls = 1 then infN F X + sigN F X d.neg
  else if d.dig = [] then sigN F X d.neg
  else bitsOf F B (infN F X) (dOver d) (dUnder d) + sigN F X d.neg

theorem dUnder_ne (d : DecT) : dUnder d ≠ 0 := by
  have : 0 < 10 ^ (-d.exp).toNat := Nat.pow_pos (by omega)
  unfold dUnder; omega

theorem lies64_of {a : Nat} (h : a < 9218868437227405312) : Lies 52 (infN 52 11) a (valD (of64D a)) (4 * T0) := by
  obtain ⟨⟨u1, u2⟩, l⟩ := val_of h
  have e : ∀ x y : Nat, (4 * x + 4 * y) * T0 = (x + y) * (4 * T0) := fun x y => by rw [← Nat.mul_add, Nat.mul_comm 4 (x + y), Nat.mul_assoc]
  rw [e] at u1 u2
  rw [e] at l
  rw [inf64]
  exact ⟨by omega, fun h0 => l h0, fun _ => ⟨u1, u2⟩⟩

theorem lies64_ex {a : Nat} (h : a < 9218868437227405312) : Lies 52 (infN 52 11) a (valD (ex64D a)) (4 * T0) := by
  rw [val_ex h, inf64, show 4 * fAmt a * T0 = fAmt a * (4 * T0) by rw [Nat.mul_comm 4 (fAmt a), Nat.mul_assoc]]
  have hT : 0 < 4 * T0 := by have := T0_pos; omega
  refine ⟨by omega, fun h0 => ?_, fun _ => ?_⟩
  · have m := fAmt_lt (show a - 1 < a by omega)
    have k := Nat.mul_lt_mul_of_pos_right (show fAmt (a - 1) + fAmt a < 2 * fAmt a by omega) hT
    rw [Nat.mul_assoc] at k
    show (fAmt (a - 1) + fAmt a) * (4 * T0) ≤ _ ∧ ((fAmt (a - 1) + fAmt a) * (4 * T0) = _ → _)
    exact ⟨by omega, fun e => by omega⟩
  · have m := fAmt_lt (show a < a + 1 by omega)
    have k := Nat.mul_lt_mul_of_pos_right (show 2 * fAmt a < fAmt a + fAmt (a + 1) by omega) hT
    rw [Nat.mul_assoc] at k
    show _ ≤ (fAmt a + fAmt (a + 1)) * (4 * T0) ∧ (_ = (fAmt a + fAmt (a + 1)) * (4 * T0) → _)
    exact ⟨by omega, fun e => by omega⟩

theorem lies32_of {a : Nat} (h : a < 2139095040) : Lies 23 (infN 23 8) a (valD (of32D a)) (4 * T0N) := by
  obtain ⟨⟨u1, u2⟩, l⟩ := val_ofN h
  have e : ∀ x y : Nat, (4 * x + 4 * y) * T0N = (x + y) * (4 * T0N) := fun x y => by rw [← Nat.mul_add, Nat.mul_comm 4 (x + y), Nat.mul_assoc]
  rw [e] at u1 u2
  rw [e] at l
  rw [inf32]
  exact ⟨by omega, fun h0 => l h0, fun _ => ⟨u1, u2⟩⟩

theorem lies32_ex {a : Nat} (h : a < 2139095040) : Lies 23 (infN 23 8) a (valD (ex32D a)) (4 * T0N) := by
  rw [val_exN h, inf32, show 4 * fAmtN a * T0N = fAmtN a * (4 * T0N) by rw [Nat.mul_comm 4 (fAmtN a), Nat.mul_assoc]]
  have hT : 0 < 4 * T0N := by have := T0_posN; omega
  refine ⟨by omega, fun h0 => ?_, fun _ => ?_⟩
  · have m := fAmt_ltN (show a - 1 < a by omega)
    have k := Nat.mul_lt_mul_of_pos_right (show fAmtN (a - 1) + fAmtN a < 2 * fAmtN a by omega) hT
    rw [Nat.mul_assoc] at k
    show (fAmtN (a - 1) + fAmtN a) * (4 * T0N) ≤ _ ∧ ((fAmtN (a - 1) + fAmtN a) * (4 * T0N) = _ → _)
    exact ⟨by omega, fun e => by omega⟩
  · have m := fAmt_ltN (show a < a + 1 by omega)
    have k := Nat.mul_lt_mul_of_pos_right (show 2 * fAmtN a < fAmtN a + fAmtN (a + 1) by omega) hT
    rw [Nat.mul_assoc] at k
    show _ ≤ (fAmtN a + fAmtN (a + 1)) * (4 * T0N) ∧ (_ = (fAmtN a + fAmtN (a + 1)) * (4 * T0N) → _)
    exact ⟨by omega, fun e => by omega⟩

theorem t0_ten : powT 2 1074 * (4 * T0) = powT 10 1100 := by decide +kernel
theorem t0_tenN : powT 2 149 * (4 * T0N) = powT 10 1100 := by decide +kernel

theorem dec_ratio {d : DecT} {B T : Nat} (hT : powT 2 B * (4 * T) = powT 10 1100) (h : -1100 ≤ d.exp) : dOver d * 2 ^ B * (4 * T) = valD d * dUnder d := by
  obtain ⟨E, hE⟩ : ∃ E, E = 1100 := ⟨_, rfl⟩
  rw [← hE] at hT
  unfold powT at hT
  unfold dOver dUnder valD
  rw [Nat.mul_assoc, hT, Nat.mul_assoc, Nat.mul_assoc, ← Nat.pow_add, ← Nat.pow_add]
  congr 2
  omega

theorem decA_dig {neg : Bool} {N : Nat} {e : Int} (h : N ≠ 0) : (decA neg N e).dig ≠ [] ∧ dOver (decA neg N e) ≠ 0 ∧ e ≤ (decA neg N e).exp ∧ (decA neg N e).cls = 0 ∧ (decA neg N e).neg = neg := by
  obtain ⟨M, k, h1, h2, h3⟩ := decA_form neg e h
  rw [h3]
  refine ⟨dd_ne M, ?_, by simp only; omega, rfl, rfl⟩
  unfold dOver
  simp only [dd_val]
  exact Nat.mul_ne_zero (by omega) (by have : 0 < 10 ^ (e + k).toNat := Nat.pow_pos (by omega); omega)

/-- The bits of a number's digits, where they lie nearest to a float. -/
theorem toD_decA {F X B T a N : Nat} {e : Int} (neg : Bool) (hF : 1 ≤ F) (hI : infN F X % 2 = 0) (hT : powT 2 B * (4 * T) = powT 10 1100) (hT0 : 0 < T) (hN : N ≠ 0) (he : -1100 ≤ e) (h : Lies F (infN F X) a (valD (decA false N e)) (4 * T)) : toD F X B (decA neg N e) = a + sigN F X neg := by
  obtain ⟨d1, d2, d3, d4, d5⟩ := decA_dig (neg := neg) (e := e) hN
  unfold toD
  rw [if_neg (by omega), if_neg (by omega), if_neg d1, d5]
  congr 1
  have hv : valD (decA neg N e) = valD (decA false N e) := rfl
  rw [← hv] at h
  exact (bitsOf_lies (B := B) hF hI d2 (dUnder_ne _)).uniq h (Nat.pos_of_ne_zero (dUnder_ne _)) (by omega) (dec_ratio hT (by omega))

theorem few_ne {F B x m : Nat} (hF : F ≤ 52) (hm : m < 2 ^ F) (h0 : fNum F x m ≠ 0) : (fewD F B x m).1 ≠ 0 := by
  have g := nearOf_good (F := F) (B := B) (x := x) (m := m) hF hm
  have ha : (nearOf F B x m).amt ≠ 0 := by
    have := p2N_pos (fPow B x - 2)
    exact Nat.mul_ne_zero (by omega) (by omega)
  rcases hf : fewN (nearOf F B x m) (sizeN (nearOf F B x m).amt) with ⟨v, p⟩
  have := (few_bound g ha hf).2.1
  have e : (fewD F B x m).1 = v := by unfold fewD; rw [hf]
  omega

theorem few_exp {F B x m : Nat} (h1 : -1074 ≤ fPow B x) : -1100 ≤ (fewD F B x m).2 := by
  unfold fewD p2E; simp only; split <;> omega

theorem all_ne {F B x m : Nat} (h0 : fNum F x m ≠ 0) : (allD F B x m).1 ≠ 0 := by
  have := p2N_pos (fPow B x)
  exact Nat.mul_ne_zero h0 (by omega)

theorem all_exp {F B x m : Nat} (h1 : -1074 ≤ fPow B x) : -1100 ≤ (allD F B x m).2 := by
  unfold allD p2E; simp only; split <;> omega

/-- What a float's bits are read as: itself, but all NaNs as one. -/
def same64 (b : Nat) : Nat := if 9218868437227405312 < b % 9223372036854775808 then 9221120237041090561 else b
def same32 (b : Nat) : Nat := if 2139095040 < b % 2147483648 then 2143289345 else b

theorem back64 (tell : Nat → Nat → Nat × Int) (lies : ∀ a, a < 9218868437227405312 → a ≠ 0 → Lies 52 (infN 52 11) a (valD (decOf 52 11 tell a)) (4 * T0)) (ne : ∀ a, a < 9218868437227405312 → a ≠ 0 → (tell (a / 2 ^ 52) (a % 2 ^ 52)).1 ≠ 0 ∧ -1100 ≤ (tell (a / 2 ^ 52) (a % 2 ^ 52)).2) (b : Nat) (hb : b < 18446744073709551616) : toD 52 11 1074 (decOf 52 11 tell b) = same64 b := by
  have e1 : (2 : Nat) ^ 52 = 4503599627370496 := by decide
  have e2 : (2 : Nat) ^ 11 = 2048 := by decide
  have hs : ∀ neg : Bool, neg = decide (b / 4503599627370496 / 2048 ≠ 0) → sigN 52 11 neg = b / 9223372036854775808 * 9223372036854775808 := by
    intro neg hn
    unfold sigN
    by_cases hz : b / 4503599627370496 / 2048 = 0
    · rw [hn, decide_eq_false (by omega)]; simp; omega
    · rw [hn, decide_eq_true hz, if_pos rfl, show (2 : Nat) ^ (11 + 52) = 9223372036854775808 by decide]; omega
  unfold same64
  by_cases hx : b / 4503599627370496 % 2048 = 2047
  · by_cases hm : b % 4503599627370496 = 0
    · have hd : decOf 52 11 tell b = ⟨1, decide (b / 4503599627370496 / 2048 ≠ 0), [], 0⟩ := by
        unfold decOf; rw [e1, e2, if_pos hx, if_pos hm]
      rw [hd, if_neg (by omega)]
      unfold toD
      rw [if_neg (by simp), if_pos rfl, inf64, hs _ rfl]
      omega
    · have hd : decOf 52 11 tell b = ⟨2, false, [], 0⟩ := by
        unfold decOf; rw [e1, e2, if_pos hx, if_neg hm]
      rw [hd, if_pos (by omega)]
      unfold toD
      rw [if_pos rfl, inf64]
  · obtain ⟨a, ha⟩ : ∃ a, a = b % 9223372036854775808 := ⟨_, rfl⟩
    have ha2 : a < 9218868437227405312 := by omega
    rw [if_neg (by omega)]
    by_cases h0 : a = 0
    · have hd : decOf 52 11 tell b = ⟨0, decide (b / 4503599627370496 / 2048 ≠ 0), [], 0⟩ := by
        unfold decOf; rw [e1, e2, if_neg (by omega), if_pos (by omega)]
      rw [hd]
      unfold toD
      rw [if_neg (by simp), if_neg (by simp), if_pos rfl, hs _ rfl]
      omega
    · have hd : decOf 52 11 tell b = decA (decide (b / 4503599627370496 / 2048 ≠ 0)) (tell (a / 2 ^ 52) (a % 2 ^ 52)).1 (tell (a / 2 ^ 52) (a % 2 ^ 52)).2 := by
        unfold decOf
        rw [e1, e2, if_neg (by omega), if_neg (by omega), show b / 4503599627370496 % 2048 = a / 4503599627370496 by omega, show b % 4503599627370496 = a % 4503599627370496 by omega]
      have hl := lies a ha2 h0
      rw [pos_dec ha2 h0 tell] at hl
      obtain ⟨n1, n2⟩ := ne a ha2 h0
      rw [hd, toD_decA _ (by omega) (by rw [inf64]) t0_ten T0_pos n1 n2 hl, hs _ rfl]
      omega

theorem back32 (tell : Nat → Nat → Nat × Int) (lies : ∀ a, a < 2139095040 → a ≠ 0 → Lies 23 (infN 23 8) a (valD (decOf 23 8 tell a)) (4 * T0N)) (ne : ∀ a, a < 2139095040 → a ≠ 0 → (tell (a / 2 ^ 23) (a % 2 ^ 23)).1 ≠ 0 ∧ -1100 ≤ (tell (a / 2 ^ 23) (a % 2 ^ 23)).2) (b : Nat) (hb : b < 4294967296) : toD 23 8 149 (decOf 23 8 tell b) = same32 b := by
  have e1 : (2 : Nat) ^ 23 = 8388608 := by decide
  have e2 : (2 : Nat) ^ 8 = 256 := by decide
  have hs : ∀ neg : Bool, neg = decide (b / 8388608 / 256 ≠ 0) → sigN 23 8 neg = b / 2147483648 * 2147483648 := by
    intro neg hn
    unfold sigN
    by_cases hz : b / 8388608 / 256 = 0
    · rw [hn, decide_eq_false (by omega)]; simp; omega
    · rw [hn, decide_eq_true hz, if_pos rfl, show (2 : Nat) ^ (8 + 23) = 2147483648 by decide]; omega
  unfold same32
  by_cases hx : b / 8388608 % 256 = 255
  · by_cases hm : b % 8388608 = 0
    · have hd : decOf 23 8 tell b = ⟨1, decide (b / 8388608 / 256 ≠ 0), [], 0⟩ := by
        unfold decOf; rw [e1, e2, if_pos hx, if_pos hm]
      rw [hd, if_neg (by omega)]
      unfold toD
      rw [if_neg (by simp), if_pos rfl, inf32, hs _ rfl]
      omega
    · have hd : decOf 23 8 tell b = ⟨2, false, [], 0⟩ := by
        unfold decOf; rw [e1, e2, if_pos hx, if_neg hm]
      rw [hd, if_pos (by omega)]
      unfold toD
      rw [if_pos rfl, inf32]
  · obtain ⟨a, ha⟩ : ∃ a, a = b % 2147483648 := ⟨_, rfl⟩
    have ha2 : a < 2139095040 := by omega
    rw [if_neg (by omega)]
    by_cases h0 : a = 0
    · have hd : decOf 23 8 tell b = ⟨0, decide (b / 8388608 / 256 ≠ 0), [], 0⟩ := by
        unfold decOf; rw [e1, e2, if_neg (by omega), if_pos (by omega)]
      rw [hd]
      unfold toD
      rw [if_neg (by simp), if_neg (by simp), if_pos rfl, hs _ rfl]
      omega
    · have hd : decOf 23 8 tell b = decA (decide (b / 8388608 / 256 ≠ 0)) (tell (a / 2 ^ 23) (a % 2 ^ 23)).1 (tell (a / 2 ^ 23) (a % 2 ^ 23)).2 := by
        unfold decOf
        rw [e1, e2, if_neg (by omega), if_neg (by omega), show b / 8388608 % 256 = a / 8388608 by omega, show b % 8388608 = a % 8388608 by omega]
      have hl := lies a ha2 h0
      rw [pos_decN ha2 h0 tell] at hl
      obtain ⟨n1, n2⟩ := ne a ha2 h0
      rw [hd, toD_decA _ (by omega) (by rw [inf32]) t0_tenN T0_posN n1 n2 hl, hs _ rfl]
      omega

theorem back64_of (b : Nat) (hb : b < 18446744073709551616) : toD 52 11 1074 (of64D b) = same64 b :=
  back64 _ (fun _ h _ => lies64_of h) (fun _ h h0 => ⟨few_ne (by omega) (Nat.mod_lt _ (Nat.pow_pos (by omega))) (fNum_pos h0), few_exp (fPow_bounds h).1⟩) b hb
theorem back64_ex (b : Nat) (hb : b < 18446744073709551616) : toD 52 11 1074 (ex64D b) = same64 b :=
  back64 _ (fun _ h _ => lies64_ex h) (fun _ h h0 => ⟨all_ne (fNum_pos h0), all_exp (fPow_bounds h).1⟩) b hb
theorem back32_of (b : Nat) (hb : b < 4294967296) : toD 23 8 149 (of32D b) = same32 b :=
  back32 _ (fun _ h _ => lies32_of h) (fun _ h h0 => ⟨few_ne (by omega) (Nat.mod_lt _ (Nat.pow_pos (by omega))) (fNum_posN h0), few_exp (by have := (fPow_boundsN h).1; omega)⟩) b hb
theorem back32_ex (b : Nat) (hb : b < 4294967296) : toD 23 8 149 (ex32D b) = same32 b :=
  back32 _ (fun _ h _ => lies32_ex h) (fun _ h h0 => ⟨all_ne (fNum_posN h0), all_exp (by have := (fPow_boundsN h).1; omega)⟩) b hb

end Go.Proofs.YtpiloigpncbccacGreatDoor

namespace Go.Proofs.YtpiloigpncbccacGreatDoor

/-- Which Decs may be: class, sign, digits, exponent. -/
def MayD (c : Int) (neg : Bool) (dig : List UInt8) (e : Int) : Prop :=
  (c = 0 ∧ ((dig = [] ∧ e = 0) ∨ (dig ≠ [] ∧ dig.length ≤ 1000 ∧ -2000 ≤ e + dig.length ∧ e + dig.length ≤ 2000 ∧ byt dig 0 ≠ 48 ∧ byt dig (dig.length - 1) ≠ 48 ∧ DigB dig))) ∨
  (c = 1 ∧ dig = [] ∧ e = 0) ∨ (c = 2 ∧ neg = false ∧ dig = [] ∧ e = 0)

/-- Digits that do not begin with a nought are a number above 0. -/
theorem decV_ne {l : List UInt8} (h : l ≠ []) (h0 : byt l 0 ≠ 48) (hd : DigB l) : decV l ≠ 0 := by
  have ok : OkT l := ⟨h, fun e => absurd e h0, hd⟩
  rcases hl : l.length with _ | n
  · exact absurd (List.length_eq_zero_iff.1 hl) h
  · have hb := dd_back n l hl ok
    intro e
    rw [e, Lib.decDigits_one (by omega)] at hb
    apply h0
    rw [← hb]; rfl

theorem over_ratio {a b : DecT} {u : Int} (hu : u = min a.exp b.exp) (h : decV a.dig * 10 ^ (a.exp - u).toNat ≤ decV b.dig * 10 ^ (b.exp - u).toNat) (B : Nat) : dOver a * 2 ^ B * dUnder b ≤ dOver b * 2 ^ B * dUnder a := by
  unfold dOver dUnder
  obtain ⟨K, hK⟩ : ∃ K : Nat, (K : Int) = (-a.exp).toNat + (-b.exp).toNat + u := ⟨((-a.exp).toNat + (-b.exp).toNat + u).toNat, by omega⟩
  have e1 : decV a.dig * 10 ^ a.exp.toNat * 2 ^ B * 10 ^ (-b.exp).toNat = decV a.dig * 10 ^ (a.exp - u).toNat * (10 ^ K * 2 ^ B) := by
    rw [Nat.mul_right_comm _ (2 ^ B), Nat.mul_assoc (decV a.dig), ← Nat.pow_add, ← Nat.mul_assoc, Nat.mul_assoc (decV a.dig) (10 ^ (a.exp - u).toNat), ← Nat.pow_add]
    congr 3; omega
  have e2 : decV b.dig * 10 ^ b.exp.toNat * 2 ^ B * 10 ^ (-a.exp).toNat = decV b.dig * 10 ^ (b.exp - u).toNat * (10 ^ K * 2 ^ B) := by
    rw [Nat.mul_right_comm _ (2 ^ B), Nat.mul_assoc (decV b.dig), ← Nat.pow_add, ← Nat.mul_assoc, Nat.mul_assoc (decV b.dig) (10 ^ (b.exp - u).toNat), ← Nat.pow_add]
    congr 3; omega
  rw [e1, e2]
  exact Nat.mul_le_mul_right _ h

/-- A finite Dec that is not below 0. -/
structure Pos (d : DecT) : Prop where
  cls : d.cls = 0
  neg : d.neg = false
  ne : d.dig ≠ [] → decV d.dig ≠ 0

theorem Pos.toD {d : DecT} (h : Pos d) (F X B : Nat) : toD F X B d = if d.dig = [] then 0 else bitsOf F B (infN F X) (dOver d) (dUnder d) := by
  unfold Go.Proofs.YtpiloigpncbccacGreatDoor.toD
  rw [h.cls, h.neg, if_neg (by decide), if_neg (by decide)]
  rfl

theorem Pos.over {d : DecT} (h : Pos d) (hd : d.dig ≠ []) : dOver d ≠ 0 := by
  have : 0 < 10 ^ d.exp.toNat := Nat.pow_pos (by omega)
  exact Nat.mul_ne_zero (h.ne hd) (by omega)

theorem toD_rises {F X B : Nat} (hF : 1 ≤ F) (hI : infN F X % 2 = 0) {a b : DecT} (ha : Pos a) (hb : Pos b) {u : Int} (hu : u = min a.exp b.exp) (h : decV a.dig * 10 ^ (a.exp - u).toNat ≤ decV b.dig * 10 ^ (b.exp - u).toNat) : toD F X B a ≤ toD F X B b := by
  rw [ha.toD, hb.toD]
  by_cases ea : a.dig = []
  · rw [if_pos ea]; exact Nat.zero_le _
  · rw [if_neg ea]
    have hb0 : b.dig ≠ [] := by
      intro e
      rw [e] at h
      have h1 : 0 < 10 ^ (a.exp - u).toNat := Nat.pow_pos (by omega)
      have h2 := Nat.mul_pos (Nat.pos_of_ne_zero (ha.ne ea)) h1
      rw [show decV ([] : List UInt8) = 0 from rfl, Nat.zero_mul] at h
      omega
    rw [if_neg hb0]
    exact (bitsOf_lies hF hI (ha.over ea) (dUnder_ne _)).mono (bitsOf_lies hF hI (hb.over hb0) (dUnder_ne _)) (Nat.pos_of_ne_zero (dUnder_ne _)) (Nat.pos_of_ne_zero (dUnder_ne _)) (over_ratio hu h B)

end Go.Proofs.YtpiloigpncbccacGreatDoor

namespace Go.Proofs.YtpiloigpncbccacGreatDoor

theorem Lies.ratio {F I b p q p' q' : Nat} (h : Lies F I b p q) (hq : 0 < q) (hq' : 0 < q') (e : p * q' = p' * q) : Lies F I b p' q' := by
  have k : ∀ S : Nat, S * q' * q = S * q * q' := fun S => Nat.mul_right_comm _ _ _
  have k2 : 2 * p' * q = 2 * p * q' := by rw [Nat.mul_assoc, Nat.mul_assoc, e]
  have le1 : ∀ {S : Nat}, S * q ≤ 2 * p → S * q' ≤ 2 * p' := fun {S} hh => by
    apply Nat.le_of_mul_le_mul_right (c := q) _ hq
    rw [k, k2]; exact Nat.mul_le_mul_right _ hh
  have le2 : ∀ {S : Nat}, 2 * p ≤ S * q → 2 * p' ≤ S * q' := fun {S} hh => by
    apply Nat.le_of_mul_le_mul_right (c := q) _ hq
    rw [k, k2]; exact Nat.mul_le_mul_right _ hh
  have eq1 : ∀ {S : Nat}, S * q' = 2 * p' → S * q = 2 * p := fun {S} hh => by
    apply Nat.eq_of_mul_eq_mul_right hq'
    rw [← k, hh, k2]
  exact ⟨h.le, fun h0 => ⟨le1 (h.lo h0).1, fun hh => (h.lo h0).2 (eq1 hh)⟩, fun h0 => ⟨le2 (h.hi h0).1, fun hh => (h.hi h0).2 (eq1 hh.symm).symm⟩⟩

/-- If a multiple of 10^p lies in reach, one is picked at that place. -/
theorem pick_multC {r : Near} {p z : Nat} (h : (z * 10 ^ p ≤ r.amt ∧ heldN r.clo (r.amt - z * 10 ^ p) r.lo = true) ∨ (r.amt ≤ z * 10 ^ p ∧ heldN r.clo (z * 10 ^ p - r.amt) r.hi = true)) (hlo : 0 < r.lo) : pickAt r p ≠ none := by
  have hp : 0 < 10 ^ p := Nat.pow_pos (by omega)
  have hdm := Nat.div_add_mod r.amt (10 ^ p)
  have hlt := Nat.mod_lt r.amt hp
  have less : ∀ {c : Bool} {d d' far : Nat}, heldN c d far = true → d' ≤ d → heldN c d' far = true := by
    intro c d d' far hh hd
    by_cases h1 : d' < far
    · exact heldN_lt h1
    · unfold heldN at hh ⊢
      by_cases h2 : d < far
      · omega
      · simp [h2] at hh
        have : d' = far := by omega
        simp [this, hh.2]
  have two : heldN r.clo (r.amt % 10 ^ p) r.lo = true ∨ heldN r.clo (10 ^ p - r.amt % 10 ^ p) r.hi = true := by
    rcases h with ⟨h1, h2⟩ | ⟨h1, h2⟩
    · left
      have : z ≤ r.amt / 10 ^ p := (Nat.le_div_iff_mul_le hp).2 h1
      have := Nat.mul_le_mul_right (10 ^ p) this
      rw [Nat.mul_comm (r.amt / 10 ^ p)] at this
      exact less h2 (by omega)
    · by_cases h3 : r.amt % 10 ^ p = 0
      · left; rw [h3]; exact heldN_zero hlo
      · right
        have h4 : r.amt / 10 ^ p + 1 ≤ z := by
          have h5 : r.amt / 10 ^ p < z := (Nat.div_lt_iff_lt_mul hp).2 (by
            rcases Nat.lt_or_ge r.amt (z * 10 ^ p) with h6 | h6
            · exact h6
            · exfalso
              have h7 : r.amt = z * 10 ^ p := by omega
              rw [h7, Nat.mul_mod_left] at h3
              exact h3 rfl)
          exact h5
        have := Nat.mul_le_mul_right (10 ^ p) h4
        rw [Nat.add_mul, Nat.one_mul, Nat.mul_comm (r.amt / 10 ^ p)] at this
        exact less h2 (by omega)
  unfold pickAt pickN
  split
  · simp
  · next hc =>
    split
    · simp
    · next hd =>
      rcases two with h1 | h1
      · exact absurd ⟨h1, fun e => absurd e hd⟩ hc
      · exact absurd h1 hd

/-- A float's reach in the units of its neighbours' amounts. -/
theorem units64 {a : Nat} (h : a < 9218868437227405312) (h0 : a ≠ 0) {t : Nat} (ht : t = 10 ^ (p2E (fPow 1074 (a / 2 ^ 52) - 2) + 1100).toNat) :
    (4 * fAmt a + 4 * fAmt (a + 1)) * T0 = 2 * ((nearOf 52 1074 (a / 2 ^ 52) (a % 2 ^ 52)).amt * t) + 2 * ((nearOf 52 1074 (a / 2 ^ 52) (a % 2 ^ 52)).hi * t) ∧
    (4 * fAmt (a - 1) + 4 * fAmt a) * T0 + 2 * ((nearOf 52 1074 (a / 2 ^ 52) (a % 2 ^ 52)).lo * t) = 2 * ((nearOf 52 1074 (a / 2 ^ 52) (a % 2 ^ 52)).amt * t) := by
  obtain ⟨T, hTe⟩ : ∃ T, T = T0 := ⟨_, rfl⟩
  rw [← hTe]
  have e1 : (2 : Nat) ^ 52 = 4503599627370496 := by decide
  have hb := fPow_bounds h
  obtain ⟨x, hx⟩ : ∃ x, x = a / 2 ^ 52 := ⟨_, rfl⟩
  obtain ⟨m, hm⟩ : ∃ m, m = a % 2 ^ 52 := ⟨_, rfl⟩
  have hs := fAmt_succ a
  have hs' := fAmt_succ (a - 1)
  rw [show a - 1 + 1 = a by omega] at hs'
  have hAm : fAmt a = fNum 52 x m * 2 ^ (x - 1) := by rw [hx, hm]; rfl
  rw [← hx] at hb hs ht
  rw [← hx, ← hm]
  have hq : p2N (fPow 1074 x - 2) * t = 2 ^ (x - 1) * T := by
    have h1 : Tn (fPow 1074 x - 2) = 2 ^ (x - 1) * Tn (-1076) := by rw [← Tn_pow]; congr 1; have := fPow_nat x; omega
    rw [ht, hTe]; exact h1
  obtain ⟨Q, hQ⟩ : ∃ Q, Q = 2 ^ (x - 1) := ⟨_, rfl⟩
  rw [← hQ] at hs hAm hq
  have A1 : (nearOf 52 1074 x m).amt * t = 4 * fAmt a * T := by
    show p2N (fPow 1074 x - 2) * (fNum 52 x m * 4) * t = _
    rw [Nat.mul_right_comm, hq, hAm]
    simp only [Nat.mul_comm, Nat.mul_left_comm, Nat.mul_assoc]
  have H1 : (nearOf 52 1074 x m).hi * t = 2 * Q * T := by
    show p2N (fPow 1074 x - 2) * 2 * t = _
    rw [Nat.mul_right_comm, hq]
    simp only [Nat.mul_comm, Nat.mul_assoc]
  have L1 : 2 * ((nearOf 52 1074 x m).lo * t) = 4 * 2 ^ ((a - 1) / 2 ^ 52 - 1) * T := by
    show 2 * ((if m = 0 ∧ 1 < x then p2N (fPow 1074 x - 2) else p2N (fPow 1074 x - 2) * 2) * t) = _
    by_cases hc : m = 0 ∧ 1 < x
    · rw [if_pos hc, hq, hQ]
      have h1 : (a - 1) / 2 ^ 52 = x - 1 := by rw [e1] at *; omega
      rw [h1]
      obtain ⟨i, hi⟩ : ∃ i, x = i + 2 := ⟨x - 2, by omega⟩
      rw [hi, show i + 2 - 1 = i + 1 by omega, show i + 1 - 1 = i by omega, Nat.pow_succ]
      generalize 2 ^ i = R
      have i1 : R * 2 * T = 2 * (R * T) := by rw [Nat.mul_comm R 2, Nat.mul_assoc]
      have i2 : 4 * R * T = 4 * (R * T) := Nat.mul_assoc _ _ _
      omega
    · rw [if_neg hc, Nat.mul_right_comm, hq, hQ]
      have h1 : (a - 1) / 2 ^ 52 - 1 = x - 1 := by rw [e1] at *; omega
      rw [h1, Nat.mul_assoc 4]
      generalize 2 ^ (x - 1) * T = R
      omega
  obtain ⟨q', hq'⟩ : ∃ q', q' = 2 ^ ((a - 1) / 2 ^ 52 - 1) := ⟨_, rfl⟩
  rw [← hq'] at hs' L1
  refine ⟨?_, ?_⟩
  · rw [hs, A1, H1, Nat.mul_add 4, Nat.add_mul, Nat.add_mul]
    generalize fAmt a = X
    have i1 : 2 * Q * T = 2 * (Q * T) := Nat.mul_assoc _ _ _
    have i2 : 4 * Q * T = 4 * (Q * T) := Nat.mul_assoc _ _ _
    omega
  · rw [L1, A1, hs', Nat.mul_add 4, Nat.add_mul, Nat.add_mul]
    generalize fAmt (a - 1) = X
    omega

/-- A number of a place above the one where the fewest digits end is not nearest to the float. -/
theorem few_apart {a : Nat} (h : a < 9218868437227405312) (h0 : a ≠ 0) {v p : Nat} (hf : fewN (nearOf 52 1074 (a / 2 ^ 52) (a % 2 ^ 52)) (sizeN (nearOf 52 1074 (a / 2 ^ 52) (a % 2 ^ 52)).amt) = (v, p)) {M k Z : Nat} (hv : v = M * 10 ^ k) (hM : M % 10 ≠ 0) (hM2 : 10 ≤ M) (hZ : Z ≠ 0) :
    ¬ Lies 52 (infN 52 11) a (valD (decA false Z (p2E (fPow 1074 (a / 2 ^ 52) - 2) + (p + k + 1 : Nat)))) (4 * T0) := by
  intro hl
  have e1 : (2 : Nat) ^ 52 = 4503599627370496 := by decide
  have hb := fPow_bounds h
  have hm2 : a % 2 ^ 52 < 2 ^ 52 := Nat.mod_lt _ (by omega)
  have g := nearOf_good (F := 52) (B := 1074) (x := a / 2 ^ 52) (m := a % 2 ^ 52) (by omega) hm2
  have hnum := fNum_pos h0
  have ha0 : (nearOf 52 1074 (a / 2 ^ 52) (a % 2 ^ 52)).amt ≠ 0 := by
    have := p2N_pos (fPow 1074 (a / 2 ^ 52) - 2)
    exact Nat.mul_ne_zero (by omega) (by omega)
  obtain ⟨t, ht⟩ : ∃ t, t = 10 ^ (p2E (fPow 1074 (a / 2 ^ 52) - 2) + 1100).toNat := ⟨_, rfl⟩
  have ht0 : 0 < t := by rw [ht]; exact Nat.pow_pos (by omega)
  obtain ⟨s1, s2⟩ := units64 h h0 ht
  have hE : -1100 ≤ p2E (fPow 1074 (a / 2 ^ 52) - 2) := by unfold p2E; split <;> omega
  have hclo : (nearOf 52 1074 (a / 2 ^ 52) (a % 2 ^ 52)).clo = decide (a % 2 = 0) := by
    show decide (a % 2 ^ 52 % 2 = 0) = _
    have e2 : a % 4503599627370496 % 2 = a % 2 := by omega
    rw [e1, e2]
  have hval : valD (decA false Z (p2E (fPow 1074 (a / 2 ^ 52) - 2) + (p + k + 1 : Nat))) = Z * 10 ^ (p + k + 1) * t := by
    rw [val_decA false hZ (by omega), ht, Nat.mul_assoc, ← Nat.pow_add, show (p2E (fPow 1074 (a / 2 ^ 52) - 2) + (p + k + 1 : Nat) + 1100).toNat = p + k + 1 + (p2E (fPow 1074 (a / 2 ^ 52) - 2) + 1100).toNat by omega]
  obtain ⟨b1, b2, _, b4, b5, _, _⟩ := few_bound g ha0 hf
  obtain ⟨r, hr⟩ : ∃ r, r = nearOf 52 1074 (a / 2 ^ 52) (a % 2 ^ 52) := ⟨_, rfl⟩
  rw [← hr] at s1 s2 g ha0 hf b1 b4 b5 hclo
  rw [hval] at hl
  obtain ⟨l1, l2⟩ := hl.lo h0
  obtain ⟨u1, u2⟩ := hl.hi (by rw [inf64]; omega)
  have c4 : ∀ y z : Nat, (y + z) * (4 * T0) = (4 * y + 4 * z) * T0 := fun y z => by rw [← Nat.mul_add, Nat.mul_comm 4 (y + z), Nat.mul_assoc]
  have l1' : (4 * fAmt (a - 1) + 4 * fAmt a) * T0 ≤ 2 * (Z * 10 ^ (p + k + 1) * t) := by rw [← c4]; exact l1
  have l2' : (4 * fAmt (a - 1) + 4 * fAmt a) * T0 = 2 * (Z * 10 ^ (p + k + 1) * t) → a % 2 = 0 := by rw [← c4]; exact l2
  have u1' : 2 * (Z * 10 ^ (p + k + 1) * t) ≤ (4 * fAmt a + 4 * fAmt (a + 1)) * T0 := by rw [← c4]; exact u1
  have u2' : 2 * (Z * 10 ^ (p + k + 1) * t) = (4 * fAmt a + 4 * fAmt (a + 1)) * T0 → a % 2 = 0 := by rw [← c4]; exact u2
  clear l1 l2 u1 u2 hl hval
  generalize hV : Z * 10 ^ (p + k + 1) = V at *
  have q1 : r.amt ≤ V + r.lo := by
    apply Nat.le_of_mul_le_mul_right (c := t) _ ht0
    rw [Nat.add_mul]; omega
  have q2 : V ≤ r.amt + r.hi := by
    apply Nat.le_of_mul_le_mul_right (c := t) _ ht0
    rw [Nat.add_mul]; omega
  have q3 : r.amt = V + r.lo → a % 2 = 0 := fun e => l2' (by
    have := congrArg (· * t) e
    simp only [Nat.add_mul] at this
    omega)
  have q4 : V = r.amt + r.hi → a % 2 = 0 := fun e => u2' (by
    have := congrArg (· * t) e
    simp only [Nat.add_mul] at this
    omega)
  have held : ∀ {d far : Nat}, d ≤ far → (d = far → a % 2 = 0) → heldN r.clo d far = true := by
    intro d far h1 h2
    by_cases h3 : d < far
    · exact heldN_lt h3
    · have h4 : d = far := by omega
      unfold heldN
      rw [hclo]
      simp [h4, h2 h4]
  have hpick : pickAt r (p + k + 1) ≠ none := by
    apply pick_multC (z := Z) _ g.pos
    rw [hV]
    rcases Nat.le_total V r.amt with h1 | h1
    · exact .inl ⟨h1, held (by omega) (fun e => q3 (by omega))⟩
    · exact .inr ⟨h1, held (by omega) (fun e => q4 (by omega))⟩
  have hlt : p + k + 1 < sizeN r.amt := by
    rcases Nat.lt_or_ge (p + k + 1) (sizeN r.amt) with h1 | h1
    · exact h1
    · exfalso
      have hp : 0 < 10 ^ p := Nat.pow_pos (by omega)
      have h2 : r.amt < 10 ^ (k + 1) * 10 ^ p := by
        rw [← Nat.pow_add]
        exact Nat.lt_of_lt_of_le (sizeN_lt _) (Nat.pow_le_pow_right (by omega) (by omega))
      have h3 : r.amt / 10 ^ p < 10 ^ (k + 1) := (Nat.div_lt_iff_lt_mul hp).2 h2
      have h4 := pick_or b4
      have h5 : M * 10 ^ k ≤ 10 * 10 ^ k := by
        rw [← hv, Nat.mul_comm, ← Nat.pow_succ]; omega
      have h6 := Nat.le_of_mul_le_mul_right h5 (Nat.pow_pos (by omega))
      omega
  have := few_ge g ha0 hf hlt hpick
  omega

end Go.Proofs.YtpiloigpncbccacGreatDoor
