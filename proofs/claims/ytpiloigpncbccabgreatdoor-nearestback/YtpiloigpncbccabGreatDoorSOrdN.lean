/-
  Plain mathematics: the same for the narrow floats.
-/
import Derived.Test.YtpiloigpncbccabGreatDoorZSM
namespace Go.Proofs.YtpiloigpncbccabGreatDoor

theorem Tn_powN (k : Nat) : Tn (-151 + (k : Int)) = 2 ^ k * Tn (-151) := by
  induction k with
  | zero => simp
  | succ k ih =>
    rw [show -151 + ((k + 1 : Nat) : Int) = -151 + (k : Int) + 1 by omega, Tn_succ (by omega), ih, Nat.pow_succ, ← Nat.mul_assoc, Nat.mul_comm 2]

def T0N : Nat := Tn (-151)
theorem T0_posN : 0 < T0N := Nat.mul_pos (p2N_pos _) (Nat.pow_pos (by omega))

/-- A float's amount in units of 2^-149. -/
def fAmtN (a : Nat) : Nat := fNum 23 (a / 2 ^ 23) (a % 2 ^ 23) * 2 ^ (a / 2 ^ 23 - 1)

theorem fPow_natN (x : Nat) : fPow 149 x = -151 + ((x - 1 + 2 : Nat) : Int) := by
  unfold fPow; split <;> omega

theorem fAmt_succN (a : Nat) : fAmtN (a + 1) = fAmtN a + 2 ^ (a / 2 ^ 23 - 1) := by
  have e1 : (2 : Nat) ^ 23 = 8388608 := by decide
  unfold fAmtN fNum
  rw [e1]
  by_cases h : a % 8388608 + 1 < 8388608
  · have h1 : (a + 1) / 8388608 = a / 8388608 := by omega
    have h2 : (a + 1) % 8388608 = a % 8388608 + 1 := by omega
    rw [h1, h2]
    split
    · rw [Nat.add_mul, Nat.one_mul]
    · rw [← Nat.add_assoc, Nat.add_mul _ 1, Nat.one_mul]
  · have h1 : (a + 1) / 8388608 = a / 8388608 + 1 := by omega
    have h2 : (a + 1) % 8388608 = 0 := by omega
    have h3 : a % 8388608 = 8388607 := by omega
    rw [h1, h2, h3, if_neg (by omega), Nat.add_sub_cancel, Nat.add_zero]
    by_cases h0 : a / 8388608 = 0
    · rw [h0]; simp
    · rw [if_neg h0]
      obtain ⟨i, hi⟩ : ∃ i, a / 8388608 = i + 1 := ⟨a / 8388608 - 1, by omega⟩
      rw [hi, Nat.add_sub_cancel, Nat.pow_succ]
      omega

theorem fAmt_monoN {a b : Nat} (h : a ≤ b) : fAmtN a ≤ fAmtN b := by
  induction b with
  | zero => rw [show a = 0 by omega]; exact Nat.le_refl _
  | succ b ih =>
    by_cases e : a = b + 1
    · rw [e]; exact Nat.le_refl _
    · have := ih (by omega)
      rw [fAmt_succN]; exact Nat.le_trans this (Nat.le_add_right _ _)

theorem fAmt_ltN {a b : Nat} (h : a < b) : fAmtN a < fAmtN b := by
  have h1 := fAmt_monoN (show a + 1 ≤ b from h)
  have h2 := fAmt_succN a
  have h3 : 0 < 2 ^ (a / 2 ^ 23 - 1) := Nat.pow_pos (by omega)
  omega

/-- The fields of a float that is not below 0 and finite. -/
theorem pos_fieldsN {a : Nat} (h : a < 2139095040) : a / 2 ^ 23 % 2 ^ 8 = a / 2 ^ 23 ∧ a / 2 ^ 23 < 255 ∧ a / 2 ^ 23 / 2 ^ 8 = 0 := by
  have e1 : (2 : Nat) ^ 23 = 8388608 := by decide
  have e2 : (2 : Nat) ^ 8 = 256 := by decide
  rw [e1, e2]; omega

theorem pos_decN {a : Nat} (h : a < 2139095040) (h0 : a ≠ 0) (tell : Nat → Nat → Nat × Int) : decOf 23 8 tell a = decA false (tell (a / 2 ^ 23) (a % 2 ^ 23)).1 (tell (a / 2 ^ 23) (a % 2 ^ 23)).2 := by
  have e1 : (2 : Nat) ^ 23 = 8388608 := by decide
  obtain ⟨g1, g2, g3⟩ := pos_fieldsN h
  unfold decOf
  rw [g1, g3, if_neg (by rw [show (2 : Nat) ^ 8 = 256 by decide]; omega), if_neg (by rw [e1]; omega)]
  rfl

theorem zero_decN (tell : Nat → Nat → Nat × Int) : decOf 23 8 tell 0 = ⟨0, false, [], 0⟩ := by
  unfold decOf
  rw [if_neg (by decide), if_pos (by decide)]
  rfl

theorem fNum_posN {a : Nat} (h0 : a ≠ 0) : fNum 23 (a / 2 ^ 23) (a % 2 ^ 23) ≠ 0 := by
  have e1 : (2 : Nat) ^ 23 = 8388608 := by decide
  unfold fNum
  rw [e1]
  split <;> omega

theorem fPow_boundsN {a : Nat} (h : a < 2139095040) : -149 ≤ fPow 149 (a / 2 ^ 23) ∧ fPow 149 (a / 2 ^ 23) ≤ 104 := by
  have := (pos_fieldsN h).2.1
  unfold fPow; split <;> omega

theorem val_exN {a : Nat} (h : a < 2139095040) : valD (ex32D a) = 4 * fAmtN a * T0N := by
  by_cases h0 : a = 0
  · subst h0
    have : fAmtN 0 = 0 := by decide +kernel
    rw [valD_nil (by rw [show ex32D 0 = _ from zero_decN _]), this, Nat.mul_zero, Nat.zero_mul]
  · have hb := fPow_boundsN h
    have hp := p2N_pos (fPow 149 (a / 2 ^ 23))
    have hE : -1100 ≤ p2E (fPow 149 (a / 2 ^ 23)) := by unfold p2E; split <;> omega
    rw [show ex32D a = _ from pos_decN h h0 _, val_decA false (N := (allD 23 149 (a / 2 ^ 23) (a % 2 ^ 23)).1) (e := (allD 23 149 (a / 2 ^ 23) (a % 2 ^ 23)).2) (Nat.mul_ne_zero (fNum_posN h0) (by omega)) hE]
    show fNum 23 (a / 2 ^ 23) (a % 2 ^ 23) * p2N (fPow 149 (a / 2 ^ 23)) * 10 ^ (p2E (fPow 149 (a / 2 ^ 23)) + 1100).toNat = _
    rw [Nat.mul_assoc]
    show fNum 23 (a / 2 ^ 23) (a % 2 ^ 23) * Tn (fPow 149 (a / 2 ^ 23)) = _
    rw [fPow_natN, Tn_powN, Nat.pow_add]
    unfold fAmtN T0N
    rw [show (2 : Nat) ^ 2 = 4 by decide]
    generalize fNum 23 (a / 2 ^ 23) (a % 2 ^ 23) = A
    generalize 2 ^ (a / 2 ^ 23 - 1) = B
    simp only [Nat.mul_comm, Nat.mul_assoc]

/-- The fewest digits lie from midway below to midway above, and at an end only of an even float. -/
theorem val_ofN {a : Nat} (h : a < 2139095040) :
    (2 * valD (of32D a) ≤ (4 * fAmtN a + 4 * fAmtN (a + 1)) * T0N ∧ (2 * valD (of32D a) = (4 * fAmtN a + 4 * fAmtN (a + 1)) * T0N → a % 2 = 0)) ∧
    (a ≠ 0 → (4 * fAmtN (a - 1) + 4 * fAmtN a) * T0N ≤ 2 * valD (of32D a) ∧ ((4 * fAmtN (a - 1) + 4 * fAmtN a) * T0N = 2 * valD (of32D a) → a % 2 = 0)) := by
  obtain ⟨T, hTe⟩ : ∃ T, T = T0N := ⟨_, rfl⟩
  have hT : 0 < T := by rw [hTe]; exact T0_posN
  rw [← hTe]
  by_cases h0 : a = 0
  · subst h0
    have hz : valD (of32D 0) = 0 := valD_nil (by rw [show of32D 0 = _ from zero_decN _])
    rw [hz]
    exact ⟨⟨by omega, fun _ => rfl⟩, fun e => absurd rfl e⟩
  · have e1 : (2 : Nat) ^ 23 = 8388608 := by decide
    have hb := fPow_boundsN h
    obtain ⟨x, hx⟩ : ∃ x, x = a / 2 ^ 23 := ⟨_, rfl⟩
    obtain ⟨m, hm⟩ : ∃ m, m = a % 2 ^ 23 := ⟨_, rfl⟩
    have hm2 : m < 2 ^ 23 := by rw [hm]; exact Nat.mod_lt _ (by omega)
    have hnum := fNum_posN h0
    have hs := fAmt_succN a
    have hs' := fAmt_succN (a - 1)
    rw [show a - 1 + 1 = a by omega] at hs'
    have hdec := pos_decN h h0 (fewD 23 149)
    have hAm : fAmtN a = fNum 23 x m * 2 ^ (x - 1) := by rw [hx, hm]; rfl
    rw [← hx] at hb hs hdec hnum
    rw [← hm] at hdec hnum
    have g := nearOf_good (F := 23) (B := 149) (x := x) (m := m) (by omega) hm2
    have ha0 : (nearOf 23 149 x m).amt ≠ 0 := by
      have := p2N_pos (fPow 149 x - 2)
      exact Nat.mul_ne_zero (by omega) (by omega)
    rcases hf : fewN (nearOf 23 149 x m) (sizeN (nearOf 23 149 x m).amt) with ⟨v, p⟩
    obtain ⟨b1, b2, b3, b4, b5, _, _⟩ := few_bound g ha0 hf
    have near := pick_near b4
    have hclo : ∀ {d far : Nat}, heldN (nearOf 23 149 x m).clo d far = true → d = far → m % 2 = 0 := by
      intro d far hh e
      subst e
      unfold heldN at hh
      simp at hh
      simpa [nearOf] using hh
    -- at an end only if the ends belong to it
    have tie : (v * 10 ^ p ≤ (nearOf 23 149 x m).amt ∧ (nearOf 23 149 x m).amt - v * 10 ^ p = (nearOf 23 149 x m).lo → m % 2 = 0) ∧ ((nearOf 23 149 x m).amt ≤ v * 10 ^ p ∧ v * 10 ^ p - (nearOf 23 149 x m).amt = (nearOf 23 149 x m).hi → m % 2 = 0) := by
      have hp : 0 < 10 ^ p := Nat.pow_pos (by omega)
      have hdm := Nat.div_add_mod (nearOf 23 149 x m).amt (10 ^ p)
      have hlt := Nat.mod_lt (nearOf 23 149 x m).amt hp
      have hlo := g.pos
      have hhi := g.le
      unfold pickAt pickN at b4
      split at b4
      · next hc =>
        obtain rfl : (nearOf 23 149 x m).amt / 10 ^ p = v := by simpa using b4
        rw [Nat.mul_comm ((nearOf 23 149 x m).amt / 10 ^ p)]
        refine ⟨fun e => hclo hc.1 (by omega), fun e => ?_⟩
        exfalso; omega
      · split at b4
        · next hc =>
          obtain rfl : (nearOf 23 149 x m).amt / 10 ^ p + 1 = v := by simpa using b4
          rw [Nat.add_mul, Nat.one_mul, Nat.mul_comm ((nearOf 23 149 x m).amt / 10 ^ p)]
          refine ⟨fun e => ?_, fun e => hclo hc (by omega)⟩
          exfalso; omega
        · cases b4
    have par : m % 2 = a % 2 := by rw [hm, e1]; omega
    have e : fewD 23 149 x m = (v, p2E (fPow 149 x - 2) + (p : Nat)) := by unfold fewD; rw [hf]
    have hE : -1100 ≤ p2E (fPow 149 x - 2) := by unfold p2E; split <;> omega
    obtain ⟨t, ht⟩ : ∃ t, t = 10 ^ (p2E (fPow 149 x - 2) + 1100).toNat := ⟨_, rfl⟩
    have ht0 : 0 < t := by rw [ht]; exact Nat.pow_pos (by omega)
    have hval : valD (of32D a) = v * 10 ^ p * t := by
      rw [show of32D a = _ from hdec, e, val_decA false (by omega) (by omega), ht, Nat.mul_assoc, ← Nat.pow_add]
      congr 2
      omega
    -- the quarter, in these units
    have hq : p2N (fPow 149 x - 2) * t = 2 ^ (x - 1) * T := by
      have h1 : Tn (fPow 149 x - 2) = 2 ^ (x - 1) * Tn (-151) := by rw [← Tn_powN]; congr 1; have := fPow_natN x; omega
      rw [ht, hTe]; exact h1
    obtain ⟨Q, hQ⟩ : ∃ Q, Q = 2 ^ (x - 1) := ⟨_, rfl⟩
    rw [← hQ] at hs hAm hq
    have A1 : (nearOf 23 149 x m).amt * t = 4 * fAmtN a * T := by
      show p2N (fPow 149 x - 2) * (fNum 23 x m * 4) * t = _
      rw [Nat.mul_right_comm, hq, hAm]
      simp only [Nat.mul_comm, Nat.mul_left_comm, Nat.mul_assoc]
    have H1 : (nearOf 23 149 x m).hi * t = 2 * Q * T := by
      show p2N (fPow 149 x - 2) * 2 * t = _
      rw [Nat.mul_right_comm, hq]
      simp only [Nat.mul_comm, Nat.mul_assoc]
    -- the step down
    have L1 : 2 * ((nearOf 23 149 x m).lo * t) = 4 * 2 ^ ((a - 1) / 2 ^ 23 - 1) * T := by
      show 2 * ((if m = 0 ∧ 1 < x then p2N (fPow 149 x - 2) else p2N (fPow 149 x - 2) * 2) * t) = _
      by_cases hc : m = 0 ∧ 1 < x
      · rw [if_pos hc, hq, hQ]
        have h1 : (a - 1) / 2 ^ 23 = x - 1 := by rw [e1] at *; omega
        rw [h1]
        obtain ⟨i, hi⟩ : ∃ i, x = i + 2 := ⟨x - 2, by omega⟩
        rw [hi, show i + 2 - 1 = i + 1 by omega, show i + 1 - 1 = i by omega, Nat.pow_succ]
        generalize 2 ^ i = R
        have i1 : R * 2 * T = 2 * (R * T) := by rw [Nat.mul_comm R 2, Nat.mul_assoc]
        have i2 : 4 * R * T = 4 * (R * T) := Nat.mul_assoc _ _ _
        omega
      · rw [if_neg hc, Nat.mul_right_comm, hq, hQ]
        have h1 : (a - 1) / 2 ^ 23 - 1 = x - 1 := by rw [e1] at *; omega
        rw [h1, Nat.mul_assoc 4]
        generalize 2 ^ (x - 1) * T = R
        omega
    obtain ⟨q', hq'⟩ : ∃ q', q' = 2 ^ ((a - 1) / 2 ^ 23 - 1) := ⟨_, rfl⟩
    rw [← hq'] at hs' L1
    obtain ⟨V, hV⟩ : ∃ V, V = v * 10 ^ p := ⟨_, rfl⟩
    rw [← hV] at near tie hval
    obtain ⟨n, hn⟩ : ∃ n, n = nearOf 23 149 x m := ⟨_, rfl⟩
    rw [← hn] at near tie A1 H1 L1
    -- multiplied out
    have s1 : (4 * fAmtN a + 4 * fAmtN (a + 1)) * T = 2 * (n.amt * t) + 2 * (n.hi * t) := by
      rw [hs, A1, H1, Nat.mul_add 4, Nat.add_mul, Nat.add_mul]
      generalize fAmtN a = X
      have i1 : 2 * Q * T = 2 * (Q * T) := Nat.mul_assoc _ _ _
      have i2 : 4 * Q * T = 4 * (Q * T) := Nat.mul_assoc _ _ _
      omega
    have s2 : (4 * fAmtN (a - 1) + 4 * fAmtN a) * T + 2 * (n.lo * t) = 2 * (n.amt * t) := by
      rw [L1, A1, hs', Nat.mul_add 4, Nat.add_mul, Nat.add_mul]
      generalize fAmtN (a - 1) = X
      omega
    rw [hval, s1]
    have cmpT : ∀ y z : Nat, y ≤ z ↔ y * t ≤ z * t := fun y z => ⟨fun hh => Nat.mul_le_mul_right _ hh, fun hh => Nat.le_of_mul_le_mul_right hh ht0⟩
    have eqT : ∀ y z : Nat, y * t = z * t → y = z := fun y z hh => Nat.eq_of_mul_eq_mul_right ht0 hh
    have up : V ≤ n.amt + n.hi ∧ (V = n.amt + n.hi → m % 2 = 0) := by
      refine ⟨by omega, fun hh => ?_⟩
      exact tie.2 ⟨by omega, by omega⟩
    have dn : n.amt ≤ V + n.lo ∧ (n.amt = V + n.lo → m % 2 = 0) := by
      refine ⟨by omega, fun hh => ?_⟩
      exact tie.1 ⟨by omega, by omega⟩
    have u1 := (cmpT _ _).1 up.1
    have u2 := (cmpT _ _).1 dn.1
    rw [Nat.add_mul] at u1 u2
    refine ⟨⟨by omega, fun hh => ?_⟩, fun _ => ⟨by omega, fun hh => ?_⟩⟩
    · rw [← par]
      apply up.2
      apply eqT
      rw [Nat.add_mul]; omega
    · rw [← par]
      apply dn.2
      apply eqT
      rw [Nat.add_mul]; omega

/-- The fewest digits stand as their floats do. -/
theorem of_ltN {a b : Nat} (h : a < b) (hb : b < 2139095040) : valD (of32D a) < valD (of32D b) := by
  have hT := T0_posN
  obtain ⟨⟨u1, u2⟩, _⟩ := val_ofN (a := a) (by omega)
  obtain ⟨_, l⟩ := val_ofN hb
  obtain ⟨l1, l2⟩ := l (by omega)
  have m1 := fAmt_monoN (show a + 1 ≤ b from h)
  have m2 := fAmt_monoN (show a ≤ b - 1 by omega)
  have k1 : (4 * fAmtN a + 4 * fAmtN (a + 1)) * T0N ≤ (4 * fAmtN (b - 1) + 4 * fAmtN b) * T0N := Nat.mul_le_mul_right _ (by omega)
  rcases Nat.lt_or_ge (valD (of32D a)) (valD (of32D b)) with hh | hh
  · exact hh
  · exfalso
    have q1 := u2 (by omega)
    have q2 := l2 (by omega)
    have k2 : (4 * fAmtN a + 4 * fAmtN (a + 1)) * T0N = (4 * fAmtN (b - 1) + 4 * fAmtN b) * T0N := by omega
    have k3 := Nat.eq_of_mul_eq_mul_right hT k2
    have k4 : a + 1 = b := by
      rcases Nat.lt_or_ge (a + 1) b with h3 | h3
      · have := fAmt_ltN h3; omega
      · omega
    omega

theorem ex_ltN {a b : Nat} (h : a < b) (hb : b < 2139095040) : valD (ex32D a) < valD (ex32D b) := by
  have hT := T0_posN
  rw [val_exN (by omega), val_exN hb]
  have := fAmt_ltN h
  exact Nat.mul_lt_mul_of_pos_right (by omega) hT

end Go.Proofs.YtpiloigpncbccabGreatDoor
