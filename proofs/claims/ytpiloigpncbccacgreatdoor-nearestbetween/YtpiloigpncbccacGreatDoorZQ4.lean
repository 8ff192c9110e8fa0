/-
  Plain mathematics: a number between two neighbouring floats is read as the nearer one, midway as the even one.
  Plain mathematics: what NearestBetween's numbers are.
-/
import Derived.Test.YtpiloigpncbccacGreatDoorZNM
import Derived.Test.YtpiloigpncbccacGreatDoorZSR
import Derived.Test.YtpiloigpncbccacGreatDoorZNF
namespace Go.Proofs.YtpiloigpncbccacGreatDoor

/-- The float that a number at so many hundredths of the way from a to the next one is read as. -/
def wantN (a part : Nat) : Nat := if 50 < part ∨ (part = 50 ∧ a % 2 = 1) then a + 1 else a

theorem between_lies {a part p : Nat} (h : a + 1 < 9218868437227405312) (hpart : part ≤ 100) (hp : 100 * p = ((100 - part) * fAmt a + part * fAmt (a + 1)) * (4 * T0)) : Lies 52 (infN 52 11) (wantN a part) p (4 * T0) := by
  have hT : 0 < 4 * T0 := by have := T0_pos; omega
  generalize 4 * T0 = q at *
  have m1 := fAmt_lt (show a < a + 1 by omega)
  have m2 := fAmt_lt (show a + 1 < a + 1 + 1 by omega)
  have m0 : a ≠ 0 → fAmt (a - 1) < fAmt a := fun h0 => fAmt_lt (by omega)
  obtain ⟨D, hD⟩ : ∃ D, fAmt (a + 1) = fAmt a + D := ⟨fAmt (a + 1) - fAmt a, by omega⟩
  have hp2 : 100 * p = 100 * (fAmt a * q) + part * (D * q) := by
    rw [hp, hD, Nat.mul_add part, ← Nat.add_assoc, ← Nat.add_mul, show 100 - part + part = 100 by omega, Nat.add_mul, Nat.mul_assoc, Nat.mul_assoc]
  have hDq : 0 < D * q := Nat.mul_pos (by omega) hT
  have hI : infN 52 11 = 9218868437227405312 := inf64
  generalize hA : fAmt a = A at *
  have key : ∀ c : Nat, part ≤ c → part * (D * q) ≤ c * (D * q) := fun c hc => Nat.mul_le_mul_right _ hc
  have key2 : ∀ c : Nat, c ≤ part → c * (D * q) ≤ part * (D * q) := fun c hc => Nat.mul_le_mul_right _ hc
  unfold wantN
  split
  · next hc =>
    have k1 := key2 50 (by omega)
    have k2 := key 100 hpart
    refine ⟨by omega, fun _ => ?_, fun _ => ?_⟩
    · show (fAmt (a + 1 - 1) + fAmt (a + 1)) * q ≤ _ ∧ ((fAmt (a + 1 - 1) + fAmt (a + 1)) * q = _ → _)
      rw [Nat.add_sub_cancel, hA, hD, Nat.add_mul, Nat.add_mul]
      refine ⟨by omega, fun e => ?_⟩
      rcases hc with hc | hc
      · exfalso
        have k3 := key2 51 (by omega)
        omega
      · omega
    · show _ ≤ (fAmt (a + 1) + fAmt (a + 1 + 1)) * q ∧ (_ = (fAmt (a + 1) + fAmt (a + 1 + 1)) * q → _)
      have k3 := Nat.mul_lt_mul_of_pos_right m2 hT
      rw [hD, Nat.add_mul] at k3
      rw [Nat.add_mul, hD, Nat.add_mul]
      exact ⟨by omega, fun e => by omega⟩
  · next hc =>
    have k1 := key 50 (by omega)
    refine ⟨by omega, fun h0 => ?_, fun _ => ?_⟩
    · show (fAmt (a - 1) + fAmt a) * q ≤ _ ∧ ((fAmt (a - 1) + fAmt a) * q = _ → _)
      have k3 := Nat.mul_lt_mul_of_pos_right (m0 h0) hT
      rw [Nat.add_mul, hA]
      exact ⟨by omega, fun e => by omega⟩
    · show _ ≤ (fAmt a + fAmt (a + 1)) * q ∧ (_ = (fAmt a + fAmt (a + 1)) * q → _)
      rw [hA, hD, Nat.add_mul, Nat.add_mul]
      refine ⟨by omega, fun e => ?_⟩
      by_cases h50 : part = 50
      · omega
      · exfalso
        have k3 := key 49 (by omega)
        omega

/-- What is read of the Dec that lies so many hundredths of the way. -/
theorem between_to {a part z : Nat} {u : Int} (h : a + 1 < 9218868437227405312) (hpart : part ≤ 100) (hu : -1100 ≤ u) (h1 : u + 2 ≤ (ex64D a).exp) (h2 : u + 2 ≤ (ex64D (a + 1)).exp)
    (hz : z = numD (ex64D a) u + (numD (ex64D (a + 1)) u - numD (ex64D a) u) / 100 * part) : toD 52 11 1074 (decZ false z u) = wantN a part := by
  obtain ⟨t, ht⟩ : ∃ t, t = 10 ^ (u + 1100).toNat := ⟨_, rfl⟩
  have v1 := numD_val (d := ex64D a) (u := u) hu (by omega)
  have v2 := numD_val (d := ex64D (a + 1)) (u := u) hu (by omega)
  rw [val_ex (by omega), ← ht] at v1
  rw [val_ex h, ← ht] at v2
  have hund : ∀ d : DecT, u + 2 ≤ d.exp → 100 ∣ numD d u := by
    intro d hd
    refine ⟨decV d.dig * 10 ^ (d.exp - u - 2).toNat, ?_⟩
    unfold numD
    rw [show (d.exp - u).toNat = 2 + (d.exp - u - 2).toNat by omega, Nat.pow_add, Nat.mul_left_comm]
  obtain ⟨x, hx⟩ := hund _ h1
  obtain ⟨y, hy⟩ := hund _ h2
  rw [hx] at v1 hz
  rw [hy] at v2 hz
  have hlt := fAmt_lt (show a < a + 1 by omega)
  have ht0 : 0 < t := by rw [ht]; exact Nat.pow_pos (by omega)
  have hxy : x ≤ y := by
    have k := Nat.mul_le_mul_right T0 (show 4 * fAmt a ≤ 4 * fAmt (a + 1) by omega)
    rw [v1, v2, Nat.mul_assoc, Nat.mul_assoc] at k
    have k2 := Nat.le_of_mul_le_mul_left k (by omega : 0 < 100)
    exact Nat.le_of_mul_le_mul_right k2 ht0
  have hz2 : z = 100 * x + (y - x) * part := by
    rw [hz, ← Nat.mul_sub, Nat.mul_div_cancel_left _ (by omega)]
  have hp : 100 * (z * t) = ((100 - part) * fAmt a + part * fAmt (a + 1)) * (4 * T0) := by
    have c : ∀ k f : Nat, k * f * (4 * T0) = k * (4 * f * T0) := fun k f => by
      rw [Nat.mul_assoc, Nat.mul_comm 4 f, Nat.mul_assoc]
    rw [Nat.add_mul, c, c, v1, v2, hz2]
    obtain ⟨d, rfl⟩ : ∃ d, y = x + d := ⟨y - x, by omega⟩
    obtain ⟨r, hr⟩ : ∃ r, 100 = part + r := ⟨100 - part, by omega⟩
    rw [Nat.add_sub_cancel_left, show 100 - part = r by omega]
    have f1 : r * (100 * x * t) + part * (100 * (x + d) * t) = 100 * ((r + part) * (x * t) + part * (d * t)) := by
      simp only [Nat.mul_add, Nat.add_mul, Nat.mul_assoc, Nat.mul_left_comm]
      omega
    rw [f1, show r + part = 100 by omega, Nat.add_mul, Nat.mul_assoc 100 x t, Nat.mul_assoc d, Nat.mul_comm part t, Nat.mul_left_comm part, Nat.mul_comm part t]
  have hl := between_lies (p := z * t) h hpart hp
  by_cases hz0 : z = 0
  · subst hz0
    have e : decZ false 0 u = ⟨0, false, [], 0⟩ := if_pos rfl
    rw [e, show toD 52 11 1074 ⟨0, false, [], 0⟩ = 0 from rfl]
    -- the nearest of nought is nought
    rw [Nat.zero_mul] at hl
    rcases Nat.eq_zero_or_pos (wantN a part) with hw | hw
    · exact hw.symm
    · exfalso
      have l1 := (hl.lo (by omega)).1
      have m := fA_lt (F := 52) (show wantN a part - 1 < wantN a part by omega)
      have hT : 0 < 4 * T0 := by have := T0_pos; omega
      have := Nat.mul_pos (show 0 < fA 52 (wantN a part - 1) + fA 52 (wantN a part) by omega) hT
      omega
  · have e : decZ false z u = decA false z u := if_neg hz0
    rw [e, toD_decA false (by omega) (by rw [inf64]) t0_ten T0_pos hz0 hu (by rw [val_decA false hz0 hu, ← ht]; exact hl)]
    rfl

end Go.Proofs.YtpiloigpncbccacGreatDoor

namespace Go.Proofs.YtpiloigpncbccacGreatDoor

theorem ex_exp {a : Nat} (h : a < 9218868437227405312) : -1074 ≤ (ex64D a).exp := by
  by_cases h0 : a = 0
  · subst h0
    rw [show ex64D 0 = _ from zero_dec _]
    simp
  · rw [show ex64D a = _ from pos_dec h h0 _]
    have hb := fPow_bounds h
    have h1 : -1074 ≤ (allD 52 1074 (a / 2 ^ 52) (a % 2 ^ 52)).2 := by unfold allD p2E; simp only; split <;> omega
    have h2 := (decA_dig (neg := false) (e := (allD 52 1074 (a / 2 ^ 52) (a % 2 ^ 52)).2) (all_ne (B := 1074) (fNum_pos h0))).2.2.1
    omega

theorem ex_formed {a : Nat} (h : a < 9218868437227405312) : Formed (ex64D a) 767 := by
  obtain ⟨_, g2, _⟩ := pos_fields h
  by_cases h0 : a = 0
  · subst h0
    rw [show ex64D 0 = _ from zero_dec _]
    exact ⟨rfl, Nat.zero_le _, fun k hk => by simp at hk, fun _ => rfl, fun h => absurd rfl h⟩
  · have e1 : (2 : Nat) ^ 52 = 4503599627370496 := by decide
    have hm : a % 2 ^ 52 < 2 ^ 52 := Nat.mod_lt _ (by omega)
    have hb := fPow_bounds h
    rw [show ex64D a = _ from pos_dec h h0 _]
    exact (allD_formed _ (by omega) hm (by rw [e1]; omega) hb.1 hb.2).1

theorem fAmt_twice {a : Nat} (h : a ≠ 0) : fAmt (a + 1) ≤ 2 * fAmt a := by
  have h1 := fAmt_succ a
  have h2 : 2 ^ (a / 2 ^ 52 - 1) ≤ fAmt a := by
    show _ ≤ fNum 52 (a / 2 ^ 52) (a % 2 ^ 52) * 2 ^ (a / 2 ^ 52 - 1)
    exact Nat.le_mul_of_pos_left _ (Nat.pos_of_ne_zero (fNum_pos h))
  omega

theorem least_exp : (ex64D (0 + 1)).exp ≤ 0 := by
  have hv := val_ex (a := 0 + 1) (by omega)
  have h1 : fAmt (0 + 1) = 1 := by decide +kernel
  rw [h1, Nat.mul_one] at hv
  have hT := t0_ten
  have hT0 := T0_pos
  obtain ⟨E, hE⟩ : ∃ E, E = 1100 := ⟨_, rfl⟩
  obtain ⟨B, hB⟩ : ∃ B, B = 1074 := ⟨_, rfl⟩
  rw [← hE, ← hB] at hT
  unfold powT at hT
  have h4 : 4 * T0 ≤ 10 ^ E := by rw [← hT]; exact Nat.le_mul_of_pos_left _ (Nat.pow_pos (by omega))
  rcases Int.lt_or_le 0 (ex64D (0 + 1)).exp with h | h
  · exfalso
    have hx : valD (ex64D (0 + 1)) = decV (ex64D (0 + 1)).dig * 10 ^ ((ex64D (0 + 1)).exp + 1100).toNat := rfl
    obtain ⟨k, hk⟩ : ∃ k, ((ex64D (0 + 1)).exp + 1100).toNat = E + 1 + k := ⟨((ex64D (0 + 1)).exp + 1100).toNat - E - 1, by omega⟩
    rw [hk] at hx
    have hd : 1 ≤ decV (ex64D (0 + 1)).dig := by
      rcases Nat.eq_zero_or_pos (decV (ex64D (0 + 1)).dig) with e | e
      · rw [e, Nat.zero_mul] at hx; omega
      · exact e
    have h5 : 1 * 10 ^ (E + 1 + k) ≤ decV (ex64D (0 + 1)).dig * 10 ^ (E + 1 + k) := Nat.mul_le_mul_right _ hd
    have h6 : 10 ^ (E + 1) ≤ 10 ^ (E + 1 + k) := Nat.pow_le_pow_right (by omega) (by omega)
    have h7 : 0 < 10 ^ E := Nat.pow_pos (by omega)
    rw [Nat.pow_succ] at h6
    omega
  · exact h

/-- The numbers that NearestBetween reckons with. -/
theorem between_data {a : Nat} (h : a + 1 < 9218868437227405312) {u : Int} (hu : u = min (ex64D a).exp (ex64D (a + 1)).exp - 2) :
    -1076 ≤ u ∧ u ≤ 400 ∧ (ex64D a).exp - u ≤ 1900 ∧ (ex64D (a + 1)).exp - u ≤ 1900 ∧ numD (ex64D a) u < numD (ex64D (a + 1)) u ∧ ∃ j, j ≤ 771 ∧ numD (ex64D (a + 1)) u < 10 ^ j := by
  have x0 := ex_exp (a := a) (by omega)
  have x1 := ex_exp h
  have f0 := ex_formed (a := a) (by omega)
  have f1 := ex_formed h
  have p0 : (ex64D a).exp ≤ 400 := by
    by_cases e : (ex64D a).dig = []
    · rw [f0.nil e]; omega
    · exact (f0.cons e).2.2.2
  have p1 : (ex64D (a + 1)).exp ≤ 400 := by
    by_cases e : (ex64D (a + 1)).dig = []
    · rw [f1.nil e]; omega
    · exact (f1.cons e).2.2.2
  have hu1 : -1100 ≤ u := by omega
  have v0 := numD_val (d := ex64D a) (u := u) hu1 (by omega)
  have v1 := numD_val (d := ex64D (a + 1)) (u := u) hu1 (by omega)
  obtain ⟨t, ht⟩ : ∃ t, t = 10 ^ (u + 1100).toNat := ⟨_, rfl⟩
  have ht0 : 0 < t := by rw [ht]; exact Nat.pow_pos (by omega)
  rw [← ht] at v0 v1
  have hlt : numD (ex64D a) u < numD (ex64D (a + 1)) u := by
    have := ex_lt (a := a) (b := a + 1) (by omega) h
    rw [v0, v1] at this
    exact Nat.lt_of_mul_lt_mul_right this
  obtain ⟨K, hK⟩ : ∃ K, K = 767 := ⟨_, rfl⟩
  rw [← hK] at f0 f1
  have short : ∀ d : DecT, Formed d K → d.exp - u = 2 → numD d u < 10 ^ K * 100 := by
    intro d f hd
    have hl := decV_lt _ d.dig rfl f.dig
    unfold numD
    rw [hd, show (2 : Int).toNat = 2 from rfl, show (10 : Nat) ^ 2 = 100 from rfl]
    exact Nat.mul_lt_mul_of_pos_right (Nat.lt_of_lt_of_le hl (Nat.pow_le_pow_right (by omega) f.len)) (by decide)
  refine ⟨by omega, by omega, by omega, by omega, hlt, K + 3, by omega, ?_⟩
  rw [Nat.pow_add, show (10 : Nat) ^ 3 = 1000 from rfl]
  by_cases hc : (ex64D (a + 1)).exp ≤ (ex64D a).exp
  · have := short _ f1 (by omega)
    omega
  · have h0 : a ≠ 0 := by
      intro h0
      subst h0
      have : (ex64D 0).exp = 0 := by rw [show ex64D 0 = _ from zero_dec _]
      have h2 : (ex64D (0 + 1)).exp ≤ 0 := least_exp
      omega
    have hs := short _ f0 (by omega)
    have h2 := fAmt_twice h0
    have h3 : numD (ex64D (a + 1)) u ≤ 2 * numD (ex64D a) u := by
      apply Nat.le_of_mul_le_mul_right (c := t) _ ht0
      rw [Nat.mul_assoc, ← v0, ← v1, val_ex (a := a) (by omega), val_ex h]
      have := Nat.mul_le_mul_right (4 * T0) h2
      have e : ∀ x, 4 * x * T0 = x * (4 * T0) := fun x => by rw [Nat.mul_comm 4 x, Nat.mul_assoc]
      rw [e, e, ← Nat.mul_assoc 2]
      exact this
    omega

end Go.Proofs.YtpiloigpncbccacGreatDoor
