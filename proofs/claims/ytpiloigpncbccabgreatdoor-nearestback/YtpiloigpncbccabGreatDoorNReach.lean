/-
  Plain mathematics: the float that an amount is nearest to, midway the even one; there is just one; what is rounded in steps and joined is it.
-/
import Derived.Test.YtpiloigpncbccabGreatDoorZSM
namespace Go.Proofs.YtpiloigpncbccabGreatDoor

/-- A float's amount, in steps of the least one. -/
def fA (F a : Nat) : Nat := fNum F (a / 2 ^ F) (a % 2 ^ F) * 2 ^ (a / 2 ^ F - 1)

theorem fA_at {F x m : Nat} (hm : m < 2 ^ F) : fA F (x * 2 ^ F + m) = fNum F x m * 2 ^ (x - 1) := by
  have hK : 0 < 2 ^ F := Nat.pow_pos (by omega)
  have h1 : (x * 2 ^ F + m) / 2 ^ F = x := by
    rw [Nat.mul_comm, Nat.mul_add_div hK, Nat.div_eq_of_lt hm, Nat.add_zero]
  have h2 : (x * 2 ^ F + m) % 2 ^ F = m := by
    rw [Nat.mul_comm, Nat.mul_add_mod, Nat.mod_eq_of_lt hm]
  unfold fA; rw [h1, h2]

theorem split_at (F a : Nat) : ∃ x m, m < 2 ^ F ∧ a = x * 2 ^ F + m ∧ a / 2 ^ F = x :=
  ⟨a / 2 ^ F, a % 2 ^ F, Nat.mod_lt _ (Nat.pow_pos (by omega)), by have := Nat.div_add_mod a (2 ^ F); rw [Nat.mul_comm] at this; exact this.symm, rfl⟩

theorem fA_succ (F a : Nat) : fA F (a + 1) = fA F a + 2 ^ (a / 2 ^ F - 1) := by
  obtain ⟨x, m, hm, ha, hx⟩ := split_at F a
  rw [hx, ha, fA_at hm]
  by_cases h : m + 1 < 2 ^ F
  · rw [Nat.add_assoc, fA_at h]
    unfold fNum
    split
    · rw [Nat.add_mul, Nat.one_mul]
    · rw [← Nat.add_assoc, Nat.add_mul _ 1, Nat.one_mul]
  · have e : x * 2 ^ F + m + 1 = (x + 1) * 2 ^ F + 0 := by rw [Nat.add_mul, Nat.one_mul]; omega
    rw [e, fA_at (by omega)]
    unfold fNum
    rw [if_neg (by omega), Nat.add_zero, Nat.add_sub_cancel]
    by_cases h0 : x = 0
    · subst h0
      rw [if_pos rfl]; simp; omega
    · rw [if_neg h0]
      obtain ⟨i, rfl⟩ : ∃ i, x = i + 1 := ⟨x - 1, by omega⟩
      rw [Nat.add_sub_cancel, Nat.pow_succ, show 2 ^ F + m = 2 * 2 ^ F - 1 by omega, Nat.sub_mul, Nat.one_mul]
      have : 0 < 2 ^ F * 2 ^ i := Nat.mul_pos (Nat.pow_pos (by omega)) (Nat.pow_pos (by omega))
      have h2 : 2 ^ i ≤ 2 * 2 ^ F * 2 ^ i := Nat.le_mul_of_pos_left _ (by omega)
      rw [Nat.sub_add_cancel h2, ← Nat.mul_assoc, Nat.mul_comm (2 ^ F * 2 ^ i) 2, Nat.mul_assoc]

theorem fA_mono {F a b : Nat} (h : a ≤ b) : fA F a ≤ fA F b := by
  induction b with
  | zero => rw [show a = 0 by omega]; exact Nat.le_refl _
  | succ b ih =>
    by_cases e : a = b + 1
    · rw [e]; exact Nat.le_refl _
    · have := ih (by omega)
      rw [fA_succ]; exact Nat.le_trans this (Nat.le_add_right _ _)

theorem fA_lt {F a b : Nat} (h : a < b) : fA F a < fA F b := by
  have h1 := fA_mono (F := F) (show a + 1 ≤ b from h)
  have h2 := fA_succ F a
  have h3 : 0 < 2 ^ (a / 2 ^ F - 1) := Nat.pow_pos (by omega)
  omega

/-- The amount p/q, in steps of the least float, is nearest to the float b, of those up to I; midway it is the even one's. -/
structure Lies (F I b p q : Nat) : Prop where
  le : b ≤ I
  lo : b ≠ 0 → (fA F (b - 1) + fA F b) * q ≤ 2 * p ∧ ((fA F (b - 1) + fA F b) * q = 2 * p → b % 2 = 0)
  hi : b ≠ I → 2 * p ≤ (fA F b + fA F (b + 1)) * q ∧ (2 * p = (fA F b + fA F (b + 1)) * q → b % 2 = 0)

theorem Lies.mono {F I b p q b' p' q' : Nat} (h : Lies F I b p q) (h' : Lies F I b' p' q') (hq : 0 < q) (hq' : 0 < q') (hpq : p * q' ≤ p' * q) : b ≤ b' := by
  rcases Nat.lt_or_ge b' b with hlt | hge
  · exfalso
    obtain ⟨l1, l2⟩ := h.lo (by omega)
    have := h.le
    obtain ⟨u1, u2⟩ := h'.hi (by omega)
    have m1 := fA_mono (F := F) (show b' ≤ b - 1 by omega)
    have m2 := fA_mono (F := F) (show b' + 1 ≤ b by omega)
    have a1 := Nat.mul_le_mul_right q' l1
    have a2 := Nat.mul_le_mul_right q u1
    have a3 : (fA F b' + fA F (b' + 1)) * (q * q') ≤ (fA F (b - 1) + fA F b) * (q * q') := Nat.mul_le_mul_right _ (by omega)
    have e1 : (fA F (b - 1) + fA F b) * q * q' = (fA F (b - 1) + fA F b) * (q * q') := Nat.mul_assoc _ _ _
    have e2 : (fA F b' + fA F (b' + 1)) * q' * q = (fA F b' + fA F (b' + 1)) * (q * q') := by rw [Nat.mul_assoc, Nat.mul_comm q' q]
    have e3 : 2 * p * q' = 2 * (p * q') := Nat.mul_assoc _ _ _
    have e4 : 2 * p' * q = 2 * (p' * q) := Nat.mul_assoc _ _ _
    have hqq : 0 < q * q' := Nat.mul_pos hq hq'
    have s := Nat.eq_of_mul_eq_mul_right hqq (show (fA F b' + fA F (b' + 1)) * (q * q') = (fA F (b - 1) + fA F b) * (q * q') by omega)
    have hb : b = b' + 1 := by
      rcases Nat.lt_or_ge (b' + 1) b with h3 | h3
      · have := fA_lt (F := F) h3; omega
      · omega
    have p1 := l2 (Nat.eq_of_mul_eq_mul_right hq' (by omega))
    have p2 := u2 (Nat.eq_of_mul_eq_mul_right hq (by omega))
    omega
  · exact hge

theorem Lies.uniq {F I b p q b' p' q' : Nat} (h : Lies F I b p q) (h' : Lies F I b' p' q') (hq : 0 < q) (hq' : 0 < q') (hpq : p * q' = p' * q) : b = b' :=
  Nat.le_antisymm (h.mono h' hq hq' (by omega)) (h'.mono h hq' hq (by omega))

/-- To the nearest whole number, of two as near the even one. -/
def rne (p q : Nat) : Nat := if q < 2 * (p % q) ∨ (2 * (p % q) = q ∧ p / q % 2 = 1) then p / q + 1 else p / q

theorem rne_spec {p q : Nat} (hq : 0 < q) : 2 * (rne p q * q) ≤ 2 * p + q ∧ (2 * (rne p q * q) = 2 * p + q → rne p q % 2 = 0) ∧ 2 * p ≤ 2 * (rne p q * q) + q ∧ (2 * p = 2 * (rne p q * q) + q → rne p q % 2 = 0) := by
  have h1 := Nat.div_add_mod p q
  have h2 := Nat.mod_lt p hq
  unfold rne
  split
  · next h =>
    rw [Nat.add_mul, Nat.one_mul, Nat.mul_comm (p / q) q]
    generalize q * (p / q) = z at *
    refine ⟨by omega, fun e => by omega, by omega, fun e => by omega⟩
  · next h =>
    rw [Nat.mul_comm (p / q) q]
    generalize q * (p / q) = z at *
    refine ⟨by omega, fun e => by omega, by omega, fun e => by omega⟩

theorem rne_scale {p q k : Nat} (hk : 0 < k) : rne (p * k) (q * k) = rne p q := by
  unfold rne
  rw [Nat.mul_div_mul_right _ _ hk, Nat.mul_mod_mul_right, ← Nat.mul_assoc]
  have h1 : (q * k < 2 * (p % q) * k) ↔ (q < 2 * (p % q)) := Nat.mul_lt_mul_right hk
  have h2 : (2 * (p % q) * k = q * k) ↔ (2 * (p % q) = q) := ⟨fun h => Nat.eq_of_mul_eq_mul_right hk h, fun h => by rw [h]⟩
  simp only [h1, h2]

/-- Only the ratio counts. -/
theorem rne_ratio {p q p' q' : Nat} (hq : 0 < q) (hq' : 0 < q') (h : p * q' = p' * q) : rne p q = rne p' q' := by
  rw [← rne_scale hq', h, Nat.mul_comm q q', rne_scale hq]

theorem rne_le {p q N : Nat} (hq : 0 < q) (h : p ≤ N * q) : rne p q ≤ N := by
  have s := (rne_spec (p := p) hq)
  rcases Nat.lt_or_ge N (rne p q) with hlt | hge
  · exfalso
    have a1 := Nat.mul_le_mul_right q (show N + 1 ≤ rne p q from hlt)
    rw [Nat.add_mul, Nat.one_mul] at a1
    omega
  · exact hge

theorem rne_ge {p q N : Nat} (hq : 0 < q) (h : 2 * (N * q) < 2 * p + q) : N ≤ rne p q := by
  have s := (rne_spec (p := p) hq)
  rcases Nat.lt_or_ge (rne p q) N with hlt | hge
  · exfalso
    have a1 := Nat.mul_le_mul_right q (show rne p q + 1 ≤ N from hlt)
    rw [Nat.add_mul, Nat.one_mul] at a1
    omega
  · exact hge

theorem fA_join {F s N : Nat} (h : N ≤ 2 * 2 ^ F) (hs : s ≠ 0 → 2 ^ F ≤ N) : fA F (s * 2 ^ F + N) = N * 2 ^ s := by
  have hK : 0 < 2 ^ F := Nat.pow_pos (by omega)
  by_cases h1 : N < 2 ^ F
  · have : s = 0 := by
      rcases Nat.eq_zero_or_pos s with e | e
      · exact e
      · have := hs (by omega); omega
    subst this
    rw [fA_at h1]; unfold fNum; rw [if_pos rfl]
  · by_cases h2 : N < 2 * 2 ^ F
    · rw [show s * 2 ^ F + N = (s + 1) * 2 ^ F + (N - 2 ^ F) by rw [Nat.add_mul, Nat.one_mul]; omega, fA_at (by omega)]
      unfold fNum
      rw [if_neg (by omega), Nat.add_sub_cancel, show 2 ^ F + (N - 2 ^ F) = N by omega]
    · obtain rfl : N = 2 * 2 ^ F := by omega
      rw [show s * 2 ^ F + 2 * 2 ^ F = (s + 2) * 2 ^ F + 0 by rw [Nat.add_mul]; rfl, fA_at hK]
      unfold fNum
      rw [if_neg (by omega), show s + 2 - 1 = s + 1 by omega, Nat.pow_succ, Nat.add_zero, Nat.mul_comm 2, Nat.mul_assoc, Nat.mul_comm 2]

theorem even_join {F s N : Nat} (hF : 1 ≤ F) : (s * 2 ^ F + N) % 2 = N % 2 := by
  obtain ⟨i, rfl⟩ : ∃ i, F = i + 1 := ⟨F - 1, by omega⟩
  rw [Nat.pow_succ, ← Nat.mul_assoc]; omega

/-- What is rounded in steps of 2^s, and joined, is the nearest float. -/
theorem lies_join {F I s N p q : Nat} (hF : 1 ≤ F) (hI : I % 2 = 0) (_hq : 0 < q) (h : N ≤ 2 * 2 ^ F) (hs : s ≠ 0 → 2 ^ F ≤ N)
    (r1 : 2 * (N * (q * 2 ^ s)) ≤ 2 * p + q * 2 ^ s) (r2 : 2 * (N * (q * 2 ^ s)) = 2 * p + q * 2 ^ s → N % 2 = 0) (r3 : 2 * p ≤ 2 * (N * (q * 2 ^ s)) + q * 2 ^ s) (r4 : 2 * p = 2 * (N * (q * 2 ^ s)) + q * 2 ^ s → N % 2 = 0)
    (low : s ≠ 0 → N = 2 ^ F → 4 * (N * (q * 2 ^ s)) ≤ 4 * p + q * 2 ^ s) : Lies F I (min (s * 2 ^ F + N) I) p q := by
  have hK : 0 < 2 ^ F := Nat.pow_pos (by omega)
  have hpar := even_join (F := F) (s := s) (N := N) hF
  have hA := fA_join h hs
  have hup := fA_succ F (s * 2 ^ F + N)
  obtain ⟨b, hb⟩ : ∃ b, b = s * 2 ^ F + N := ⟨_, rfl⟩
  have hS : 0 < 2 ^ s := Nat.pow_pos (by omega)
  have eA : fA F b * q = N * (q * 2 ^ s) := by rw [hb, hA, Nat.mul_assoc, Nat.mul_comm (2 ^ s)]
  -- the step up
  have stepUp : 2 ^ s ≤ 2 ^ (b / 2 ^ F - 1) ∧ (N < 2 * 2 ^ F → 2 ^ (b / 2 ^ F - 1) = 2 ^ s) := by
    have hd : b / 2 ^ F = s + N / 2 ^ F := by rw [hb, Nat.mul_comm, Nat.mul_add_div hK]
    by_cases h1 : N < 2 ^ F
    · have h0 : s = 0 := by
        rcases Nat.eq_zero_or_pos s with e | e
        · exact e
        · have := hs (by omega); omega
      rw [hd, Nat.div_eq_of_lt h1, h0]; simp
    · by_cases h2 : N < 2 * 2 ^ F
      · have : N / 2 ^ F = 1 := Nat.div_eq_of_lt_le (by omega) (by omega)
        rw [hd, this]; exact ⟨Nat.le_refl _, fun _ => rfl⟩
      · have : N / 2 ^ F = 2 := Nat.div_eq_of_lt_le (by omega) (by omega)
        rw [hd, this]
        exact ⟨Nat.pow_le_pow_right (by omega) (by omega), fun e => absurd e h2⟩
  rw [← hb] at hup hpar ⊢
  have upper : 2 * p ≤ (fA F b + fA F (b + 1)) * q ∧ (2 * p = (fA F b + fA F (b + 1)) * q → b % 2 = 0) := by
    rw [hup, Nat.add_mul, Nat.add_mul, eA]
    have k1 : q * 2 ^ s ≤ 2 ^ (b / 2 ^ F - 1) * q := by rw [Nat.mul_comm q]; exact Nat.mul_le_mul_right _ stepUp.1
    generalize N * (q * 2 ^ s) = z at *
    exact ⟨by omega, fun e => by rw [hpar]; exact r4 (by omega)⟩
  have lower : b ≠ 0 → (fA F (b - 1) + fA F b) * q ≤ 2 * p ∧ ((fA F (b - 1) + fA F b) * q = 2 * p → b % 2 = 0) := by
    intro hb0
    have hdn := fA_succ F (b - 1)
    rw [show b - 1 + 1 = b by omega] at hdn
    by_cases hc : s ≠ 0 ∧ N = 2 ^ F
    · -- a power of 2: the next lesser one is nearer
      obtain ⟨hs0, rfl⟩ := hc
      obtain ⟨i, rfl⟩ : ∃ i, s = i + 1 := ⟨s - 1, by omega⟩
      have hd : (b - 1) / 2 ^ F = i + 1 := by
        rw [hb, show (i + 1) * 2 ^ F + 2 ^ F - 1 = 2 ^ F * (i + 1) + (2 ^ F - 1) by rw [Nat.mul_comm]; omega, Nat.mul_add_div hK, Nat.div_eq_of_lt (by omega), Nat.add_zero]
      rw [hd, Nat.add_sub_cancel] at hdn
      have l := low hs0 rfl
      have e1 : q * 2 ^ (i + 1) = 2 * (2 ^ i * q) := by rw [Nat.pow_succ, Nat.mul_comm q, Nat.mul_comm (2 ^ i) 2, Nat.mul_assoc]
      have e2 : fA F b * q = fA F (b - 1) * q + 2 ^ i * q := by rw [hdn, Nat.add_mul]
      rw [Nat.add_mul]
      have hev : b % 2 = 0 := by
        rw [hpar]
        obtain ⟨j, rfl⟩ : ∃ j, F = j + 1 := ⟨F - 1, by omega⟩
        rw [Nat.pow_succ]; omega
      refine ⟨by omega, fun _ => hev⟩
    · have hd : (b - 1) / 2 ^ F - 1 = s := by
        by_cases h1 : N ≤ 2 ^ F
        · have h0 : s = 0 := by
            rcases Nat.eq_zero_or_pos s with e | e
            · exact e
            · have := hs (by omega)
              exact absurd ⟨by omega, by omega⟩ hc
          subst h0
          rw [hb, Nat.zero_mul, Nat.zero_add, Nat.div_eq_of_lt (by omega)]
        · have : (b - 1) / 2 ^ F = s + 1 := by
            rw [hb, show s * 2 ^ F + N - 1 = 2 ^ F * (s + 1) + (N - 1 - 2 ^ F) by rw [Nat.mul_add, Nat.mul_one, Nat.mul_comm s]; omega, Nat.mul_add_div hK, Nat.div_eq_of_lt (by omega), Nat.add_zero]
          rw [this]; rfl
      rw [hd] at hdn
      have e2 : fA F b * q = fA F (b - 1) * q + q * 2 ^ s := by rw [hdn, Nat.add_mul, Nat.mul_comm q]
      rw [Nat.add_mul]
      generalize N * (q * 2 ^ s) = z at *
      exact ⟨by omega, fun e => by rw [hpar]; exact r2 (by omega)⟩
  rcases Nat.lt_or_ge b I with hI1 | hI1
  · rw [Nat.min_eq_left (by omega)]
    exact ⟨by omega, lower, fun _ => upper⟩
  · rw [Nat.min_eq_right hI1]
    refine ⟨Nat.le_refl _, fun hI0 => ?_, fun e => absurd rfl e⟩
    have m1 := fA_mono (F := F) (show I - 1 ≤ b - 1 by omega)
    have m2 := fA_mono (F := F) hI1
    exact ⟨Nat.le_trans (Nat.mul_le_mul_right _ (by omega)) (lower (by omega)).1, fun _ => hI⟩

end Go.Proofs.YtpiloigpncbccabGreatDoor
