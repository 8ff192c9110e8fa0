/-
  Plain mathematics of dividing by hand: a limb of the quotient is guessed by the topmost limbs, and is one too high at most.
-/
import Derived.Test.YtpiloigpncbccaaMulM
namespace Go.Proofs.Ytpiloigpncbccaa

theorem guess_high {b u1 u0 : Nat} {d1 u2 X K D U Dl Ul d2 : Nat} (hX : X = K * b) (hD : D = d1 * X + d2 * K + Dl) (hDl : d2 * K + Dl < X) (hU : U = u2 * (X * b) + u1 * X + u0 * K + Ul)
    (hb : 2 ≤ b) (hn : b ≤ 2 * d1) (h : d1 ≤ u2) (hlt : U < D * b) : b - 1 < b ∧ U < (b - 1 + 1) * D ∧ (b - 1) * D ≤ U + D := by
  obtain ⟨c, rfl⟩ : ∃ c, b = c + 2 := ⟨b - 2, by omega⟩
  refine ⟨by omega, ?_, ?_⟩
  · rw [show c + 2 - 1 + 1 = c + 2 by omega, Nat.mul_comm]; exact hlt
  · rw [show c + 2 - 1 = c + 1 by omega, Nat.add_mul, Nat.one_mul]
    have h1 : c * D ≤ c * (d1 * X + X) := Nat.mul_le_mul_left c (by omega)
    have h2 : d1 * (X * (c + 2)) ≤ u2 * (X * (c + 2)) := Nat.mul_le_mul_right _ h
    have h3 : c * X ≤ 2 * d1 * X := Nat.mul_le_mul_right X (by omega)
    have h4 : d1 * (X * (c + 2)) = c * (d1 * X) + 2 * d1 * X := by
      rw [Nat.mul_add, Nat.mul_add, ← Nat.mul_assoc, Nat.mul_comm (d1 * X) c, Nat.mul_comm X 2, ← Nat.mul_assoc d1, Nat.mul_comm d1 2]
    rw [Nat.mul_add] at h1
    omega

theorem guess_low {b u2 u1 u0 d1 d2 K D U Dl Ul : Nat} (hD : D = (d1 * b + d2) * K + Dl) (hDl : Dl < K) (hU : U = (u2 * b * b + u1 * b + u0) * K + Ul) (hUl : Ul < K)
    (h1 : u1 < b) (h0 : u0 < b) (h : u2 < d1) :
    (u2 * b * b + u1 * b + u0) / (d1 * b + d2) < b ∧ U < ((u2 * b * b + u1 * b + u0) / (d1 * b + d2) + 1) * D ∧ (u2 * b * b + u1 * b + u0) / (d1 * b + d2) * D ≤ U + D := by
  have hb : 0 < b := by omega
  have hpos : 0 < d1 * b + d2 := by have : 0 < d1 * b := Nat.mul_pos (by omega) hb; omega
  have hq : (u2 * b * b + u1 * b + u0) / (d1 * b + d2) < b := by
    rw [Nat.div_lt_iff_lt_mul hpos]
    have a1 : (u2 + 1) * b * b ≤ d1 * b * b := Nat.mul_le_mul_right b (Nat.mul_le_mul_right b h)
    have a2 : (u1 + 1) * b ≤ b * b := Nat.mul_le_mul_right b h1
    have a3 : b * (d1 * b + d2) = d1 * b * b + b * d2 := by rw [Nat.mul_add, Nat.mul_comm b (d1 * b)]
    rw [Nat.add_mul, Nat.add_mul] at a1
    rw [Nat.add_mul] at a2
    rw [a3]
    simp only [Nat.one_mul] at a1 a2
    omega
  have hm := Nat.div_add_mod (u2 * b * b + u1 * b + u0) (d1 * b + d2)
  have hml := Nat.mod_lt (u2 * b * b + u1 * b + u0) hpos
  generalize (u2 * b * b + u1 * b + u0) % (d1 * b + d2) = m at *
  generalize (u2 * b * b + u1 * b + u0) / (d1 * b + d2) = q at *
  generalize u2 * b * b + u1 * b + u0 = T at *
  have hd1 : b ≤ d1 * b + d2 := by
    have : 1 * b ≤ d1 * b := Nat.mul_le_mul_right b (by omega)
    omega
  generalize d1 * b + d2 = S at *
  refine ⟨hq, ?_, ?_⟩
  · have a1 : (T + 1) * K ≤ (q + 1) * S * K := Nat.mul_le_mul_right K (by rw [Nat.add_mul, Nat.mul_comm q]; omega)
    have a2 : (q + 1) * (S * K) ≤ (q + 1) * D := Nat.mul_le_mul_left _ (by omega)
    rw [Nat.mul_assoc] at a1
    rw [Nat.add_mul] at a1
    omega
  · have a1 : S * q * K ≤ T * K := Nat.mul_le_mul_right K (by omega)
    have a2 : q * Dl ≤ b * K := Nat.mul_le_mul (by omega) (by omega)
    have a3 : b * K ≤ S * K := Nat.mul_le_mul_right K hd1
    have a4 : q * D = S * q * K + q * Dl := by rw [hD, Nat.mul_add, ← Nat.mul_assoc, Nat.mul_comm q S]
    omega

/-- The guess that is looked for: the topmost three limbs by the topmost two. -/
def g3 (b u2 u1 u0 d1 d2 : Nat) : Nat := (u2 * b * b + u1 * b + u0) / (d1 * b + d2)

section
variable {b u2 u1 u0 d1 d2 g r : Nat}

theorem g3_eq (hg : g * d1 + r = u2 * b + u1) : (g * d1 * b + r * b) + u0 = u2 * b * b + u1 * b + u0 := by
  rw [← Nat.add_mul, hg, Nat.add_mul]

theorem g3_start (hd : 0 < d1) (hb : 0 < b) (h0 : u0 < b) : g3 b u2 u1 u0 d1 d2 ≤ (u2 * b + u1) / d1 := by
  unfold g3
  rw [Nat.le_div_iff_mul_le hd]
  have hpos : 0 < d1 * b + d2 := by have : 0 < d1 * b := Nat.mul_pos hd hb; omega
  have hm := Nat.div_mul_le_self (u2 * b * b + u1 * b + u0) (d1 * b + d2)
  generalize (u2 * b * b + u1 * b + u0) / (d1 * b + d2) = q at *
  have a1 : q * (d1 * b + d2) = q * d1 * b + q * d2 := by rw [Nat.mul_add, Nat.mul_assoc]
  have a2 : u2 * b * b + u1 * b = (u2 * b + u1) * b := by rw [Nat.add_mul]
  have a3 : q * d1 * b < (u2 * b + u1 + 1) * b := by rw [Nat.add_mul _ 1]; omega
  have := Nat.lt_of_mul_lt_mul_right a3
  omega

theorem g3_stop (hd : 0 < d1) (hb : 0 < b) (hg : g * d1 + r = u2 * b + u1) (hle : g3 b u2 u1 u0 d1 d2 ≤ g) (h : g * d2 ≤ r * b + u0) : g = g3 b u2 u1 u0 d1 d2 := by
  have hpos : 0 < d1 * b + d2 := by have : 0 < d1 * b := Nat.mul_pos hd hb; omega
  refine Nat.le_antisymm ?_ hle
  unfold g3
  rw [Nat.le_div_iff_mul_le hpos, ← g3_eq hg, Nat.mul_add, ← Nat.mul_assoc]
  omega

theorem g3_on (hd : 0 < d1) (hb : 0 < b) (hg : g * d1 + r = u2 * b + u1) (h : r * b + u0 < g * d2) : 0 < g ∧ g3 b u2 u1 u0 d1 d2 ≤ g - 1 ∧ (g - 1) * d1 + (r + d1) = u2 * b + u1 := by
  have hpos : 0 < d1 * b + d2 := by have : 0 < d1 * b := Nat.mul_pos hd hb; omega
  have g0 : 0 < g := by rcases g with _ | g; simp at h; omega
  have : g3 b u2 u1 u0 d1 d2 < g := by
    unfold g3
    rw [Nat.div_lt_iff_lt_mul hpos, ← g3_eq hg, Nat.mul_add, ← Nat.mul_assoc]
    omega
  refine ⟨g0, by omega, ?_⟩
  obtain ⟨c, rfl⟩ : ∃ c, g = c + 1 := ⟨g - 1, by omega⟩
  rw [Nat.add_mul] at hg
  simp only [Nat.add_sub_cancel]
  omega

theorem g3_wrap (hd : 0 < d1) (hb : 0 < b) (hg : g * d1 + r = u2 * b + u1) (hle : g3 b u2 u1 u0 d1 d2 ≤ g) (h1 : g < b) (h2 : d2 < b) (h : b ≤ r) : g = g3 b u2 u1 u0 d1 d2 := by
  refine g3_stop hd hb hg hle ?_
  have a1 : g * d2 ≤ b * b := Nat.mul_le_mul (by omega) (by omega)
  have a2 : b * b ≤ r * b := Nat.mul_le_mul_right b h
  omega
end

theorem pair_le {b h l r u : Nat} (hl : l < b) (hu : u < b) : h * b + l ≤ r * b + u ↔ h < r ∨ h = r ∧ l ≤ u := by
  constructor
  · intro h1
    rcases Nat.lt_trichotomy h r with a | a | a
    · exact .inl a
    · subst a; exact .inr ⟨rfl, by omega⟩
    · have : (r + 1) * b ≤ h * b := Nat.mul_le_mul_right b a
      rw [Nat.add_mul] at this; omega
  · rintro (a | ⟨rfl, a⟩)
    · have : (h + 1) * b ≤ r * b := Nat.mul_le_mul_right b a
      rw [Nat.add_mul] at this; omega
    · omega

/-- One limb of the quotient, where nothing went below nought. -/
theorem round_fits {D U X L R R1 g E : Nat} (hR : R = U * X + L) (hL : L < X) (hU : U < (g + 1) * D) (h1 : R1 + D * g * X = R + 0 * E) : R1 < D * X ∧ R1 + D * g * X = R := by
  have a1 : (U + 1) * X ≤ (g + 1) * D * X := Nat.mul_le_mul_right X hU
  have a2 : (g + 1) * D * X = D * g * X + D * X := by rw [Nat.add_mul, Nat.add_mul, Nat.one_mul, Nat.mul_comm g D]
  rw [Nat.add_mul, Nat.one_mul] at a1
  omega

/-- One limb of the quotient, where it went below nought and the divisor was added back. -/
theorem round_back {D U X L R R1 R2 g E c : Nat} (hR : R = U * X + L) (hg : g * D ≤ U + D) (hE : R1 < E) (h1 : R1 + D * g * X = R + 1 * E) (hE2 : R2 < E) (hc : c ≤ 1) (h2 : R2 + c * E = R1 + D * X) :
    1 ≤ g ∧ R2 < D * X ∧ R2 + D * (g - 1) * X = R := by
  have g0 : 1 ≤ g := by rcases g with _ | g; simp at h1; omega; omega
  obtain ⟨q, rfl⟩ : ∃ q, g = q + 1 := ⟨g - 1, by omega⟩
  have a1 : D * (q + 1) * X = D * q * X + D * X := by rw [Nat.mul_add, Nat.mul_one, Nat.add_mul]
  have a2 : q * D * X ≤ U * X := Nat.mul_le_mul_right X (by rw [Nat.add_mul] at hg; omega)
  rw [Nat.mul_comm q D] at a2
  rw [a1] at h1
  simp only [Nat.add_sub_cancel]
  have hcc : c = 1 := by
    rcases Nat.lt_or_ge 0 c with hc0 | hc0
    · omega
    · obtain rfl : c = 0 := by omega
      omega
  subst hcc
  refine ⟨g0, ?_, ?_⟩ <;> omega

/-- A number below b ^ j has no limb at j. -/
theorem V_ge {b : Nat} {f : Nat → Nat} {j : Nat} : ∀ n, j < n → f j * b ^ j ≤ V b f n
  | 0, h => absurd h (Nat.not_lt_zero _)
  | n + 1, h => by
    simp only [V]
    by_cases e : j = n
    · subst e; omega
    · have := V_ge (b := b) (f := f) (j := j) n (by omega); omega

theorem dg_small {b : Nat} {xs : List Nat} {t j : Nat} (hb : 0 < b) (h : num b xs < b ^ t) (hj : t ≤ j) : dg xs j = 0 := by
  by_cases hl : j < xs.length
  · have h1 := V_ge (b := b) (f := dg xs) xs.length hl
    have h2 := Nat.pow_le_pow_right hb hj
    rcases hd : dg xs j with _ | d
    · rfl
    · rw [hd] at h1
      have h3 : 1 * b ^ j ≤ (d + 1) * b ^ j := Nat.mul_le_mul_right _ (by omega)
      unfold num at h; omega
  · exact dg_out (by omega)

theorem num_upto {b : Nat} {xs : List Nat} {t : Nat} (h : ∀ j, t ≤ j → dg xs j = 0) : num b xs = V b (dg xs) t := by
  by_cases hl : t ≤ xs.length
  · exact V_zero _ hl h
  · exact (num_eq (by omega)).symm

theorem num_below {b : Nat} {xs : List Nat} {t : Nat} (ho : Ok b xs) (h : ∀ j, t ≤ j → dg xs j = 0) : num b xs < b ^ t := by
  rw [num_upto h]; exact V_lt t (fun i _ => ho i)

/-- What guessLimb answers. -/
def guessOf (b u2 u1 u0 d1 d2 : Nat) : Nat := if d1 ≤ u2 then b - 1 else g3 b u2 u1 u0 d1 d2

/-- The guess from the limbs of the rest r and the divisor ys, which has m + 2 of them, at place k. -/
theorem guess_good {b m k : Nat} {r ys : List Nat} (hb : 2 ≤ b) (or : Ok b r) (oy : Ok b ys) (hy : ys.length = m + 2) (htop : b ≤ 2 * dg ys (m + 1)) (hlt : num b r < num b ys * b ^ (k + 1)) :
    ∃ g U L, g = guessOf b (dg r (k + (m + 2))) (dg r (k + (m + 1))) (dg r (k + m)) (dg ys (m + 1)) (dg ys m) ∧ num b r = U * b ^ k + L ∧ L < b ^ k ∧ g < b ∧ U < (g + 1) * num b ys ∧ g * num b ys ≤ U + num b ys ∧ num b r < b ^ (k + (m + 3)) := by
  have hb0 : 0 < b := by omega
  have hys := num_lt oy
  rw [hy] at hys
  have hbig : num b r < b ^ (k + (m + 3)) := by
    refine Nat.lt_of_lt_of_le hlt ?_
    have := Nat.mul_le_mul_right (b ^ (k + 1)) (Nat.le_of_lt hys)
    rw [← Nat.pow_add] at this
    rw [show k + (m + 3) = m + 2 + (k + 1) by omega]; exact this
  have hr : num b r = V b (dg r) (k + (m + 3)) := num_upto (fun j hj => dg_small hb0 hbig hj)
  have hs := V_split b (dg r) k (m + 3)
  have hL : V b (dg r) k < b ^ k := V_lt k (fun i _ => or i)
  obtain ⟨U, hU⟩ : ∃ U, U = V b (fun i => dg r (k + i)) (m + 3) := ⟨_, rfl⟩
  rw [← hU] at hs
  have hR : num b r = U * b ^ k + V b (dg r) k := by rw [hr, hs, Nat.mul_comm]; omega
  have hUl : V b (fun i => dg r (k + i)) m < b ^ m := V_lt m (fun i _ => or _)
  have hDl : V b (dg ys) m < b ^ m := V_lt m (fun i _ => oy i)
  have hU' : U = V b (fun i => dg r (k + i)) m + dg r (k + m) * b ^ m + dg r (k + (m + 1)) * b ^ (m + 1) + dg r (k + (m + 2)) * b ^ (m + 2) := by rw [hU]; simp only [V]
  have hD' : num b ys = V b (dg ys) m + dg ys m * b ^ m + dg ys (m + 1) * b ^ (m + 1) := by unfold num; rw [hy]; simp only [V]
  have hUb : U < num b ys * b := by
    have : U * b ^ k < num b ys * b * b ^ k := by
      rw [Nat.pow_succ, Nat.mul_comm (b ^ k), ← Nat.mul_assoc] at hlt
      omega
    exact Nat.lt_of_mul_lt_mul_right this
  refine ⟨_, U, _, rfl, hR, hL, ?_⟩
  have o1 := or (k + (m + 1)); have o0 := or (k + m); have o2 := oy m
  generalize dg r (k + (m + 2)) = u2 at *
  generalize dg r (k + (m + 1)) = u1 at *
  generalize dg r (k + m) = u0 at *
  generalize dg ys (m + 1) = d1 at *
  generalize dg ys m = d2 at *
  generalize num b ys = D at *
  generalize V b (fun i => dg r (k + i)) m = Ul at *
  generalize V b (dg ys) m = Dl at *
  have p1 : b ^ (m + 1) = b ^ m * b := Nat.pow_succ ..
  have p2 : b ^ (m + 2) = b ^ m * b * b := by rw [Nat.pow_succ, Nat.pow_succ]
  rw [p1] at hD'
  rw [p1, p2] at hU'
  generalize b ^ m = K at *
  unfold guessOf
  split
  · next h =>
    obtain ⟨a1, a2, a3⟩ := guess_high (u1 := u1) (u0 := u0) (Dl := Dl) (Ul := Ul) (d2 := d2) (X := K * b) (K := K) (U := U) (D := D) (u2 := u2) (d1 := d1) rfl (by omega) (by
      have : (d2 + 1) * K ≤ b * K := Nat.mul_le_mul_right K o2
      rw [Nat.add_mul, Nat.mul_comm b K] at this; omega) (by omega) hb htop h hUb
    exact ⟨a1, a2, a3, hbig⟩
  · next h =>
    have e1 : (d1 * b + d2) * K = d1 * (K * b) + d2 * K := by rw [Nat.add_mul, Nat.mul_assoc, Nat.mul_comm b K]
    have e2 : (u2 * b * b + u1 * b + u0) * K = u2 * (K * b * b) + u1 * (K * b) + u0 * K := by
      rw [Nat.add_mul, Nat.add_mul, Nat.mul_assoc u1, Nat.mul_comm b K, Nat.mul_assoc u2, Nat.mul_assoc u2, Nat.mul_comm (b * b) K, Nat.mul_assoc K]
    obtain ⟨a1, a2, a3⟩ := guess_low (b := b) (u2 := u2) (u1 := u1) (u0 := u0) (d1 := d1) (d2 := d2) (K := K) (D := D) (U := U) (Dl := Dl) (Ul := Ul) (by rw [e1]; omega) hDl (by rw [e2]; omega) hUl o1 o0 (by omega)
    exact ⟨a1, a2, a3, hbig⟩

end Go.Proofs.Ytpiloigpncbccaa
