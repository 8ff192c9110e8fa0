/-
  What math/bits.Div64 does: the quotient and the rest of two limbs by one.
  Plain mathematics of dividing by hand: a limb of the quotient is guessed by the topmost limbs, and is one too high at most.
  What nat.Mul does: the product, in memory of its own.
  What nat.divLimb does: a list divided by one limb.
  What nat.DivMod does where the divisor is nought, longer than the dividend, or one limb long.
-/
import Derived.Test.YtobloamnaemfnaaGreatDoorVB3
import Derived.Test.YtobloamnaemfnaaGreatDoorVUint
import Derived.Test.YtobloamnaemfnaaGreatDoorVShift
import Derived.Test.YtobloamnaemfnaaGreatDoorVB2
namespace Go.Proofs.YtobloamnaemfnaaGreatDoor
open Go.RowKit

theorem wrap_sub3 (a u b r : Nat) (h : a + u = b + r) (hr : r < 18446744073709551616) :
    IntKind.u64.wrap (IntKind.u64.wrap (IntKind.u64.wrap (a : Int) + (u : Int)) - IntKind.u64.wrap (b : Int)) = (r : Int) := by
  simp only [IntKind.wrap_u64]; omega

theorem wrap_sub2 (a b r : Nat) (h : a = b + r) (hr : r < 18446744073709551616) (_ha : a < 18446744073709551616) :
    IntKind.u64.wrap ((a : Int) - IntKind.u64.wrap (b : Int)) = (r : Int) := by
  simp only [IntKind.wrap_u64]; omega

theorem natMulK (a : Nat) : (a : Int) * 4294967296 = ((a * 4294967296 : Nat) : Int) := (Int.natCast_mul a 4294967296).symm

theorem norm_shift {hi lo y s : Nat} (hlo : lo < 2 ^ 64) (hy : hi < y) (hs : s ≤ 64) (hY : y * 2 ^ s < 2 ^ 64) :
    hi * 2 ^ s % 2 ^ 64 = hi * 2 ^ s ∧ (hi * 2 ^ s ||| lo / 2 ^ (64 - s)) = hi * 2 ^ s + lo / 2 ^ (64 - s) ∧ hi * 2 ^ s + lo / 2 ^ (64 - s) < y * 2 ^ s ∧
    (hi * 2 ^ s + lo / 2 ^ (64 - s)) * 2 ^ 64 + lo * 2 ^ s % 2 ^ 64 = (hi * 2 ^ 64 + lo) * 2 ^ s := by
  have h1 : lo / 2 ^ (64 - s) < 2 ^ s := high_lt hs hlo
  have h2 : (hi + 1) * 2 ^ s ≤ y * 2 ^ s := Nat.mul_le_mul_right _ hy
  rw [Nat.add_mul, Nat.one_mul] at h2
  have h3 := Nat.two_pow_pos s
  refine ⟨Nat.mod_eq_of_lt (by omega), ?_, by omega, ?_⟩
  · rw [Nat.or_comm, or_low h1]; omega
  · have e := Nat.div_add_mod (lo * 2 ^ s) (2 ^ 64)
    rw [high_eq hs] at e
    rw [Nat.add_mul, Nat.add_mul, Nat.mul_right_comm hi, Nat.mul_comm (lo / 2 ^ (64 - s))]
    omega

theorem div64_any (hi lo y : Nat) (w : World) (hy : y < B64) (hlo : lo < B64) (hlt : hi < y) :
    Calls Tryz.prog 244 #[.int .u64 (hi : Int), .int .u64 (lo : Int), .int .u64 (y : Int)] w fun e w' =>
      e = .returned (.tuple #[.int .u64 (((hi * B64 + lo) / y : Nat) : Int), .int .u64 (((hi * B64 + lo) % y : Nat) : Int)]) ∧ Like w' w := by
  by_cases h0 : hi = 0
  · subst h0
    have := div64_short lo y w hlt hlo
    rw [Nat.zero_mul, Nat.zero_add]
    exact this
  · have hM : (2 : Nat) ^ 64 = 18446744073709551616 := by decide +kernel
    obtain ⟨n, hn, hn1, hn2⟩ := bitsN_spec (show y ≠ 0 by omega)
    have hbl := bitLen_bits y (by rw [← B64_pow]; exact hy)
    have hle := bitsN_le hy
    obtain ⟨s, hs⟩ : ∃ s, s = 63 - n := ⟨_, rfl⟩
    have hp : 2 ^ (n + 1) * 2 ^ s = (2 : Nat) ^ 64 := by rw [← Nat.pow_add]; congr 1; omega
    have hp2 : 2 ^ n * 2 ^ s = (2 : Nat) ^ 63 := by rw [← Nat.pow_add]; congr 1; omega
    have h63 : (2 : Nat) ^ 63 = 9223372036854775808 := by decide +kernel
    have hY : y * 2 ^ s < 2 ^ 64 := by rw [← hp]; exact Nat.mul_lt_mul_of_pos_right hn2 (Nat.two_pow_pos s)
    have hYl : 2 ^ 63 ≤ y * 2 ^ s := by rw [← hp2]; exact Nat.mul_le_mul_right _ hn1
    obtain ⟨a1, a2, a3, a4⟩ := norm_shift (hi := hi) (lo := lo) (y := y) (s := s) (by rw [← B64_pow]; exact hlo) hlt (by omega) hY
    have hdN : ((hi * B64 + lo) * 2 ^ s) / (y * 2 ^ s) = (hi * B64 + lo) / y := Nat.mul_div_mul_right _ _ (Nat.two_pow_pos s)
    have hmN : ((hi * B64 + lo) * 2 ^ s) % (y * 2 ^ s) / 2 ^ s = (hi * B64 + lo) % y := by
      rw [Nat.mul_mod_mul_right, Nat.mul_div_cancel _ (Nat.two_pow_pos s)]
    rw [← B64_pow] at a4
    rw [← a4] at hdN hmN
    have wA := wrap_shl hi s
    have wL := wrap_shl lo s
    have wY := wrap_shl y s
    rw [a1] at wA
    rw [Nat.mod_eq_of_lt hY] at wY
    have hLlt : lo * 2 ^ s % 2 ^ 64 < 2 ^ 64 := Nat.mod_lt _ (Nat.two_pow_pos _)
    rw [B64_pow] at hdN hmN
    generalize lo * 2 ^ s % 2 ^ 64 = L at *
    have hC : (lo : Int) / 2 ^ (64 - s) = ((lo / 2 ^ (64 - s) : Nat) : Int) := shr_nat lo (64 - s)
    have hClt : lo / 2 ^ (64 - s) ≤ lo := Nat.div_le_self _ _
    generalize lo / 2 ^ (64 - s) = C at *
    have hAlt : hi * 2 ^ s < 2 ^ 64 := by omega
    generalize hi * 2 ^ s = A at *
    have hU : bits .or .u64 (A : Int) (C : Int) = ((A + C : Nat) : Int) := by
      rw [or_nat A C (by rw [B64_pow]; exact hAlt) (Nat.lt_of_le_of_lt hClt hlo), a2]
    generalize A + C = U at *
    generalize hYY : y * 2 ^ s = Y at *
    have hK1 : L / 4294967296 < 4294967296 := by omega
    have hK0 : L % 4294967296 < 4294967296 := Nat.mod_lt _ (by omega)
    have hy0 : Y % 4294967296 < 4294967296 := Nat.mod_lt _ (by omega)
    have hy1 : Y / 4294967296 < 4294967296 := by omega
    have hYe : Y = Y / 4294967296 * 4294967296 + Y % 4294967296 := by omega
    have hK2 : 4294967296 ≤ 2 * (Y / 4294967296) := by omega
    have hYpos : 0 < Y := by omega
    have hLe : U * 2 ^ 64 + L = (U * 4294967296 + L / 4294967296) * 4294967296 + L % 4294967296 := by rw [hM]; omega
    have hh := halves (K := 4294967296) (U := U) (u1 := L / 4294967296) (u0 := L % 4294967296) (Y := Y) hYpos
    rw [← hLe, hdN] at hh
    obtain ⟨u1, hu1⟩ : ∃ z, z = L / 4294967296 := ⟨_, rfl⟩
    obtain ⟨u0, hu0⟩ : ∃ z, z = L % 4294967296 := ⟨_, rfl⟩
    obtain ⟨y1, hy1e⟩ : ∃ z, z = Y / 4294967296 := ⟨_, rfl⟩
    obtain ⟨y0, hy0e⟩ : ∃ z, z = Y % 4294967296 := ⟨_, rfl⟩
    have v1 : (L : Int) / 4294967296 = (u1 : Int) := by rw [hu1]; exact div32 L
    have v0 : bits .and .u64 (L : Int) 4294967295 = (u0 : Int) := by rw [hu0]; exact and32 L (by omega)
    have z1 : (Y : Int) / 4294967296 = (y1 : Int) := by rw [hy1e]; exact div32 Y
    have z0 : bits .and .u64 (Y : Int) 4294967295 = (y0 : Int) := by rw [hy0e]; exact and32 Y (by omega)
    rw [← hu1, ← hu0] at hh
    rw [← hu1] at hK1
    rw [← hu0] at hK0
    rw [← hy0e] at hy0
    rw [← hy1e] at hy1 hK2
    rw [← hy1e, ← hy0e] at hYe
    have f1 : HalfFits U Y y1 y0 u1 := ⟨hYe, hYpos, hy0, hy1, a3, hK1⟩
    have hR : (U * 4294967296 + u1) % Y < Y := Nat.mod_lt _ hYpos
    have f2 : HalfFits ((U * 4294967296 + u1) % Y) Y y1 y0 u0 := ⟨hYe, hYpos, hy0, hy1, hR, hK0⟩
    have q1l : (U * 4294967296 + u1) / Y < 4294967296 := (Nat.div_lt_iff_lt_mul hYpos).2 (by rw [Nat.mul_comm 4294967296]; exact half_lt a3 hK1)
    have q2l : ((U * 4294967296 + u1) % Y * 4294967296 + u0) / Y < 4294967296 := (Nat.div_lt_iff_lt_mul hYpos).2 (by rw [Nat.mul_comm 4294967296]; exact half_lt hR hK0)
    have e1 := Nat.div_add_mod (U * 4294967296 + u1) Y
    have e2 := Nat.div_add_mod ((U * 4294967296 + u1) % Y * 4294967296 + u0) Y
    have hR2 : ((U * 4294967296 + u1) % Y * 4294967296 + u0) % Y < Y := Nat.mod_lt _ hYpos
    rw [hh.2] at hmN
    obtain ⟨Q1, hQ1⟩ : ∃ z, (U * 4294967296 + u1) / Y = z := ⟨_, rfl⟩
    obtain ⟨R, hRR⟩ : ∃ z, (U * 4294967296 + u1) % Y = z := ⟨_, rfl⟩
    rw [hQ1] at q1l e1 hh
    rw [hRR] at e1 e2 f2 hR q2l hR2 hmN hh
    obtain ⟨Q2, hQ2⟩ : ∃ z, (R * 4294967296 + u0) / Y = z := ⟨_, rfl⟩
    rw [hQ2] at q2l e2 hh
    have q0e := Nat.div_add_mod U y1
    have p0e := Nat.div_add_mod R y1
    have hc : ∀ w, Calls Tryz.prog 245 #[.int .u64 (y : Int)] w fun e w' => e = .returned (.int .i64 (s : Int)) ∧ w = w' := by
      intro w
      have := lead64 y w (by rw [← hM, ← B64_pow]; exact hy)
      rw [hbl, hn, show 64 - (n + 1) = s by omega] at this
      exact this
    have b1 : U / y1 ≤ U := Nat.div_le_self _ _
    have b2 : U % y1 ≤ U := Nat.mod_le _ _
    have b3 : R / y1 ≤ R := Nat.div_le_self _ _
    have b4 : R % y1 ≤ R := Nat.mod_le _ _
    have core := div64_core hi lo y s (64 - s) Y y1 y0 A C U L u1 u0 (U / y1) (U % y1) R (R / y1) (R % y1) w (Q1 * 4294967296 + Q2) ((R * 4294967296 + u0) % Y / 2 ^ s) hc
      (by rw [beq_eq_false_iff_ne]; omega) (by omega) (by rw [beq_eq_false_iff_ne]; omega) (by omega) (by omega) (by omega) (wrapLt s (by omega)) wY z1 z0 wA
      (by rw [show (64 : Int) - (s : Int) = ((64 - s : Nat) : Int) by omega]; exact wrapLt _ (by omega)) hC hU wL v1 v0 (Int.natCast_ediv U y1).symm (wrapLt _ (by omega))
      (by rw [natMul]; exact wrap_sub2 U _ _ (by rw [Nat.mul_comm]; exact q0e.symm) (by omega) (by omega)) f1 (half_begin f1 hK2) f2 (half_begin f2 hK2) Q1 Q2 hQ1 hQ2
      (by rw [natMulK, natMul]; exact wrap_sub3 _ _ _ _ (by rw [Nat.mul_comm Q1]; exact e1.symm) (by omega)) (Int.natCast_ediv R y1).symm (wrapLt _ (by omega))
      (by rw [natMul]; exact wrap_sub2 R _ _ (by rw [Nat.mul_comm]; exact p0e.symm) (by omega) (by omega))
      (by rw [natMulK, wrapLt _ (by omega), natAdd, wrapLt _ (by omega)])
      (by rw [natMulK, natMul, wrap_sub3 _ _ _ ((R * 4294967296 + u0) % Y) (by rw [Nat.mul_comm Q2]; exact e2.symm) (by omega)]; exact shr_nat _ s)
    refine core.mono ?_
    rintro e w' ⟨rfl, rfl⟩
    rw [hmN, ← hh.1]
    exact ⟨rfl, rfl, rfl, rfl, rfl⟩

end Go.Proofs.YtobloamnaemfnaaGreatDoor

namespace Go.Proofs.YtobloamnaemfnaaGreatDoor

theorem guess_high {b u1 u0 : Nat} {d1 u2 X K D U Dl Ul d2 : Nat} (hX : X = K * b) (hD : D = d1 * X + d2 * K + Dl) (hDl : d2 * K + Dl < X) (hU : U = u2 * (X * b) + u1 * X + u0 * K + Ul)
    (hb : 2 ≤ b) (hn : b ≤ 2 * d1) (h : d1 ≤ u2) (hlt : U < D * b) : b - 1 < b ∧ U < (b - 1 + 1) * D ∧ (b - 1) * D ≤ U + D := by
  obtain ⟨c, rfl⟩ : ∃ c, b = c + 2 := ⟨b - 2, by omega⟩
  refine ⟨by omega, ?_, ?_⟩
  · rw [show c + 2 - 1 + 1 = c + 2 by omega, Nat.mul_comm]; exact hlt
  · rw [show c + 2 - 1 = c + 1 by omega, Nat.add_mul, Nat.one_mul]
    have h1 : c * D ≤ c * (d1 * X + X) := Nat.mul_le_mul_left c (by omega)
    have h2 : d1 * (X * (c + 2)) ≤ u2 * (X * (c + 2)) := Nat.mul_le_mul_right _ h
    have h3 : c * X ≤ 2 * d1 * X := Nat.mul_le_mul_right X (by omega)
    have h4 : d1 * (X * (c + 2)) = c * (d1 * X) + 2 * d1 * X := by
      rw [Nat.mul_add, Nat.mul_add, ← Nat.mul_assoc, Nat.mul_comm (d1 * X) c, Nat.mul_comm X 2, ← Nat.mul_assoc d1, Nat.mul_comm d1 2]
    rw [Nat.mul_add] at h1
    omega

theorem guess_low {b u2 u1 u0 d1 d2 K D U Dl Ul : Nat} (hD : D = (d1 * b + d2) * K + Dl) (hDl : Dl < K) (hU : U = (u2 * b * b + u1 * b + u0) * K + Ul) (hUl : Ul < K)
    (h1 : u1 < b) (h0 : u0 < b) (h : u2 < d1) :
    (u2 * b * b + u1 * b + u0) / (d1 * b + d2) < b ∧ U < ((u2 * b * b + u1 * b + u0) / (d1 * b + d2) + 1) * D ∧ (u2 * b * b + u1 * b + u0) / (d1 * b + d2) * D ≤ U + D := by
  have hb : 0 < b := by omega
  have hpos : 0 < d1 * b + d2 := by have : 0 < d1 * b := Nat.mul_pos (by omega) hb; omega
  have hq : (u2 * b * b + u1 * b + u0) / (d1 * b + d2) < b := by
    rw [Nat.div_lt_iff_lt_mul hpos]
    have a1 : (u2 + 1) * b * b ≤ d1 * b * b := Nat.mul_le_mul_right b (Nat.mul_le_mul_right b h)
    have a2 : (u1 + 1) * b ≤ b * b := Nat.mul_le_mul_right b h1
    have a3 : b * (d1 * b + d2) = d1 * b * b + b * d2 := by rw [Nat.mul_add, Nat.mul_comm b (d1 * b)]
    rw [Nat.add_mul, Nat.add_mul] at a1
    rw [Nat.add_mul] at a2
    rw [a3]
    simp only [Nat.one_mul] at a1 a2
    omega
  have hm := Nat.div_add_mod (u2 * b * b + u1 * b + u0) (d1 * b + d2)
  have hml := Nat.mod_lt (u2 * b * b + u1 * b + u0) hpos
  generalize (u2 * b * b + u1 * b + u0) % (d1 * b + d2) = m at *
  generalize (u2 * b * b + u1 * b + u0) / (d1 * b + d2) = q at *
  generalize u2 * b * b + u1 * b + u0 = T at *
  have hd1 : b ≤ d1 * b + d2 := by
    have : 1 * b ≤ d1 * b := Nat.mul_le_mul_right b (by omega)
    omega
  generalize d1 * b + d2 = S at *
  refine ⟨hq, ?_, ?_⟩
  · have a1 : (T + 1) * K ≤ (q + 1) * S * K := Nat.mul_le_mul_right K (by rw [Nat.add_mul, Nat.mul_comm q]; omega)
    have a2 : (q + 1) * (S * K) ≤ (q + 1) * D := Nat.mul_le_mul_left _ (by omega)
    rw [Nat.mul_assoc] at a1
    rw [Nat.add_mul] at a1
    omega
  · have a1 : S * q * K ≤ T * K := Nat.mul_le_mul_right K (by omega)
    have a2 : q * Dl ≤ b * K := Nat.mul_le_mul (by omega) (by omega)
    have a3 : b * K ≤ S * K := Nat.mul_le_mul_right K hd1
    have a4 : q * D = S * q * K + q * Dl := by rw [hD, Nat.mul_add, ← Nat.mul_assoc, Nat.mul_comm q S]
    omega

def g3 (b u2 u1 u0 d1 d2 : Nat) : Nat := (u2 * b * b + u1 * b + u0) / (d1 * b + d2)

section
variable {b u2 u1 u0 d1 d2 g r : Nat}

theorem g3_eq (hg : g * d1 + r = u2 * b + u1) : (g * d1 * b + r * b) + u0 = u2 * b * b + u1 * b + u0 := by
  rw [← Nat.add_mul, hg, Nat.add_mul]

theorem g3_start (hd : 0 < d1) (hb : 0 < b) (h0 : u0 < b) : g3 b u2 u1 u0 d1 d2 ≤ (u2 * b + u1) / d1 := by
  unfold g3
  rw [Nat.le_div_iff_mul_le hd]
  have hpos : 0 < d1 * b + d2 := by have : 0 < d1 * b := Nat.mul_pos hd hb; omega
  have hm := Nat.div_mul_le_self (u2 * b * b + u1 * b + u0) (d1 * b + d2)
  generalize (u2 * b * b + u1 * b + u0) / (d1 * b + d2) = q at *
  have a1 : q * (d1 * b + d2) = q * d1 * b + q * d2 := by rw [Nat.mul_add, Nat.mul_assoc]
  have a2 : u2 * b * b + u1 * b = (u2 * b + u1) * b := by rw [Nat.add_mul]
  have a3 : q * d1 * b < (u2 * b + u1 + 1) * b := by rw [Nat.add_mul _ 1]; omega
  have := Nat.lt_of_mul_lt_mul_right a3
  omega

theorem g3_stop (hd : 0 < d1) (hb : 0 < b) (hg : g * d1 + r = u2 * b + u1) (hle : g3 b u2 u1 u0 d1 d2 ≤ g) (h : g * d2 ≤ r * b + u0) : g = g3 b u2 u1 u0 d1 d2 := by
  have hpos : 0 < d1 * b + d2 := by have : 0 < d1 * b := Nat.mul_pos hd hb; omega
  refine Nat.le_antisymm ?_ hle
  unfold g3
  rw [Nat.le_div_iff_mul_le hpos, ← g3_eq hg, Nat.mul_add, ← Nat.mul_assoc]
  omega

theorem g3_on (hd : 0 < d1) (hb : 0 < b) (hg : g * d1 + r = u2 * b + u1) (h : r * b + u0 < g * d2) : 0 < g ∧ g3 b u2 u1 u0 d1 d2 ≤ g - 1 ∧ (g - 1) * d1 + (r + d1) = u2 * b + u1 := by
  have hpos : 0 < d1 * b + d2 := by have : 0 < d1 * b := Nat.mul_pos hd hb; omega
  have g0 : 0 < g := by rcases g with _ | g; simp at h; omega
  have : g3 b u2 u1 u0 d1 d2 < g := by
    unfold g3
    rw [Nat.div_lt_iff_lt_mul hpos, ← g3_eq hg, Nat.mul_add, ← Nat.mul_assoc]
    omega
  refine ⟨g0, by omega, ?_⟩
  obtain ⟨c, rfl⟩ : ∃ c, g = c + 1 := ⟨g - 1, by omega⟩
  rw [Nat.add_mul] at hg
  simp only [Nat.add_sub_cancel]
  omega

theorem g3_wrap (hd : 0 < d1) (hb : 0 < b) (hg : g * d1 + r = u2 * b + u1) (hle : g3 b u2 u1 u0 d1 d2 ≤ g) (h1 : g < b) (h2 : d2 < b) (h : b ≤ r) : g = g3 b u2 u1 u0 d1 d2 := by
  refine g3_stop hd hb hg hle ?_
  have a1 : g * d2 ≤ b * b := Nat.mul_le_mul (by omega) (by omega)
  have a2 : b * b ≤ r * b := Nat.mul_le_mul_right b h
  omega
end

theorem pair_le {b h l r u : Nat} (hl : l < b) (hu : u < b) : h * b + l ≤ r * b + u ↔ h < r ∨ h = r ∧ l ≤ u := by
  constructor
  · intro h1
    rcases Nat.lt_trichotomy h r with a | a | a
    · exact .inl a
    · subst a; exact .inr ⟨rfl, by omega⟩
    · have : (r + 1) * b ≤ h * b := Nat.mul_le_mul_right b a
      rw [Nat.add_mul] at this; omega
  · rintro (a | ⟨rfl, a⟩)
    · have : (h + 1) * b ≤ r * b := Nat.mul_le_mul_right b a
      rw [Nat.add_mul] at this; omega
    · omega

theorem round_fits {D U X L R R1 g E : Nat} (hR : R = U * X + L) (hL : L < X) (hU : U < (g + 1) * D) (h1 : R1 + D * g * X = R + 0 * E) : R1 < D * X ∧ R1 + D * g * X = R := by
  have a1 : (U + 1) * X ≤ (g + 1) * D * X := Nat.mul_le_mul_right X hU
  have a2 : (g + 1) * D * X = D * g * X + D * X := by rw [Nat.add_mul, Nat.add_mul, Nat.one_mul, Nat.mul_comm g D]
  rw [Nat.add_mul, Nat.one_mul] at a1
  omega

theorem round_back {D U X L R R1 R2 g E c : Nat} (hR : R = U * X + L) (hg : g * D ≤ U + D) (hE : R1 < E) (h1 : R1 + D * g * X = R + 1 * E) (hE2 : R2 < E) (hc : c ≤ 1) (h2 : R2 + c * E = R1 + D * X) :
    1 ≤ g ∧ R2 < D * X ∧ R2 + D * (g - 1) * X = R := by
  have g0 : 1 ≤ g := by rcases g with _ | g; simp at h1; omega; omega
  obtain ⟨q, rfl⟩ : ∃ q, g = q + 1 := ⟨g - 1, by omega⟩
  have a1 : D * (q + 1) * X = D * q * X + D * X := by rw [Nat.mul_add, Nat.mul_one, Nat.add_mul]
  have a2 : q * D * X ≤ U * X := Nat.mul_le_mul_right X (by rw [Nat.add_mul] at hg; omega)
  rw [Nat.mul_comm q D] at a2
  rw [a1] at h1
  simp only [Nat.add_sub_cancel]
  have hcc : c = 1 := by
    rcases Nat.lt_or_ge 0 c with hc0 | hc0
    · omega
    · obtain rfl : c = 0 := by omega
      omega
  subst hcc
  refine ⟨g0, ?_, ?_⟩ <;> omega

theorem V_ge {b : Nat} {f : Nat → Nat} {j : Nat} : ∀ n, j < n → f j * b ^ j ≤ V b f n
  | 0, h => absurd h (Nat.not_lt_zero _)
  | n + 1, h => by
    simp only [V]
    by_cases e : j = n
    · subst e; omega
    · have := V_ge (b := b) (f := f) (j := j) n (by omega); omega

theorem dg_small {b : Nat} {xs : List Nat} {t j : Nat} (hb : 0 < b) (h : num b xs < b ^ t) (hj : t ≤ j) : dg xs j = 0 := by
  by_cases hl : j < xs.length
  · have h1 := V_ge (b := b) (f := dg xs) xs.length hl
    have h2 := Nat.pow_le_pow_right hb hj
    rcases hd : dg xs j with _ | d
    · rfl
    · rw [hd] at h1
      have h3 : 1 * b ^ j ≤ (d + 1) * b ^ j := Nat.mul_le_mul_right _ (by omega)
      unfold num at h; omega
  · exact dg_out (by omega)

theorem num_upto {b : Nat} {xs : List Nat} {t : Nat} (h : ∀ j, t ≤ j → dg xs j = 0) : num b xs = V b (dg xs) t := by
  by_cases hl : t ≤ xs.length
  · exact V_zero _ hl h
  · exact (num_eq (by omega)).symm

theorem num_below {b : Nat} {xs : List Nat} {t : Nat} (ho : Ok b xs) (h : ∀ j, t ≤ j → dg xs j = 0) : num b xs < b ^ t := by
  rw [num_upto h]; exact V_lt t (fun i _ => ho i)

def guessOf (b u2 u1 u0 d1 d2 : Nat) : Nat := if d1 ≤ u2 then b - 1 else g3 b u2 u1 u0 d1 d2

theorem guess_good {b m k : Nat} {r ys : List Nat} (hb : 2 ≤ b) (or : Ok b r) (oy : Ok b ys) (hy : ys.length = m + 2) (htop : b ≤ 2 * dg ys (m + 1)) (hlt : num b r < num b ys * b ^ (k + 1)) :
    ∃ g U L, g = guessOf b (dg r (k + (m + 2))) (dg r (k + (m + 1))) (dg r (k + m)) (dg ys (m + 1)) (dg ys m) ∧ num b r = U * b ^ k + L ∧ L < b ^ k ∧ g < b ∧ U < (g + 1) * num b ys ∧ g * num b ys ≤ U + num b ys ∧ num b r < b ^ (k + (m + 3)) := by
  have hb0 : 0 < b := by omega
  have hys := num_lt oy
  rw [hy] at hys
  have hbig : num b r < b ^ (k + (m + 3)) := by
    refine Nat.lt_of_lt_of_le hlt ?_
    have := Nat.mul_le_mul_right (b ^ (k + 1)) (Nat.le_of_lt hys)
    rw [← Nat.pow_add] at this
    rw [show k + (m + 3) = m + 2 + (k + 1) by omega]; exact this
  have hr : num b r = V b (dg r) (k + (m + 3)) := num_upto (fun j hj => dg_small hb0 hbig hj)
  have hs := V_split b (dg r) k (m + 3)
  have hL : V b (dg r) k < b ^ k := V_lt k (fun i _ => or i)
  obtain ⟨U, hU⟩ : ∃ U, U = V b (fun i => dg r (k + i)) (m + 3) := ⟨_, rfl⟩
  rw [← hU] at hs
  have hR : num b r = U * b ^ k + V b (dg r) k := by rw [hr, hs, Nat.mul_comm]; omega
  have hUl : V b (fun i => dg r (k + i)) m < b ^ m := V_lt m (fun i _ => or _)
  have hDl : V b (dg ys) m < b ^ m := V_lt m (fun i _ => oy i)
  have hU' : U = V b (fun i => dg r (k + i)) m + dg r (k + m) * b ^ m + dg r (k + (m + 1)) * b ^ (m + 1) + dg r (k + (m + 2)) * b ^ (m + 2) := by rw [hU]; simp only [V]
  have hD' : num b ys = V b (dg ys) m + dg ys m * b ^ m + dg ys (m + 1) * b ^ (m + 1) := by unfold num; rw [hy]; simp only [V]
  have hUb : U < num b ys * b := by
    have : U * b ^ k < num b ys * b * b ^ k := by
      rw [Nat.pow_succ, Nat.mul_comm (b ^ k), ← Nat.mul_assoc] at hlt
      omega
    exact Nat.lt_of_mul_lt_mul_right this
  refine ⟨_, U, _, rfl, hR, hL, ?_⟩
  have o1 := or (k + (m + 1)); have o0 := or (k + m); have o2 := oy m
  generalize dg r (k + (m + 2)) = u2 at *
  generalize dg r (k + (m + 1)) = u1 at *
  generalize dg r (k + m) = u0 at *
  generalize dg ys (m + 1) = d1 at *
  generalize dg ys m = d2 at *
  generalize num b ys = D at *
  generalize V b (fun i => dg r (k + i)) m = Ul at *
  generalize V b (dg ys) m = Dl at *
  have p1 : b ^ (m + 1) = b ^ m * b := Nat.pow_succ ..
  have p2 : b ^ (m + 2) = b ^ m * b * b := by rw [Nat.pow_succ, Nat.pow_succ]
  rw [p1] at hD'
  rw [p1, p2] at hU'
  generalize b ^ m = K at *
  unfold guessOf
  split
  · next h =>
    obtain ⟨a1, a2, a3⟩ := guess_high (u1 := u1) (u0 := u0) (Dl := Dl) (Ul := Ul) (d2 := d2) (X := K * b) (K := K) (U := U) (D := D) (u2 := u2) (d1 := d1) rfl (by omega) (by
      have : (d2 + 1) * K ≤ b * K := Nat.mul_le_mul_right K o2
      rw [Nat.add_mul, Nat.mul_comm b K] at this; omega) (by omega) hb htop h hUb
    exact ⟨a1, a2, a3, hbig⟩
  · next h =>
    have e1 : (d1 * b + d2) * K = d1 * (K * b) + d2 * K := by rw [Nat.add_mul, Nat.mul_assoc, Nat.mul_comm b K]
    have e2 : (u2 * b * b + u1 * b + u0) * K = u2 * (K * b * b) + u1 * (K * b) + u0 * K := by
      rw [Nat.add_mul, Nat.add_mul, Nat.mul_assoc u1, Nat.mul_comm b K, Nat.mul_assoc u2, Nat.mul_assoc u2, Nat.mul_comm (b * b) K, Nat.mul_assoc K]
    obtain ⟨a1, a2, a3⟩ := guess_low (b := b) (u2 := u2) (u1 := u1) (u0 := u0) (d1 := d1) (d2 := d2) (K := K) (D := D) (U := U) (Dl := Dl) (Ul := Ul) (by rw [e1]; omega) hDl (by rw [e2]; omega) hUl o1 o0 (by omega)
    exact ⟨a1, a2, a3, hbig⟩

end Go.Proofs.YtobloamnaemfnaaGreatDoor

namespace Go.Proofs.YtobloamnaemfnaaGreatDoor
open Go.RowKit

structure MulInv (w : World) (n p : Nat) (x : Nat → Nat) (ny i : Nat) (wr : World) : Prop where
  bel : Below w.heap.size w wr
  row : ∃ r, Row .u64 134 wr w.heap.size r ∧ r.length = n ∧ Ok B64 r ∧ (∀ j, i + p ≤ j → dg r j = 0) ∧ num B64 r = V B64 x i * ny

theorem MulInv.step {w wr wr' : World} {n p ny i : Nat} {x : Nat → Nat} {r r' : List Nat} (hb : Below w.heap.size w wr) (hl : r.length = n) (hz : ∀ j, i + p ≤ j → dg r j = 0) (hn : num B64 r = V B64 x i * ny)
    (hg : wr.grownBy wr' (some w.heap.size)) (hr' : Row .u64 134 wr' w.heap.size r') (hl' : r'.length = r.length) (ho' : Ok B64 r') (hz' : ∀ j, i + p + 1 ≤ j → dg r' j = dg r j) (hn' : num B64 r' = num B64 r + ny * x i * B64 ^ i) :
    MulInv w n p x ny (i + 1) wr' := by
  refine ⟨hb.grown hg hb.size (fun k hk => by simp only [Option.some.injEq] at hk; omega), r', hr', by omega, ho', ?_, ?_⟩
  · intro j hj
    rw [hz' j (by omega)]; exact hz j (by omega)
  · rw [hn', hn]
    simp only [V]
    rw [Nat.add_mul, Nat.mul_comm ny, Nat.mul_assoc (x i), Nat.mul_assoc (x i), Nat.mul_comm (B64 ^ i) ny]

set_option maxHeartbeats 4000000 in
theorem mul_at (b o m ca p cb : Nat) (bo : Option Addr) (xt yt : List Nat) (w : World) (hm : m ≤ 10000000000) (hp : p ≤ 10000000000) (hx : xt.length = m) (hy : yt.length = p) (hb : b < w.heap.size)
    (hcell : ∀ i, i < xt.length → w.cell? ⟨b, o + i, none⟩ = some (.int .u64 ((dg xt i : Nat) : Int))) (ox : Ok B64 xt) (ay : At .u64 w bo yt) (oy : Ok B64 yt)
    (la lb ca' cb' : Nat)
    (c1 : ∀ w' : World, w'.heap = w.heap → Calls Tryz.prog 159 #[.slice (some ⟨b, o, none⟩) la ca'] w' fun e w'' => e = .returned (.slice (some ⟨b, o, none⟩) m ca) ∧ w' = w'')
    (c2 : ∀ w' : World, w'.heap = w.heap → Calls Tryz.prog 159 #[.slice bo lb cb'] w' fun e w'' => e = .returned (.slice bo p cb) ∧ w' = w'') :
    Calls Tryz.prog 113 #[.slice (some ⟨b, o, none⟩) la ca', .slice bo lb cb'] w (NatPost w (m + p) (num B64 xt * num B64 yt)) := by
  obtain ⟨i0, hi, hz0, hz1, hz2⟩ := info_parts Tryz.infoU
  have C1 : Hid (∀ w' : World, w'.heap = w.heap → Calls Tryz.prog 159 #[.slice (some ⟨b, o, none⟩) la ca'] w' fun e w'' => e = .returned (.slice (some ⟨b, o, none⟩) m ca) ∧ w' = w'') := c1
  have C2 : Hid (∀ w' : World, w'.heap = w.heap → Calls Tryz.prog 159 #[.slice bo lb cb'] w' fun e w'' => e = .returned (.slice bo p cb) ∧ w' = w'') := c2
  clear c1 c2
  go_enter Tryz.func113, Tryz.ntmps113
  go_wp2_with fail
  refine (C1.out _ rfl).mono ?_
  rintro e w' ⟨rfl, rfl⟩
  go_wp2_with fail
  refine (C2.out _ rfl).mono ?_
  rintro e w' ⟨rfl, rfl⟩
  go_wp2_with (at_make; refine wpList_make_full _ rfl _ _ 118 rfl w.heap.size 134 i0 (.int .u64 0) 1 Tryz.underlying118 hi hz0 hz1 _ _ _ _ (m + p) rfl rfl (by omega) (by omega) (by rw [hz2]; omega) (by unfold maxLen; omega) (Nat.le_refl _) ?_)
  intro w1 hown hgrow
  have hr1 : Row .u64 134 w1 w.heap.size (List.replicate (m + p) 0) := Row.made hown
  have hb1 : Below w.heap.size w w1 := (Below.refl _ _).grown hgrow (Nat.le_refl _) (fun k hk => by cases hk)
  clear hown hgrow
  go_wp2
  go_loopw [6, 7, 20] (fun _ _ i wr => ∃ k : Nat, k ≤ m ∧ i = .int .i64 k ∧ MulInv w (m + p) p (dg xt) (num B64 yt) k wr) (fun _ _ i _ => m - (intOf i).toNat)
  case atStart => exact ⟨0, Nat.zero_le _, rfl, hb1, _, hr1, by simp, Ok.replicate (by decide) _, fun j _ => dg_replicate _ j, by rw [num_replicate]; simp [V]⟩
  case round =>
    obtain ⟨k, hk, rfl, hinv⟩ := hrel
    by_cases hlt : k < m
    · obtain ⟨r, hr, hrl, hro, hrz, hrn⟩ := hinv.row
      have hbr := hinv.bel
      have c0 : wr.cell? ⟨b, o + k, none⟩ = some (.int .u64 ((dg xt k : Nat) : Int)) := (hbr.cell hb).trans (hcell k (by omega))
      have e0 : (k : Int) < (m : Int) := by omega
      have hst := fun wr' r' a1 a2 a3 a4 a5 a6 => MulInv.step (wr' := wr') (r' := r') hbr hrl hrz hrn a1 a2 a3 a4 a5 a6
      have ayr : At .u64 wr bo yt := ay.below hbr
      have hng : ∀ b o, yt ≠ [] → bo = some ⟨b, o, none⟩ → b ≠ w.heap.size := by
        intro b o hne e
        rcases ay with h | ⟨b', o', h1, h2, _⟩
        · exact absurd h hne
        · rw [e] at h1; simp only [Option.some.injEq, Addr.mk.injEq] at h1; omega
      obtain ⟨x, hxk⟩ : ∃ x, x = dg xt k := ⟨_, rfl⟩
      have hxb : x < B64 := by rw [hxk]; exact ox k
      rw [← hxk] at c0 hst
      have ad := addTimes_any w.heap.size k p (m + p - k) cb x bo r yt wr (by omega) hy ayr oy hxb hr hro (by omega) (hrz _ (Nat.le_refl _)) hng
      have AD : Hid (Calls Tryz.prog 160 #[.slice (some ⟨w.heap.size, k, none⟩) (p + 1) (m + p - k), .slice bo p cb, .int .u64 (x : Int)] wr (TimesPost wr w.heap.size r (num B64 yt * x * B64 ^ k) (k + p + 1))) := ad
      have HS : Hid (∀ wr' r', wr.grownBy wr' (some w.heap.size) → Row .u64 134 wr' w.heap.size r' → r'.length = r.length → Ok B64 r' → (∀ j, k + p + 1 ≤ j → dg r' j = dg r j) → num B64 r' = num B64 r + num B64 yt * x * B64 ^ k → MulInv w (m + p) p (dg xt) (num B64 yt) (k + 1) wr') := hst
      have hne : ¬ (m + p = k) := by omega
      have hle : (k : Int) + (p : Int) + 1 ≤ ((m + p : Nat) : Int) := by omega
      clear hxk hst hinv hr hrl hro hrz hrn hcell ox ad ayr hng
      go_wp2_with fail
      rw [show k + p + 1 - k = p + 1 by omega]
      refine AD.out.mono ?_
      rintro e w2 ⟨rfl, hgr, r', a1, a2, a3, a4, a5⟩
      have hinv' := HS.out _ _ hgr a1 a2 a3 a4 a5
      clear hgr a1 a2 a3 a4 a5
      go_wp2
      go_roundw
      case rel => exact ⟨k + 1, by omega, by go_num, hinv'⟩
      case measure => simp [intOf]; omega
    · obtain rfl : k = m := by omega
      obtain ⟨r, hr, hrl, hro, hrz, hrn⟩ := hinv.row
      have hbel := hinv.bel
      obtain ⟨q, hq⟩ : ∃ q, q = (trimmed r).length := ⟨_, rfl⟩
      have HQ : Hid ((trimmed r).length = q) := hq.symm
      have HL : Hid (r.length = k + p) := hrl
      have HR : Hid (num B64 r = num B64 xt * num B64 yt) := by rw [← hx] at hrn; exact hrn
      clear hq hrl hrn hrz hinv
      go_wp2_with fail
      refine (trim_to _ _ _ q r _ (Nat.le_refl _) (by omega) HL.out hr.at HQ.out).mono ?_
      rintro e w' ⟨rfl, rfl⟩
      go_wp2
      go_ret
      refine ⟨_, trimmed r, rfl, .inr ⟨w.heap.size, r, ?_, Nat.le_refl _, hr, ?_, ?_⟩, ?_, hbel⟩
      · rw [HL.out, HQ.out]; rfl
      · rw [length_trimmed]; rfl
      · rw [HL.out]; exact Nat.le_refl _
      · rw [← HR.out]; exact Is.trimmed hro

set_option maxHeartbeats 4000000 in
theorem mul_nil (ao bo : Option Addr) (ca p cb : Nat) (w : World) (hp : p ≤ 10000000000)
    (la lb ca' cb' : Nat)
    (c1 : ∀ w' : World, w'.heap = w.heap → Calls Tryz.prog 159 #[.slice ao la ca'] w' fun e w'' => e = .returned (.slice ao 0 ca) ∧ w' = w'')
    (c2 : ∀ w' : World, w'.heap = w.heap → Calls Tryz.prog 159 #[.slice bo lb cb'] w' fun e w'' => e = .returned (.slice bo p cb) ∧ w' = w'') :
    Calls Tryz.prog 113 #[.slice ao la ca', .slice bo lb cb'] w (NatPost w p 0) := by
  obtain ⟨i0, hi, hz0, hz1, hz2⟩ := info_parts Tryz.infoU
  have C1 : Hid (∀ w' : World, w'.heap = w.heap → Calls Tryz.prog 159 #[.slice ao la ca'] w' fun e w'' => e = .returned (.slice ao 0 ca) ∧ w' = w'') := c1
  have C2 : Hid (∀ w' : World, w'.heap = w.heap → Calls Tryz.prog 159 #[.slice bo lb cb'] w' fun e w'' => e = .returned (.slice bo p cb) ∧ w' = w'') := c2
  clear c1 c2
  go_enter Tryz.func113, Tryz.ntmps113
  go_wp2_with fail
  refine (C1.out _ rfl).mono ?_
  rintro e w' ⟨rfl, rfl⟩
  go_wp2_with fail
  refine (C2.out _ rfl).mono ?_
  rintro e w' ⟨rfl, rfl⟩
  go_wp2_with (at_make; refine wpList_make_full _ rfl _ _ 118 rfl w.heap.size 134 i0 (.int .u64 0) 1 Tryz.underlying118 hi hz0 hz1 _ _ _ _ p rfl rfl (by omega) (by omega) (by rw [hz2]; omega) (by unfold maxLen; omega) (Nat.le_refl _) ?_)
  intro w1 hown hgrow
  have hr1 : Row .u64 134 w1 w.heap.size (List.replicate p 0) := Row.made hown
  have hb1 : Below w.heap.size w w1 := (Below.refl _ _).grown hgrow (Nat.le_refl _) (fun k hk => by cases hk)
  clear hown hgrow
  obtain ⟨r, hrr⟩ : ∃ r, r = List.replicate p 0 := ⟨_, rfl⟩
  obtain ⟨q, hq⟩ : ∃ q, q = (trimmed r).length := ⟨_, rfl⟩
  have HQ : Hid ((trimmed r).length = q) := hq.symm
  have HL : Hid (r.length = p) := by rw [hrr]; simp [Hid]
  have HR : Hid (num B64 r = 0) := by rw [hrr]; exact num_replicate _ _
  have hro : Ok B64 r := by rw [hrr]; exact Ok.replicate (by decide) _
  rw [← hrr] at hr1
  clear hq hrr
  go_wp2
  refine wp_loop_rounds 1 ?_
  rw [rounds_succ]
  go_wp2_with fail
  refine (trim_to _ _ _ q r _ (Nat.le_refl _) (by omega) HL.out hr1.at HQ.out).mono ?_
  rintro e w' ⟨rfl, rfl⟩
  go_wp2
  go_ret
  refine ⟨_, trimmed r, rfl, .inr ⟨w.heap.size, r, ?_, Nat.le_refl _, hr1, ?_, ?_⟩, ?_, hb1⟩
  · rw [HL.out, HQ.out]; rfl
  · rw [length_trimmed]; rfl
  · rw [HL.out]; exact Nat.le_refl _
  · have := Is.trimmed hro
    rw [HR.out] at this; exact this

theorem At.same {k : IntKind} {w w' : World} {ao : Option Addr} {xs : List Nat} (h : At k w ao xs) (hh : w'.heap = w.heap) : At k w' ao xs := by
  rcases h with h | ⟨b, o, h1, h2, h3⟩
  · exact .inl h
  · exact .inr ⟨b, o, h1, by rw [hh]; exact h2, fun i hi => (World.cell?_of_block (w := w) (by rw [hh])).trans (h3 i hi)⟩

theorem mul_any (ao bo : Option Addr) (la ca lb cb : Nat) (xs ys : List Nat) (w : World) (hla : la ≤ ca) (hca : la ≤ 10000000000 ∧ ca ≤ 9223372036854775807) (hlb : lb ≤ cb) (hcb : lb ≤ 10000000000 ∧ cb ≤ 9223372036854775807)
    (hx : xs.length = la) (hy : ys.length = lb) (hax : At .u64 w ao xs) (hay : At .u64 w bo ys) (ox : Ok B64 xs) (oy : Ok B64 ys) :
    Calls Tryz.prog 113 #[.slice ao la ca, .slice bo lb cb] w (NatPost w (la + lb) (num B64 xs * num B64 ys)) := by
  have l1 := length_trimmed_le xs
  have l2 := length_trimmed_le ys
  have c2 := fun (w' : World) (h : w'.heap = w.heap) => trim_to bo lb cb (trimmed ys).length ys w' hlb (by omega) hy (hay.same h) rfl
  rw [← num_trimmed B64 xs, ← num_trimmed B64 ys]
  rcases hax.trimmed with h | ⟨b, o, h1, h2, h3⟩
  · have c1 := fun (w' : World) (h' : w'.heap = w.heap) => trim_to ao la ca 0 xs w' hla (by omega) hx (hax.same h') (by rw [h]; rfl)
    refine (mul_nil ao bo ca (trimmed ys).length cb w (by omega) la lb ca cb c1 c2).mono ?_
    rintro e w' ⟨v, r, e1, e2, e3, e4⟩
    refine ⟨v, r, e1, e2.mono (Nat.le_refl _) (by omega), ?_, e4⟩
    rw [h, show num B64 [] = 0 from rfl, Nat.zero_mul]; exact e3
  · subst h1
    have c1 := fun (w' : World) (h' : w'.heap = w.heap) => trim_to _ la ca (trimmed xs).length xs w' hla (by omega) hx (hax.same h') rfl
    refine (mul_at b o (trimmed xs).length ca (trimmed ys).length cb bo (trimmed xs) (trimmed ys) w (by omega) (by omega) rfl rfl h2 h3 (trimmed_ok ox) hay.trimmed (trimmed_ok oy) la lb ca cb c1 c2).mono ?_
    rintro e w' ⟨v, r, e1, e2, e3, e4⟩
    exact ⟨v, r, e1, e2.mono (Nat.le_refl _) (by omega), e3, e4⟩

end Go.Proofs.YtobloamnaemfnaaGreatDoor

namespace Go.Proofs.YtobloamnaemfnaaGreatDoor
open Go.RowKit

theorem like_set {w w' : World} (h : Like w' w) (a : Addr) (u : Value) : Like (w'.setCell a u) (w.setCell a u) :=
  ⟨by simp only [World.setCell]; rw [h.1], h.2.1, h.2.2.1, h.2.2.2⟩

theorem limb_step {b : Nat} {r : List Nat} {x : Nat → Nat} {n k rest N : Nat} (hk : k < r.length) (h0 : dg r k = 0)
    (h : num b r * n + rest * b ^ (k + 1) + V b x (k + 1) = N) : num b (r.set k ((rest * b + x k) / n)) * n + (rest * b + x k) % n * b ^ k + V b x k = N := by
  have e1 := num_set b r k ((rest * b + x k) / n) hk
  rw [h0, Nat.zero_mul, Nat.add_zero] at e1
  have e2 := Nat.div_add_mod (rest * b + x k) n
  rw [e1]
  generalize (rest * b + x k) / n = d at *
  generalize (rest * b + x k) % n = m at *
  simp only [V] at h
  have e3 : (n * d + m) * b ^ k = (rest * b + x k) * b ^ k := by rw [e2]
  rw [Nat.add_mul, Nat.add_mul] at e3
  have e4 : rest * b ^ (k + 1) = rest * b * b ^ k := by rw [Nat.pow_succ, Nat.mul_comm (b ^ k), Nat.mul_assoc]
  have e5 : d * b ^ k * n = n * d * b ^ k := by rw [Nat.mul_comm, Nat.mul_assoc]
  rw [Nat.add_mul, e5]
  omega

structure LimbInv (w : World) (m n N : Nat) (x : Nat → Nat) (k rest : Nat) (wr : World) : Prop where
  bel : Below w.heap.size w wr
  rl : rest < n
  row : ∃ r, Row .u64 134 wr w.heap.size r ∧ r.length = m ∧ Ok B64 r ∧ (∀ j, j < k → dg r j = 0) ∧ num B64 r * n + rest * B64 ^ k + V B64 x k = N

theorem LimbInv.step {w wr wr' : World} {m n N k rest : Nat} {x : Nat → Nat} {r : List Nat} (hb : Below w.heap.size w wr) (hrl : rest < n) (hr : Row .u64 134 wr w.heap.size r) (hl : r.length = m) (ho : Ok B64 r)
    (hz : ∀ j, j < k + 1 → dg r j = 0) (hN : num B64 r * n + rest * B64 ^ (k + 1) + V B64 x (k + 1) = N) (hk : k < m) (hx : x k < B64)
    (hw : Like wr' (wr.setCell ⟨w.heap.size, k, none⟩ (.int .u64 (((rest * B64 + x k) / n : Nat) : Int)))) : LimbInv w m n N x k ((rest * B64 + x k) % n) wr' := by
  have hn : 0 < n := by omega
  refine ⟨hw.below (hb.setCell (Nat.le_refl _) _), Nat.mod_lt _ hn, _, (hr.set k _).alike hw, by simp [hl], ho.set (by omega) ?_, ?_, limb_step (by omega) (hz k (by omega)) hN⟩
  · exact (Nat.div_lt_iff_lt_mul hn).2 (by rw [Nat.mul_comm B64 n]; exact half_lt hrl hx)
  · intro j hj
    rw [dg_set _ _ _ _ (by omega), if_neg (by omega)]
    exact hz j (by omega)

def LimbPost (w : World) (m q rest : Nat) (e : Ending) (w' : World) : Prop :=
  ∃ v r, e = .returned (.tuple #[v, .int .u64 (rest : Int)]) ∧ Own .u64 134 w' w.heap.size m v r ∧ Is B64 r q ∧ Below w.heap.size w w'

set_option maxHeartbeats 4000000 in
theorem divLimb_at (b o m cap n : Nat) (xs : List Nat) (w : World) (hm : m ≤ 10000000000) (hn : 0 < n) (hnb : n < B64) (hx : xs.length = m) (hb : b < w.heap.size)
    (hcell : ∀ i, i < xs.length → w.cell? ⟨b, o + i, none⟩ = some (.int .u64 ((dg xs i : Nat) : Int))) (ox : Ok B64 xs) :
    Calls Tryz.prog 226 #[.slice (some ⟨b, o, none⟩) m cap, .int .u64 (n : Int)] w (LimbPost w m (num B64 xs / n) (num B64 xs % n)) := by
  obtain ⟨i0, hi, hz0, hz1, hz2⟩ := info_parts Tryz.infoU
  go_enter Tryz.func226, Tryz.ntmps226
  go_wp2_with (at_make; refine wpList_make_full _ rfl _ _ 118 rfl w.heap.size 134 i0 (.int .u64 0) 1 Tryz.underlying118 hi hz0 hz1 _ _ _ _ m rfl rfl (by omega) (by omega) (by rw [hz2]; omega) (by unfold maxLen; omega) (Nat.le_refl _) ?_)
  intro w1 hown hgrow
  have hr1 : Row .u64 134 w1 w.heap.size (List.replicate m 0) := Row.made hown
  have hb1 : Below w.heap.size w w1 := (Below.refl _ _).grown hgrow (Nat.le_refl _) (fun k hk => by cases hk)
  clear hown hgrow
  go_wp2
  go_loopw [7, 8] (fun a i wr => ∃ k rest : Nat, k ≤ m ∧ a = .int .u64 (rest : Int) ∧ i = .int .i64 ((k : Int) - 1) ∧ LimbInv w m n (num B64 xs) (dg xs) k rest wr) (fun _ i _ => (intOf i + 1).toNat)
  case atStart =>
    refine ⟨m, 0, Nat.le_refl _, rfl, rfl, hb1, hn, _, hr1, by simp, Ok.replicate (by decide) _, fun j _ => dg_replicate _ j, ?_⟩
    rw [num_replicate, ← hx]; simp [num]
  case round =>
    obtain ⟨k, rest, hk, rfl, rfl, hinv⟩ := hrel
    rcases k with _ | k
    · obtain ⟨r, hr, hrl, hro, _, hrN⟩ := hinv.row
      have hbel := hinv.bel
      have hlt := hinv.rl
      simp only [V, Nat.pow_zero, Nat.mul_one, Nat.add_zero] at hrN
      have q1 : num B64 xs / n = num B64 r := by rw [← hrN, Nat.mul_comm, Nat.mul_add_div hn, Nat.div_eq_of_lt hlt, Nat.add_zero]
      have q2 : num B64 xs % n = rest := by rw [← hrN, Nat.mul_comm, Nat.mul_add_mod, Nat.mod_eq_of_lt hlt]
      obtain ⟨q, hq⟩ : ∃ q, q = (trimmed r).length := ⟨_, rfl⟩
      have HQ : Hid ((trimmed r).length = q) := hq.symm
      have HL : Hid (r.length = m) := hrl
      have H1 : Hid (num B64 xs / n = num B64 r) := q1
      have H2 : Hid (num B64 xs % n = rest) := q2
      clear hq hrl hrN hinv q1 q2 hcell
      go_wp2_with fail
      refine (trim_to _ _ _ q r _ (Nat.le_refl _) (by omega) HL.out hr.at HQ.out).mono ?_
      rintro e w' ⟨rfl, rfl⟩
      go_wp2
      go_ret2
      refine ⟨.slice (some ⟨w.heap.size, 0, none⟩) q m, trimmed r, ?_, .inr ⟨w.heap.size, r, ?_, Nat.le_refl _, hr, ?_, ?_⟩, ?_, hbel⟩
      · rw [H2.out]; rfl
      · rw [HL.out, HQ.out]
      · rw [length_trimmed]; rfl
      · rw [HL.out]; exact Nat.le_refl _
      · rw [H1.out]; exact Is.trimmed hro
    · obtain ⟨r, hr, hrl, hro, hrz, hrN⟩ := hinv.row
      have hbr := hinv.bel
      have hlt := hinv.rl
      have c0 : wr.cell? ⟨b, o + k, none⟩ = some (.int .u64 ((dg xs k : Nat) : Int)) := (hbr.cell hb).trans (hcell k (by omega))
      have c1 := hr.cell k (by omega)
      have f1 := hr.free k
      have e0 : (k : Int) < (m : Int) := by omega
      have hst := fun wr' hw => LimbInv.step (wr' := wr') hbr hlt hr hrl hro hrz hrN (by omega) (ox k) hw
      have dv := fun w => div64_any rest (dg xs k) n w hnb (ox k) hlt
      obtain ⟨x, hxk⟩ : ∃ x, x = dg xs k := ⟨_, rfl⟩
      rw [← hxk] at c0 hst dv
      obtain ⟨q, hq⟩ : ∃ q, q = (rest * B64 + x) / n := ⟨_, rfl⟩
      obtain ⟨t, ht⟩ : ∃ t, t = (rest * B64 + x) % n := ⟨_, rfl⟩
      rw [← hq, ← ht] at hst dv
      have HS : Hid (∀ wr', Like wr' (wr.setCell ⟨w.heap.size, k, none⟩ (.int .u64 (q : Int))) → LimbInv w m n (num B64 xs) (dg xs) k t wr') := hst
      have HD : Hid (∀ w, Calls Tryz.prog 244 #[.int .u64 (rest : Int), .int .u64 (x : Int), .int .u64 (n : Int)] w fun e w' => e = .returned (.tuple #[.int .u64 (q : Int), .int .u64 (t : Int)]) ∧ Like w' w) := dv
      clear hxk hq ht hst dv hinv hr hrl hro hrz hrN hcell ox hlt
      go_wp2_with fail
      refine (HD.out _).mono ?_
      rintro e w2 ⟨rfl, hlike⟩
      have c1' : w2.cell? ⟨w.heap.size, k, none⟩ = some (.int .u64 ((dg r k : Nat) : Int)) := (World.cell?_of_block (w := wr) (by rw [hlike.1])).trans c1
      have f1' : w2.frozen? ⟨w.heap.size, k, none⟩ = false := (World.frozen?_of_block (w := wr) (by rw [hlike.1])).trans f1
      have HK : Hid (Like w2 wr) := hlike
      clear hlike
      go_wp2
      go_roundw
      case rel => exact ⟨k, t, by omega, rfl, by go_num, HS.out _ (like_set HK.out _ _)⟩
      case measure => simp [intOf]

end Go.Proofs.YtobloamnaemfnaaGreatDoor

namespace Go.Proofs.YtobloamnaemfnaaGreatDoor
open Go.RowKit

def DivPost (w : World) (m q r : Nat) (err : Int) (e : Ending) (w' : World) : Prop :=
  ∃ v1 r1 v2 r2, e = .returned (.tuple #[v1, v2, .int .i64 err]) ∧ Own .u64 134 w' w.heap.size m v1 r1 ∧ Own .u64 134 w' w.heap.size m v2 r2 ∧ Is B64 r1 q ∧ Is B64 r2 r ∧ Below w.heap.size w w' ∧
    (v1.ownBlock = none ∨ v1.ownBlock ≠ v2.ownBlock)

set_option maxHeartbeats 4000000 in
theorem divmod_less (ao bo : Option Addr) (la ca lb cb m p n : Nat) (w : World) (hmp : m < p) (_hp : p ≤ 10000000000)
    (c1 : ∀ w' : World, w'.heap = w.heap → Calls Tryz.prog 159 #[.slice ao la ca] w' fun e w'' => e = .returned (.slice ao m ca) ∧ w' = w'')
    (c2 : ∀ w' : World, w'.heap = w.heap → Calls Tryz.prog 159 #[.slice bo lb cb] w' fun e w'' => e = .returned (.slice bo p cb) ∧ w' = w'')
    (c3 : Calls Tryz.prog 192 #[.slice ao m ca] w (NatPost w m n)) :
    Calls Tryz.prog 194 #[.slice ao la ca, .slice bo lb cb] w (DivPost w m 0 n 0) := by
  have C1 : Hid (∀ w' : World, w'.heap = w.heap → Calls Tryz.prog 159 #[.slice ao la ca] w' fun e w'' => e = .returned (.slice ao m ca) ∧ w' = w'') := c1
  have C2 : Hid (∀ w' : World, w'.heap = w.heap → Calls Tryz.prog 159 #[.slice bo lb cb] w' fun e w'' => e = .returned (.slice bo p cb) ∧ w' = w'') := c2
  have C3 : Hid (Calls Tryz.prog 192 #[.slice ao m ca] w (NatPost w m n)) := c3
  have n1 : ((p : Int) == 0) = false := by rw [beq_eq_false_iff_ne]; omega
  have n2 : (m : Int) < (p : Int) := by omega
  clear c1 c2 c3
  go_enter Tryz.func194, Tryz.ntmps194
  go_wp2_with fail
  refine (C1.out _ rfl).mono ?_
  rintro e w' ⟨rfl, rfl⟩
  go_wp2_with fail
  refine (C2.out _ rfl).mono ?_
  rintro e w' ⟨rfl, rfl⟩
  go_wp2_with fail
  refine C3.out.mono ?_
  rintro e w1 ⟨v, r, rfl, hown, his, hbel⟩
  go_wp2
  go_ret3
  exact ⟨_, [], _, r, rfl, .inl ⟨rfl, rfl⟩, hown, Is.none (by decide), his, hbel, .inl rfl⟩

set_option maxHeartbeats 4000000 in
theorem divmod_limb (ao : Option Addr) (b o la ca lb cb m q n d : Nat) (w : World) (hm : 1 ≤ m) (hml : m ≤ 10000000000)
    (c1 : ∀ w' : World, w'.heap = w.heap → Calls Tryz.prog 159 #[.slice ao la ca] w' fun e w'' => e = .returned (.slice ao m ca) ∧ w' = w'')
    (c2 : ∀ w' : World, w'.heap = w.heap → Calls Tryz.prog 159 #[.slice (some ⟨b, o, none⟩) lb cb] w' fun e w'' => e = .returned (.slice (some ⟨b, o, none⟩) 1 cb) ∧ w' = w'')
    (hc : w.cell? ⟨b, o, none⟩ = some (.int .u64 (d : Int)))
    (c3 : Calls Tryz.prog 226 #[.slice ao m ca, .int .u64 (d : Int)] w (LimbPost w m q n)) (hn : n < B64) :
    Calls Tryz.prog 194 #[.slice ao la ca, .slice (some ⟨b, o, none⟩) lb cb] w (DivPost w m q n 0) := by
  have C1 : Hid (∀ w' : World, w'.heap = w.heap → Calls Tryz.prog 159 #[.slice ao la ca] w' fun e w'' => e = .returned (.slice ao m ca) ∧ w' = w'') := c1
  have C2 : Hid (∀ w' : World, w'.heap = w.heap → Calls Tryz.prog 159 #[.slice (some ⟨b, o, none⟩) lb cb] w' fun e w'' => e = .returned (.slice (some ⟨b, o, none⟩) 1 cb) ∧ w' = w'') := c2
  have C3 : Hid (Calls Tryz.prog 226 #[.slice ao m ca, .int .u64 (d : Int)] w (LimbPost w m q n)) := c3
  have n2 : ¬ (m : Int) < 1 := by omega
  have HN : Hid (n < B64) := hn
  clear c1 c2 c3 hn
  go_enter Tryz.func194, Tryz.ntmps194
  go_wp2_with fail
  refine (C1.out _ rfl).mono ?_
  rintro e w' ⟨rfl, rfl⟩
  go_wp2_with fail
  refine (C2.out _ rfl).mono ?_
  rintro e w' ⟨rfl, rfl⟩
  go_wp2_with fail
  refine C3.out.mono ?_
  rintro e w1 ⟨v, r, rfl, hown, his, hbel⟩
  go_wp2_with fail
  refine (of_any n _ HN.out).mono ?_
  rintro e w2 ⟨v2, r2, rfl, hown2, his2, hbel2⟩
  go_wp2
  go_ret3
  refine ⟨v, r, v2, r2, rfl, hown.below hbel2, hown2.mono hbel.size hm, his, his2, hbel.trans (hbel2.mono hbel.size), ?_⟩
  rcases hown with ⟨rfl, _⟩ | ⟨g, full, rfl, _, hr, _⟩
  · exact .inl rfl
  · refine .inr ?_
    have := hr.lt
    rcases hown2 with ⟨rfl, _⟩ | ⟨g2, full2, rfl, hg2, _⟩
    · simp [Value.ownBlock]
    · simp [Value.ownBlock]; omega

end Go.Proofs.YtobloamnaemfnaaGreatDoor
