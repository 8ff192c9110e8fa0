/-
  What math/bits.Div64 does: the quotient and the rest of two limbs by one.
-/
import Derived.Test.YtpiloigpncbccaaDiv
import Derived.Test.YtpiloigpncbccaaUint
import Derived.Test.YtpiloigpncbccaaShift
namespace Go.Proofs.Ytpiloigpncbccaa
open Go.RowKit

theorem wrap_sub3 (a u b r : Nat) (h : a + u = b + r) (hr : r < 18446744073709551616) :
    IntKind.u64.wrap (IntKind.u64.wrap (IntKind.u64.wrap (a : Int) + (u : Int)) - IntKind.u64.wrap (b : Int)) = (r : Int) := by
  simp only [IntKind.wrap_u64]; omega

theorem wrap_sub2 (a b r : Nat) (h : a = b + r) (hr : r < 18446744073709551616) (_ha : a < 18446744073709551616) :
    IntKind.u64.wrap ((a : Int) - IntKind.u64.wrap (b : Int)) = (r : Int) := by
  simp only [IntKind.wrap_u64]; omega

theorem natMulK (a : Nat) : (a : Int) * 4294967296 = ((a * 4294967296 : Nat) : Int) := (Int.natCast_mul a 4294967296).symm

/-- Two limbs, shifted up by s so that the divisor's highest bit is set. -/
theorem norm_shift {hi lo y s : Nat} (hlo : lo < 2 ^ 64) (hy : hi < y) (hs : s ≤ 64) (hY : y * 2 ^ s < 2 ^ 64) :
    hi * 2 ^ s % 2 ^ 64 = hi * 2 ^ s ∧ (hi * 2 ^ s ||| lo / 2 ^ (64 - s)) = hi * 2 ^ s + lo / 2 ^ (64 - s) ∧ hi * 2 ^ s + lo / 2 ^ (64 - s) < y * 2 ^ s ∧
    (hi * 2 ^ s + lo / 2 ^ (64 - s)) * 2 ^ 64 + lo * 2 ^ s % 2 ^ 64 = (hi * 2 ^ 64 + lo) * 2 ^ s := by
  have h1 : lo / 2 ^ (64 - s) < 2 ^ s := high_lt hs hlo
  have h2 : (hi + 1) * 2 ^ s ≤ y * 2 ^ s := Nat.mul_le_mul_right _ hy
  rw [Nat.add_mul, Nat.one_mul] at h2
  have h3 := Nat.two_pow_pos s
  refine ⟨Nat.mod_eq_of_lt (by omega), ?_, by omega, ?_⟩
  · rw [Nat.or_comm, or_low h1]; omega
  · have e := Nat.div_add_mod (lo * 2 ^ s) (2 ^ 64)
    rw [high_eq hs] at e
    rw [Nat.add_mul, Nat.add_mul, Nat.mul_right_comm hi, Nat.mul_comm (lo / 2 ^ (64 - s))]
    omega

theorem div64_any (hi lo y : Nat) (w : World) (hy : y < B64) (hlo : lo < B64) (hlt : hi < y) :
    Calls Try.prog 29 #[.int .u64 (hi : Int), .int .u64 (lo : Int), .int .u64 (y : Int)] w fun e w' =>
      e = .returned (.tuple #[.int .u64 (((hi * B64 + lo) / y : Nat) : Int), .int .u64 (((hi * B64 + lo) % y : Nat) : Int)]) ∧ Like w' w := by
  by_cases h0 : hi = 0
  · subst h0
    have := div64_short lo y w hlt hlo
    rw [Nat.zero_mul, Nat.zero_add]
    exact this
  · have hM : (2 : Nat) ^ 64 = 18446744073709551616 := by decide +kernel
    obtain ⟨n, hn, hn1, hn2⟩ := bitsN_spec (show y ≠ 0 by omega)
    have hbl := bitLen_bits y (by rw [← B64_pow]; exact hy)
    have hle := bitsN_le hy
    obtain ⟨s, hs⟩ : ∃ s, s = 63 - n := ⟨_, rfl⟩
    have hp : 2 ^ (n + 1) * 2 ^ s = (2 : Nat) ^ 64 := by rw [← Nat.pow_add]; congr 1; omega
    have hp2 : 2 ^ n * 2 ^ s = (2 : Nat) ^ 63 := by rw [← Nat.pow_add]; congr 1; omega
    have h63 : (2 : Nat) ^ 63 = 9223372036854775808 := by decide +kernel
    have hY : y * 2 ^ s < 2 ^ 64 := by rw [← hp]; exact Nat.mul_lt_mul_of_pos_right hn2 (Nat.two_pow_pos s)
    have hYl : 2 ^ 63 ≤ y * 2 ^ s := by rw [← hp2]; exact Nat.mul_le_mul_right _ hn1
    obtain ⟨a1, a2, a3, a4⟩ := norm_shift (hi := hi) (lo := lo) (y := y) (s := s) (by rw [← B64_pow]; exact hlo) hlt (by omega) hY
    have hdN : ((hi * B64 + lo) * 2 ^ s) / (y * 2 ^ s) = (hi * B64 + lo) / y := Nat.mul_div_mul_right _ _ (Nat.two_pow_pos s)
    have hmN : ((hi * B64 + lo) * 2 ^ s) % (y * 2 ^ s) / 2 ^ s = (hi * B64 + lo) % y := by
      rw [Nat.mul_mod_mul_right, Nat.mul_div_cancel _ (Nat.two_pow_pos s)]
    rw [← B64_pow] at a4
    rw [← a4] at hdN hmN
    have wA := wrap_shl hi s
    have wL := wrap_shl lo s
    have wY := wrap_shl y s
    rw [a1] at wA
    rw [Nat.mod_eq_of_lt hY] at wY
    have hLlt : lo * 2 ^ s % 2 ^ 64 < 2 ^ 64 := Nat.mod_lt _ (Nat.two_pow_pos _)
    rw [B64_pow] at hdN hmN
    generalize lo * 2 ^ s % 2 ^ 64 = L at *
    have hC : (lo : Int) / 2 ^ (64 - s) = ((lo / 2 ^ (64 - s) : Nat) : Int) := shr_nat lo (64 - s)
    have hClt : lo / 2 ^ (64 - s) ≤ lo := Nat.div_le_self _ _
    generalize lo / 2 ^ (64 - s) = C at *
    have hAlt : hi * 2 ^ s < 2 ^ 64 := by omega
    generalize hi * 2 ^ s = A at *
    have hU : bits .or .u64 (A : Int) (C : Int) = ((A + C : Nat) : Int) := by
      rw [or_nat A C (by rw [B64_pow]; exact hAlt) (Nat.lt_of_le_of_lt hClt hlo), a2]
    generalize A + C = U at *
    generalize hYY : y * 2 ^ s = Y at *
    have hK1 : L / 4294967296 < 4294967296 := by omega
    have hK0 : L % 4294967296 < 4294967296 := Nat.mod_lt _ (by omega)
    have hy0 : Y % 4294967296 < 4294967296 := Nat.mod_lt _ (by omega)
    have hy1 : Y / 4294967296 < 4294967296 := by omega
    have hYe : Y = Y / 4294967296 * 4294967296 + Y % 4294967296 := by omega
    have hK2 : 4294967296 ≤ 2 * (Y / 4294967296) := by omega
    have hYpos : 0 < Y := by omega
    have hLe : U * 2 ^ 64 + L = (U * 4294967296 + L / 4294967296) * 4294967296 + L % 4294967296 := by rw [hM]; omega
    have hh := halves (K := 4294967296) (U := U) (u1 := L / 4294967296) (u0 := L % 4294967296) (Y := Y) hYpos
    rw [← hLe, hdN] at hh
    obtain ⟨u1, hu1⟩ : ∃ z, z = L / 4294967296 := ⟨_, rfl⟩
    obtain ⟨u0, hu0⟩ : ∃ z, z = L % 4294967296 := ⟨_, rfl⟩
    obtain ⟨y1, hy1e⟩ : ∃ z, z = Y / 4294967296 := ⟨_, rfl⟩
    obtain ⟨y0, hy0e⟩ : ∃ z, z = Y % 4294967296 := ⟨_, rfl⟩
    have v1 : (L : Int) / 4294967296 = (u1 : Int) := by rw [hu1]; exact div32 L
    have v0 : bits .and .u64 (L : Int) 4294967295 = (u0 : Int) := by rw [hu0]; exact and32 L (by omega)
    have z1 : (Y : Int) / 4294967296 = (y1 : Int) := by rw [hy1e]; exact div32 Y
    have z0 : bits .and .u64 (Y : Int) 4294967295 = (y0 : Int) := by rw [hy0e]; exact and32 Y (by omega)
    rw [← hu1, ← hu0] at hh
    rw [← hu1] at hK1
    rw [← hu0] at hK0
    rw [← hy0e] at hy0
    rw [← hy1e] at hy1 hK2
    rw [← hy1e, ← hy0e] at hYe
    have f1 : HalfFits U Y y1 y0 u1 := ⟨hYe, hYpos, hy0, hy1, a3, hK1⟩
    have hR : (U * 4294967296 + u1) % Y < Y := Nat.mod_lt _ hYpos
    have f2 : HalfFits ((U * 4294967296 + u1) % Y) Y y1 y0 u0 := ⟨hYe, hYpos, hy0, hy1, hR, hK0⟩
    have q1l : (U * 4294967296 + u1) / Y < 4294967296 := (Nat.div_lt_iff_lt_mul hYpos).2 (by rw [Nat.mul_comm 4294967296]; exact half_lt a3 hK1)
    have q2l : ((U * 4294967296 + u1) % Y * 4294967296 + u0) / Y < 4294967296 := (Nat.div_lt_iff_lt_mul hYpos).2 (by rw [Nat.mul_comm 4294967296]; exact half_lt hR hK0)
    have e1 := Nat.div_add_mod (U * 4294967296 + u1) Y
    have e2 := Nat.div_add_mod ((U * 4294967296 + u1) % Y * 4294967296 + u0) Y
    have hR2 : ((U * 4294967296 + u1) % Y * 4294967296 + u0) % Y < Y := Nat.mod_lt _ hYpos
    rw [hh.2] at hmN
    obtain ⟨Q1, hQ1⟩ : ∃ z, (U * 4294967296 + u1) / Y = z := ⟨_, rfl⟩
    obtain ⟨R, hRR⟩ : ∃ z, (U * 4294967296 + u1) % Y = z := ⟨_, rfl⟩
    rw [hQ1] at q1l e1 hh
    rw [hRR] at e1 e2 f2 hR q2l hR2 hmN hh
    obtain ⟨Q2, hQ2⟩ : ∃ z, (R * 4294967296 + u0) / Y = z := ⟨_, rfl⟩
    rw [hQ2] at q2l e2 hh
    have q0e := Nat.div_add_mod U y1
    have p0e := Nat.div_add_mod R y1
    have hc : ∀ w, Calls Try.prog 30 #[.int .u64 (y : Int)] w fun e w' => e = .returned (.int .i64 (s : Int)) ∧ w = w' := by
      intro w
      have := lead64 y w (by rw [← hM, ← B64_pow]; exact hy)
      rw [hbl, hn, show 64 - (n + 1) = s by omega] at this
      exact this
    have b1 : U / y1 ≤ U := Nat.div_le_self _ _
    have b2 : U % y1 ≤ U := Nat.mod_le _ _
    have b3 : R / y1 ≤ R := Nat.div_le_self _ _
    have b4 : R % y1 ≤ R := Nat.mod_le _ _
    have core := div64_core hi lo y s (64 - s) Y y1 y0 A C U L u1 u0 (U / y1) (U % y1) R (R / y1) (R % y1) w (Q1 * 4294967296 + Q2) ((R * 4294967296 + u0) % Y / 2 ^ s) hc
      (by rw [beq_eq_false_iff_ne]; omega) (by omega) (by rw [beq_eq_false_iff_ne]; omega) (by omega) (by omega) (by omega) (wrapLt s (by omega)) wY z1 z0 wA
      (by rw [show (64 : Int) - (s : Int) = ((64 - s : Nat) : Int) by omega]; exact wrapLt _ (by omega)) hC hU wL v1 v0 (Int.natCast_ediv U y1).symm (wrapLt _ (by omega))
      (by rw [natMul]; exact wrap_sub2 U _ _ (by rw [Nat.mul_comm]; exact q0e.symm) (by omega) (by omega)) f1 (half_begin f1 hK2) f2 (half_begin f2 hK2) Q1 Q2 hQ1 hQ2
      (by rw [natMulK, natMul]; exact wrap_sub3 _ _ _ _ (by rw [Nat.mul_comm Q1]; exact e1.symm) (by omega)) (Int.natCast_ediv R y1).symm (wrapLt _ (by omega))
      (by rw [natMul]; exact wrap_sub2 R _ _ (by rw [Nat.mul_comm]; exact p0e.symm) (by omega) (by omega))
      (by rw [natMulK, wrapLt _ (by omega), natAdd, wrapLt _ (by omega)])
      (by rw [natMulK, natMul, wrap_sub3 _ _ _ ((R * 4294967296 + u0) % Y) (by rw [Nat.mul_comm Q2]; exact e2.symm) (by omega)]; exact shr_nat _ s)
    refine core.mono ?_
    rintro e w' ⟨rfl, rfl⟩
    rw [hmN, ← hh.1]
    exact ⟨rfl, rfl, rfl, rfl, rfl⟩

end Go.Proofs.Ytpiloigpncbccaa
