/-
  Plain mathematics of dividing two digits by one, half a digit at a time (as the library's Div64 does).
-/
import Derived.Test.YtpiloigpncbccaaMulM
namespace Go.Proofs.Ytpiloigpncbccaa

section
variable {K U Y y1 y0 u1 q rh : Nat}

theorem half_lt (hU : U < Y) (hu1 : u1 < K) : U * K + u1 < Y * K := by
  have : (U + 1) * K ≤ Y * K := Nat.mul_le_mul_right _ hU
  rw [Nat.add_mul, Nat.one_mul] at this; omega

theorem half_prod (hY : Y = y1 * K + y0) (hinv : q * y1 + rh = U) : q * Y + K * rh = U * K + q * y0 := by
  rw [hY, Nat.mul_add, ← hinv, Nat.add_mul, ← Nat.mul_assoc, Nat.mul_comm K rh]; omega

theorem half_exit (hY : Y = y1 * K + y0) (h0 : 0 < Y) (hinv : q * y1 + rh = U) (hge : (U * K + u1) / Y ≤ q) (ht : q * y0 ≤ K * rh + u1) : q = (U * K + u1) / Y := by
  have h := half_prod hY hinv
  have : q ≤ (U * K + u1) / Y := (Nat.le_div_iff_mul_le h0).2 (by omega)
  omega

theorem half_dec (hY : Y = y1 * K + y0) (h0 : 0 < Y) (hU : U < Y) (hu1 : u1 < K) (hinv : q * y1 + rh = U) (hc : K ≤ q ∨ K * rh + u1 < q * y0) : (U * K + u1) / Y + 1 ≤ q := by
  rcases hc with hc | hc
  · have h1 := half_lt hU hu1
    have : (U * K + u1) / Y < K := (Nat.div_lt_iff_lt_mul h0).2 (by rw [Nat.mul_comm K]; exact h1)
    omega
  · have h := half_prod hY hinv
    have : (U * K + u1) / Y < q := (Nat.div_lt_iff_lt_mul h0).2 (by omega)
    omega

theorem half_break (hY : Y = y1 * K + y0) (h0 : 0 < Y) (hy0 : y0 < K) (hinv : (q + 1) * y1 + rh = U) (hge : (U * K + u1) / Y ≤ q) (hq : q ≤ K) (hr : K ≤ rh + y1) : q = (U * K + u1) / Y := by
  have hinv' : q * y1 + (rh + y1) = U := by rw [Nat.add_mul, Nat.one_mul] at hinv; omega
  refine half_exit hY h0 hinv' hge ?_
  have h1 : q * y0 ≤ K * y0 := Nat.mul_le_mul_right _ hq
  have h2 : K * y0 ≤ K * K := Nat.mul_le_mul_left _ (by omega)
  have h3 : K * K ≤ K * (rh + y1) := Nat.mul_le_mul_left _ hr
  omega

theorem half_start (hY : Y = y1 * K + y0) (hU : U < Y) (hy1 : 0 < y1) (hy0 : y0 < K) (hk : K ≤ 2 * y1) : U / y1 ≤ K + 1 := by
  have : U / y1 < K + 2 := (Nat.div_lt_iff_lt_mul hy1).2 (by rw [Nat.add_mul, Nat.mul_comm K]; omega)
  omega

theorem half_ge (hY : Y = y1 * K + y0) (hy1 : 0 < y1) (hu1 : u1 < K) : (U * K + u1) / Y ≤ U / y1 := by
  have hK : 0 < K := by omega
  have h1 : (U * K + u1) / Y ≤ (U * K + u1) / (y1 * K) := Nat.div_le_div_left (by omega) (Nat.mul_pos hy1 hK)
  have h2 : (U * K + u1) / (y1 * K) = U / y1 := by
    rw [Nat.mul_comm y1 K, ← Nat.div_div_eq_div_mul, Nat.mul_comm U K, Nat.mul_add_div hK, Nat.div_eq_of_lt hu1, Nat.add_zero]
  omega
end

/-- Two digits divided by one, by halves. -/
theorem halves {K U u1 u0 Y : Nat} (h0 : 0 < Y) :
    ((U * K + u1) * K + u0) / Y = (U * K + u1) / Y * K + ((U * K + u1) % Y * K + u0) / Y ∧ ((U * K + u1) * K + u0) % Y = ((U * K + u1) % Y * K + u0) % Y := by
  have e := Nat.div_add_mod (U * K + u1) Y
  generalize (U * K + u1) / Y = q at *
  generalize (U * K + u1) % Y = r at *
  rw [← e, Nat.add_mul, Nat.mul_assoc, Nat.add_assoc]
  exact ⟨Nat.mul_add_div h0 _ _, Nat.mul_add_mod _ _ _⟩

end Go.Proofs.Ytpiloigpncbccaa
