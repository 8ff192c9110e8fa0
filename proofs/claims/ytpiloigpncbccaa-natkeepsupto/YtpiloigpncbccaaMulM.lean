/-
  Plain mathematics of multiplying a list by one digit and adding it to a row.
-/
import Derived.Test.YtpiloigpncbccaaShiftM
import Derived.Test.YtpiloigpncbccaaDownM
namespace Go.Proofs.Ytpiloigpncbccaa

/-- The carry behind i digits of 'row + y times n'. -/
def mulC (b : Nat) (f y : Nat → Nat) (n : Nat) : Nat → Nat
  | 0 => 0
  | i + 1 => (f i + y i * n + mulC b f y n i) / b

def mulD (b : Nat) (f y : Nat → Nat) (n i : Nat) : Nat := (f i + y i * n + mulC b f y n i) % b

theorem mul_bound {b x y n c : Nat} (hx : x < b) (hy : y < b) (hn : n < b) (hc : c < b) : x + y * n + c < b * b := by
  obtain ⟨a, rfl⟩ : ∃ a, b = a + 1 := ⟨b - 1, by omega⟩
  have h1 : y * n ≤ a * a := Nat.mul_le_mul (by omega) (by omega)
  have h2 : (a + 1) * (a + 1) = a * a + a + a + 1 := by rw [Nat.add_mul, Nat.mul_add]; omega
  omega

theorem mulC_lt {b : Nat} {f y : Nat → Nat} {n : Nat} (hb : 0 < b) (hf : ∀ i, f i < b) (hy : ∀ i, y i < b) (hn : n < b) : ∀ i, mulC b f y n i < b
  | 0 => hb
  | i + 1 => by
    have h := mulC_lt hb hf hy hn i
    simp only [mulC]
    exact (Nat.div_lt_iff_lt_mul hb).2 (mul_bound (hf i) (hy i) hn h)

theorem mulD_lt {b : Nat} (hb : 0 < b) (f y : Nat → Nat) (n i : Nat) : mulD b f y n i < b := Nat.mod_lt _ hb

theorem mulD_eq (b : Nat) (f y : Nat → Nat) (n i : Nat) : mulD b f y n i + mulC b f y n (i + 1) * b = f i + y i * n + mulC b f y n i := by
  simp only [mulD, mulC]
  have := Nat.div_add_mod (f i + y i * n + mulC b f y n i) b
  rw [Nat.mul_comm b] at this; omega

/-- One round of addTimes: the row's number and the carry. -/
theorem mul_step {b : Nat} {r0 r : List Nat} {y : Nat → Nat} {n off i : Nat} (hi : off + i < r.length) (hd : dg r (off + i) = dg r0 (off + i))
    (h : num b r + mulC b (fun j => dg r0 (off + j)) y n i * b ^ (off + i) = num b r0 + V b y i * n * b ^ off) :
    num b (r.set (off + i) (mulD b (fun j => dg r0 (off + j)) y n i)) + mulC b (fun j => dg r0 (off + j)) y n (i + 1) * b ^ (off + (i + 1)) = num b r0 + V b y (i + 1) * n * b ^ off := by
  have e1 := num_set b r (off + i) (mulD b (fun j => dg r0 (off + j)) y n i) hi
  have e2 := mulD_eq b (fun j => dg r0 (off + j)) y n i
  rw [hd] at e1
  simp only [V]
  generalize mulC b (fun j => dg r0 (off + j)) y n (i + 1) = c' at *
  generalize mulC b (fun j => dg r0 (off + j)) y n i = c at *
  generalize mulD b (fun j => dg r0 (off + j)) y n i = d at *
  generalize dg r0 (off + i) = f at *
  have e3 : (d + c' * b) * b ^ (off + i) = (f + y i * n + c) * b ^ (off + i) := by rw [e2]
  rw [Nat.add_mul, Nat.add_mul, Nat.add_mul] at e3
  have e4 : c' * b ^ (off + (i + 1)) = c' * b * b ^ (off + i) := by rw [← Nat.add_assoc, Nat.pow_succ, Nat.mul_comm (b ^ (off + i)), Nat.mul_assoc]
  have e5 : (V b y i + y i * b ^ i) * n * b ^ off = V b y i * n * b ^ off + y i * n * b ^ (off + i) := by
    rw [Nat.add_mul, Nat.add_mul, Nat.pow_add]
    congr 1
    rw [Nat.mul_assoc, Nat.mul_assoc, Nat.mul_assoc, Nat.mul_comm (b ^ i), Nat.mul_assoc]
  rw [e4, e5]
  omega

end Go.Proofs.Ytpiloigpncbccaa
