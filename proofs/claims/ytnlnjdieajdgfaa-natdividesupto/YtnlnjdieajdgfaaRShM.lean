/-
  Plain mathematics of the reference's shifts.
-/
import Derived.Test.YtnlnjdieajdgfaaRAdd
import Derived.Test.YtnlnjdieajdgfaaMulM
import Derived.Test.YtnlnjdieajdgfaaDownM
namespace Go.Proofs.Ytnlnjdieajdgfaa

theorem mul_val (b : Nat) (f y : Nat → Nat) (n : Nat) : ∀ m, V b f m + V b y m * n = V b (mulD b f y n) m + mulC b f y n m * b ^ m
  | 0 => by simp [V, mulC]
  | m + 1 => by
    have ih := mul_val b f y n m
    have e := mulD_eq b f y n m
    simp only [V]
    have e2 : (mulD b f y n m + mulC b f y n (m + 1) * b) * b ^ m = (f m + y m * n + mulC b f y n m) * b ^ m := by rw [e]
    rw [Nat.add_mul, Nat.add_mul, Nat.add_mul] at e2
    have e3 : mulC b f y n (m + 1) * b * b ^ m = mulC b f y n (m + 1) * b ^ (m + 1) := by rw [Nat.pow_succ, Nat.mul_assoc, Nat.mul_comm b]
    have e4 : (V b y m + y m * b ^ m) * n = V b y m * n + y m * n * b ^ m := by rw [Nat.add_mul, Nat.mul_right_comm]
    rw [e4]
    generalize V b (mulD b f y n) m = d at *
    omega

theorem num_zeros (b lm : Nat) (l : List Nat) : num b (List.replicate lm 0 ++ l) = b ^ lm * num b l := by
  have h1 : ∀ j, j < lm → dg (List.replicate lm 0 ++ l) j = 0 := by
    intro j hj; unfold dg; rw [List.getElem?_append_left (by simpa using hj)]; simp [hj]
  have h2 : ∀ j, dg (List.replicate lm 0 ++ l) (lm + j) = dg l j := by
    intro j; unfold dg; rw [List.getElem?_append_right (by simp)]; simp
  unfold num
  have hll : (List.replicate lm 0 ++ l).length = lm + l.length := by simp
  rw [hll, V_split]
  have e1 : V b (dg (List.replicate lm 0 ++ l)) lm = 0 := by
    rw [V_congr (g := fun _ => 0) lm (fun i hi => h1 i hi)]
    have : ∀ n, V b (fun _ => 0) n = 0 := by
      intro n
      induction n with
      | zero => rfl
      | succ n ih => simp [V, ih]
    exact this lm
  rw [e1, Nat.zero_add]
  congr 1
  exact V_congr _ (fun i _ => h2 i)

/-- The digits of a number times 2^s, s below 16. -/
def shlD (s : Nat) (x : Nat → Nat) : Nat → Nat := mulD 65536 (fun _ => 0) x (2 ^ s)
def shlC (s : Nat) (x : Nat → Nat) : Nat → Nat := mulC 65536 (fun _ => 0) x (2 ^ s)

theorem pow_lt16 {s : Nat} (hs : s ≤ 15) : (2 : Nat) ^ s < 65536 := by
  have : (2 : Nat) ^ s ≤ 2 ^ 15 := Nat.pow_le_pow_right (by omega) hs
  have h : (2 : Nat) ^ 15 = 32768 := by decide
  omega

/-- The carry of a shift stays below 2^s. -/
theorem shlC_lt {s : Nat} {x : Nat → Nat} (hx : ∀ i, x i < 65536) : ∀ i, shlC s x i < 2 ^ s
  | 0 => Nat.two_pow_pos s
  | i + 1 => by
    have ih := shlC_lt (s := s) hx i
    unfold shlC at ih ⊢
    simp only [mulC, Nat.zero_add]
    rw [Nat.div_lt_iff_lt_mul (by omega)]
    have h1 : (x i + 1) * 2 ^ s ≤ 65536 * 2 ^ s := Nat.mul_le_mul_right _ (hx i)
    rw [Nat.add_mul, Nat.one_mul] at h1
    rw [Nat.mul_comm (2 ^ s)]
    omega

theorem shl_is {s m lm : Nat} {xs : List Nat} (ox : Ok 65536 xs) (hm : xs.length = m) (hs : s ≤ 15) :
    Ok 65536 (List.replicate lm 0 ++ mk (shlD s (dg xs)) m ++ [shlC s (dg xs) m]) ∧
    num 65536 (List.replicate lm 0 ++ mk (shlD s (dg xs)) m ++ [shlC s (dg xs) m]) = num 65536 xs * (65536 ^ lm * 2 ^ s) := by
  have hc := shlC_lt (s := s) (x := dg xs) ox m
  have hp := pow_lt16 hs
  have hl : (mk (shlD s (dg xs)) m ++ [shlC s (dg xs) m]).length = m + 1 := by simp [mk]
  have hd : ∀ j, j < m → dg (mk (shlD s (dg xs)) m ++ [shlC s (dg xs) m]) j = shlD s (dg xs) j := by
    intro j hj
    unfold dg
    rw [List.getElem?_append_left (by rw [mk_len]; exact hj)]
    exact dg_mk _ m j hj
  have hn : dg (mk (shlD s (dg xs)) m ++ [shlC s (dg xs) m]) m = shlC s (dg xs) m := by
    unfold dg
    rw [List.getElem?_append_right (by rw [mk_len]; exact Nat.le_refl _), mk_len]; simp
  rw [List.append_assoc]
  refine ⟨?_, ?_⟩
  · intro j
    by_cases h1 : j < lm
    · unfold dg; rw [List.getElem?_append_left (by simpa using h1)]; simp [h1]
    · obtain ⟨i, rfl⟩ : ∃ i, j = lm + i := ⟨j - lm, by omega⟩
      have : dg (List.replicate lm 0 ++ (mk (shlD s (dg xs)) m ++ [shlC s (dg xs) m])) (lm + i) = dg (mk (shlD s (dg xs)) m ++ [shlC s (dg xs) m]) i := by
        unfold dg; rw [List.getElem?_append_right (by simp)]; simp
      rw [this]
      rcases Nat.lt_trichotomy i m with h | h | h
      · rw [hd i h]; exact Nat.mod_lt _ (by omega)
      · rw [h, hn]; omega
      · rw [dg_out (by omega)]; omega
  · rw [num_zeros]
    have hv := mul_val 65536 (fun _ => 0) (dg xs) (2 ^ s) m
    have h0 : V 65536 (fun _ => 0) m = 0 := by
      have : ∀ n, V 65536 (fun _ => 0) n = 0 := by
        intro n
        induction n with
        | zero => rfl
        | succ n ih => simp [V, ih]
      exact this m
    rw [h0, Nat.zero_add, num_eq (by omega)] at hv
    have e : num 65536 (mk (shlD s (dg xs)) m ++ [shlC s (dg xs) m]) = num 65536 xs * 2 ^ s := by
      unfold num at hv ⊢
      rw [hl]
      simp only [V]
      rw [hn, V_congr m hd, hm] at *
      exact hv.symm
    rw [e, Nat.mul_left_comm]

end Go.Proofs.Ytnlnjdieajdgfaa
