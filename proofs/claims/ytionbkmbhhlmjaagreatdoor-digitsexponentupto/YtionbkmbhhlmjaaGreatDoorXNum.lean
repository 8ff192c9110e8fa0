/-
  Plain mathematics: numbers in digits of a base b, the lowest first: their value, that one value has one list without noughts on top, and how two stand.
-/
import Derived.Test.YtionbkmbhhlmjaaGreatDoorXMem
namespace Go.Proofs.YtionbkmbhhlmjaaGreatDoor

def V (b : Nat) (f : Nat → Nat) : Nat → Nat
  | 0 => 0
  | n + 1 => V b f n + f n * b ^ n

def dg (xs : List Nat) (i : Nat) : Nat := xs[i]?.getD 0

def num (b : Nat) (xs : List Nat) : Nat := V b (dg xs) xs.length

def Ok (b : Nat) (xs : List Nat) : Prop := ∀ i, dg xs i < b

def Top (xs : List Nat) : Prop := ∀ n, xs.length = n + 1 → dg xs n ≠ 0

theorem dg_out {xs : List Nat} {i : Nat} (h : xs.length ≤ i) : dg xs i = 0 := by simp [dg, h]

theorem V_congr {b : Nat} {f g : Nat → Nat} : ∀ n, (∀ i, i < n → f i = g i) → V b f n = V b g n
  | 0, _ => rfl
  | n + 1, h => by
    simp only [V]
    rw [V_congr n (fun i hi => h i (by omega)), h n (by omega)]

theorem V_zero {b : Nat} {f : Nat → Nat} {m : Nat} : ∀ n, m ≤ n → (∀ i, m ≤ i → f i = 0) → V b f n = V b f m
  | 0, h, _ => by obtain rfl : m = 0 := by omega
                  rfl
  | n + 1, h, hf => by
    by_cases e : m = n + 1
    · rw [e]
    · simp only [V]
      rw [V_zero n (by omega) hf, hf n (by omega)]; simp

theorem V_lt {b : Nat} {f : Nat → Nat} : ∀ n, (∀ i, i < n → f i < b) → V b f n < b ^ n
  | 0, _ => by simp [V]
  | n + 1, h => by
    have h1 := V_lt n (fun i hi => h i (by omega))
    have h2 := h n (by omega)
    simp only [V]
    have h3 : (f n + 1) * b ^ n ≤ b * b ^ n := Nat.mul_le_mul_right _ h2
    rw [Nat.pow_succ, Nat.mul_comm _ b]
    rw [Nat.add_mul, Nat.one_mul] at h3
    omega

theorem num_lt {b : Nat} {xs : List Nat} (h : Ok b xs) : num b xs < b ^ xs.length := V_lt _ (fun i _ => h i)

theorem num_ge {b : Nat} {xs : List Nat} {n : Nat} (ht : Top xs) (hn : xs.length = n + 1) : b ^ n ≤ num b xs := by
  have := ht n hn
  unfold num; rw [hn]; simp only [V]
  have h1 : 1 * b ^ n ≤ dg xs n * b ^ n := Nat.mul_le_mul_right _ (by omega)
  omega

theorem tops_top (xs : List Nat) : ∀ n m, tops xs n = m + 1 → dg xs m ≠ 0
  | 0, m, h => by simp [tops] at h
  | n + 1, m, h => by
    simp only [tops] at h
    split at h
    · exact tops_top xs n m h
    · obtain rfl : n = m := by omega
      assumption

theorem tops_zero (xs : List Nat) : ∀ n i, tops xs n ≤ i → i < n → dg xs i = 0
  | 0, i, _, h => absurd h (by omega)
  | n + 1, i, h, hi => by
    simp only [tops] at h
    split at h
    · by_cases e : i = n
      · rw [e]; assumption
      · exact tops_zero xs n i h (by omega)
    · omega

theorem dg_trimmed (xs : List Nat) (i : Nat) : dg (trimmed xs) i = dg xs i := by
  have hl := tops_le xs xs.length
  by_cases h : i < tops xs xs.length
  · simp [dg, trimmed, h]
  · rw [dg_out (by rw [length_trimmed]; omega)]
    by_cases h2 : i < xs.length
    · rw [tops_zero xs xs.length i (by omega) h2]
    · rw [dg_out (by omega)]

theorem trimmed_ok {b : Nat} {xs : List Nat} (h : Ok b xs) : Ok b (trimmed xs) := fun i => by rw [dg_trimmed]; exact h i

theorem trimmed_top (xs : List Nat) : Top (trimmed xs) := by
  intro n hn
  rw [length_trimmed] at hn
  rw [dg_trimmed]
  exact tops_top xs _ n hn

theorem num_trimmed (b : Nat) (xs : List Nat) : num b (trimmed xs) = num b xs := by
  have hl := tops_le xs xs.length
  unfold num
  rw [length_trimmed, V_congr (g := dg xs) _ (fun i _ => dg_trimmed xs i)]
  exact (V_zero xs.length hl (fun i hi => by
    by_cases h2 : i < xs.length
    · exact tops_zero xs xs.length i hi h2
    · exact dg_out (by omega))).symm

theorem num_zero {b : Nat} {xs : List Nat} (hb : 0 < b) (ht : Top xs) (h : num b xs = 0) : xs = [] := by
  rcases hn : xs.length with _ | n
  · exact List.length_eq_zero_iff.1 hn
  · have := num_ge (b := b) ht hn
    have : 0 < b ^ n := Nat.pow_pos hb
    omega

end Go.Proofs.YtionbkmbhhlmjaaGreatDoor
