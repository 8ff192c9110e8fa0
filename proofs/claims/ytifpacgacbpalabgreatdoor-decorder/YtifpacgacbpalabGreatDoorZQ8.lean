/-
  Plain mathematics of adding and taking away with a carry, digit by digit.
  How two numbers stand, by their values.
  Digits that a function gives.
  Plain mathematics of the reference's shifts.
  Plain mathematics of dividing bit by bit, with digits to the base 65536.
-/
import Derived.Test.YtifpacgacbpalabGreatDoorOwn
import Derived.Test.YtifpacgacbpalabGreatDoorCmp
import Derived.Test.YtifpacgacbpalabGreatDoorZMath
namespace Go.Proofs.YtifpacgacbpalabGreatDoor

/-- The carry behind i digits. -/
def addC (b : Nat) (x y : Nat → Nat) : Nat → Nat
  | 0 => 0
  | i + 1 => (x i + y i + addC b x y i) / b

def addD (b : Nat) (x y : Nat → Nat) (i : Nat) : Nat := (x i + y i + addC b x y i) % b

theorem addC_le {b : Nat} {x y : Nat → Nat} (hx : ∀ i, x i < b) (hy : ∀ i, y i < b) : ∀ i, addC b x y i ≤ 1
  | 0 => by simp [addC]
  | i + 1 => by
    have h := addC_le hx hy i
    have h1 := hx i
    have h2 := hy i
    simp only [addC]
    have : x i + y i + addC b x y i < 2 * b := by omega
    have := (Nat.div_lt_iff_lt_mul (by omega)).2 this
    omega

theorem addD_lt {b : Nat} (hb : 0 < b) (x y : Nat → Nat) (i : Nat) : addD b x y i < b := Nat.mod_lt _ hb

theorem add_val (b : Nat) (x y : Nat → Nat) : ∀ n, V b x n + V b y n = V b (addD b x y) n + addC b x y n * b ^ n
  | 0 => by simp [V, addC]
  | n + 1 => by
    have ih := add_val b x y n
    simp only [V, addC, addD]
    have h := Nat.div_add_mod (x n + y n + addC b x y n) b
    generalize (x n + y n + addC b x y n) / b = q at *
    generalize (x n + y n + addC b x y n) % b = r at *
    have h2 : (b * q + r) * b ^ n = (x n + y n + addC b x y n) * b ^ n := by rw [h]
    rw [Nat.add_mul, Nat.add_mul, Nat.add_mul] at h2
    have h3 : b * q * b ^ n = q * b ^ (n + 1) := by rw [Nat.pow_succ, Nat.mul_comm b q, Nat.mul_assoc, Nat.mul_comm b]
    generalize V b (addD b x y) n = d at *
    omega

/-- The borrow behind i digits. -/
def subC (b : Nat) (x y : Nat → Nat) : Nat → Nat
  | 0 => 0
  | i + 1 => if x i < y i + subC b x y i then 1 else 0

def subD (b : Nat) (x y : Nat → Nat) (i : Nat) : Nat := (x i + b - y i - subC b x y i) % b

theorem subC_le {b : Nat} {x y : Nat → Nat} : ∀ i, subC b x y i ≤ 1
  | 0 => by simp [subC]
  | i + 1 => by simp only [subC]; split <;> omega

theorem subD_eq {b : Nat} {x y : Nat → Nat} (hx : ∀ i, x i < b) (hy : ∀ i, y i < b) (i : Nat) : subD b x y i + y i + subC b x y i = x i + subC b x y (i + 1) * b := by
  have h1 := hx i
  have h2 := hy i
  have h3 := subC_le (b := b) (x := x) (y := y) i
  simp only [subD, subC]
  split
  · rw [Nat.mod_eq_of_lt (by omega)]; omega
  · rw [show x i + b - y i - subC b x y i = (x i - y i - subC b x y i) + b by omega, Nat.add_mod_right, Nat.mod_eq_of_lt (by omega)]; omega

theorem sub_val {b : Nat} {x y : Nat → Nat} (hx : ∀ i, x i < b) (hy : ∀ i, y i < b) : ∀ n, V b (subD b x y) n + V b y n = V b x n + subC b x y n * b ^ n
  | 0 => by simp [V, subC]
  | n + 1 => by
    have ih := sub_val hx hy n
    have h := subD_eq hx hy n
    simp only [V]
    have h2 : (subD b x y n + y n + subC b x y n) * b ^ n = (x n + subC b x y (n + 1) * b) * b ^ n := by rw [h]
    rw [Nat.add_mul, Nat.add_mul, Nat.add_mul] at h2
    have h3 : subC b x y (n + 1) * b * b ^ n = subC b x y (n + 1) * b ^ (n + 1) := by rw [Nat.pow_succ, Nat.mul_assoc, Nat.mul_comm b]
    generalize V b (subD b x y) n = d at *
    generalize subC b x y (n + 1) = c at *
    omega

theorem V_sub_lt {b : Nat} {x y : Nat → Nat} (hx : ∀ i, x i < b) (hy : ∀ i, y i < b) (n : Nat) : subC b x y n = 0 ↔ V b y n ≤ V b x n := by
  have h := sub_val hx hy n
  have h2 : V b (subD b x y) n < b ^ n := V_lt n (fun i _ => Nat.mod_lt _ (by have := hx 0; omega))
  have h3 := subC_le (b := b) (x := x) (y := y) n
  constructor
  · intro e; rw [e] at h; omega
  · intro hle
    rcases Nat.lt_or_ge 0 (subC b x y n) with e | e
    · have : subC b x y n = 1 := by omega
      rw [this] at h; omega
    · omega

end Go.Proofs.YtifpacgacbpalabGreatDoor

namespace Go.Proofs.YtifpacgacbpalabGreatDoor
open Go.RowKit

/-- How two numbers stand: -1, 0 or 1. -/
def cmpN (a b : Nat) : Int := if a < b then -1 else if b < a then 1 else 0

theorem cmpTo_V {b : Nat} {xs ys : List Nat} (hx : Ok b xs) (hy : Ok b ys) : ∀ n, cmpTo xs ys n = cmpN (V b (dg xs) n) (V b (dg ys) n)
  | 0 => rfl
  | n + 1 => by
    have ih := cmpTo_V hx hy n
    have h1 := V_lt (b := b) n (fun i _ => hx i)
    have h2 := V_lt (b := b) n (fun i _ => hy i)
    simp only [cmpTo, V]
    have key : ∀ (p q u v B : Nat), u < B → v < B → p < q → u + p * B < v + q * B := by
      intro p q u v B hu hv hpq
      have := Nat.mul_le_mul_right B (show p + 1 ≤ q from hpq)
      rw [Nat.add_mul, Nat.one_mul] at this
      omega
    show (if dg xs n < dg ys n then -1 else if dg ys n < dg xs n then 1 else cmpTo xs ys n) = _
    unfold cmpN
    rcases Nat.lt_trichotomy (dg xs n) (dg ys n) with h | h | h
    · have := key _ _ _ _ _ h1 h2 h
      rw [if_pos h, if_pos this]
    · rw [if_neg (by omega), if_neg (by omega), ih, h]
      unfold cmpN
      congr 1
      · simp
      · simp
    · have := key _ _ _ _ _ h2 h1 h
      rw [if_neg (by omega), if_pos h, if_neg (by omega), if_pos this]

end Go.Proofs.YtifpacgacbpalabGreatDoor

namespace Go.Proofs.YtifpacgacbpalabGreatDoor

/-- The first n digits that a function gives. -/
def mk (D : Nat → Nat) (n : Nat) : List Nat := (List.range n).map D
theorem mk_len (D : Nat → Nat) (n : Nat) : (mk D n).length = n := by simp [mk]
theorem mk_succ (D : Nat → Nat) (n : Nat) : mk D (n + 1) = mk D n ++ [D n] := by simp [mk, List.range_succ]
theorem dg_mk (D : Nat → Nat) (n j : Nat) (h : j < n) : dg (mk D n) j = D j := by simp [dg, mk, h]

theorem new_cell (w : World) (v : Value) (t : TypeId) : ∀ (j : Nat) (u : Value), [v][j]? = some u → (w.alloc (Obj.cells #[v] t)).cell? ((⟨w.heap.size, 0, none⟩ : Addr).add j) = some u := by
  intro j u hj
  match j, hj with
  | 0, hj =>
    simp at hj
    subst hj
    simp [Addr.add]

theorem one_one (k : IntKind) (n : Int) : ∀ u ∈ [Value.int k n], u.oneCell' = true := by
  intro u hu; simp at hu; subst hu; rfl

end Go.Proofs.YtifpacgacbpalabGreatDoor

namespace Go.Proofs.YtifpacgacbpalabGreatDoor

theorem mul_val (b : Nat) (f y : Nat → Nat) (n : Nat) : ∀ m, V b f m + V b y m * n = V b (mulD b f y n) m + mulC b f y n m * b ^ m
  | 0 => by simp [V, mulC]
  | m + 1 => by
    have ih := mul_val b f y n m
    have e := mulD_eq b f y n m
    simp only [V]
    have e2 : (mulD b f y n m + mulC b f y n (m + 1) * b) * b ^ m = (f m + y m * n + mulC b f y n m) * b ^ m := by rw [e]
    rw [Nat.add_mul, Nat.add_mul, Nat.add_mul] at e2
    have e3 : mulC b f y n (m + 1) * b * b ^ m = mulC b f y n (m + 1) * b ^ (m + 1) := by rw [Nat.pow_succ, Nat.mul_assoc, Nat.mul_comm b]
    have e4 : (V b y m + y m * b ^ m) * n = V b y m * n + y m * n * b ^ m := by rw [Nat.add_mul, Nat.mul_right_comm]
    rw [e4]
    generalize V b (mulD b f y n) m = d at *
    omega

theorem num_zeros (b lm : Nat) (l : List Nat) : num b (List.replicate lm 0 ++ l) = b ^ lm * num b l := by
  have h1 : ∀ j, j < lm → dg (List.replicate lm 0 ++ l) j = 0 := by
    intro j hj; unfold dg; rw [List.getElem?_append_left (by simpa using hj)]; simp [hj]
  have h2 : ∀ j, dg (List.replicate lm 0 ++ l) (lm + j) = dg l j := by
    intro j; unfold dg; rw [List.getElem?_append_right (by simp)]; simp
  unfold num
  have hll : (List.replicate lm 0 ++ l).length = lm + l.length := by simp
  rw [hll, V_split]
  have e1 : V b (dg (List.replicate lm 0 ++ l)) lm = 0 := by
    rw [V_congr (g := fun _ => 0) lm (fun i hi => h1 i hi)]
    have : ∀ n, V b (fun _ => 0) n = 0 := by
      intro n
      induction n with
      | zero => rfl
      | succ n ih => simp [V, ih]
    exact this lm
  rw [e1, Nat.zero_add]
  congr 1
  exact V_congr _ (fun i _ => h2 i)

/-- The digits of a number times 2^s, s below 16. -/
def shlD (s : Nat) (x : Nat → Nat) : Nat → Nat := mulD 65536 (fun _ => 0) x (2 ^ s)
def shlC (s : Nat) (x : Nat → Nat) : Nat → Nat := mulC 65536 (fun _ => 0) x (2 ^ s)

theorem pow_lt16 {s : Nat} (hs : s ≤ 15) : (2 : Nat) ^ s < 65536 := by
  have : (2 : Nat) ^ s ≤ 2 ^ 15 := Nat.pow_le_pow_right (by omega) hs
  have h : (2 : Nat) ^ 15 = 32768 := by decide
  omega

/-- The carry of a shift stays below 2^s. -/
theorem shlC_lt {s : Nat} {x : Nat → Nat} (hx : ∀ i, x i < 65536) : ∀ i, shlC s x i < 2 ^ s
  | 0 => Nat.two_pow_pos s
  | i + 1 => by
    have ih := shlC_lt (s := s) hx i
    unfold shlC at ih ⊢
    simp only [mulC, Nat.zero_add]
    rw [Nat.div_lt_iff_lt_mul (by omega)]
    have h1 : (x i + 1) * 2 ^ s ≤ 65536 * 2 ^ s := Nat.mul_le_mul_right _ (hx i)
    rw [Nat.add_mul, Nat.one_mul] at h1
    rw [Nat.mul_comm (2 ^ s)]
    omega

theorem shl_is {s m lm : Nat} {xs : List Nat} (ox : Ok 65536 xs) (hm : xs.length = m) (hs : s ≤ 15) :
    Ok 65536 (List.replicate lm 0 ++ mk (shlD s (dg xs)) m ++ [shlC s (dg xs) m]) ∧
    num 65536 (List.replicate lm 0 ++ mk (shlD s (dg xs)) m ++ [shlC s (dg xs) m]) = num 65536 xs * (65536 ^ lm * 2 ^ s) := by
  have hc := shlC_lt (s := s) (x := dg xs) ox m
  have hp := pow_lt16 hs
  have hl : (mk (shlD s (dg xs)) m ++ [shlC s (dg xs) m]).length = m + 1 := by simp [mk]
  have hd : ∀ j, j < m → dg (mk (shlD s (dg xs)) m ++ [shlC s (dg xs) m]) j = shlD s (dg xs) j := by
    intro j hj
    unfold dg
    rw [List.getElem?_append_left (by rw [mk_len]; exact hj)]
    exact dg_mk _ m j hj
  have hn : dg (mk (shlD s (dg xs)) m ++ [shlC s (dg xs) m]) m = shlC s (dg xs) m := by
    unfold dg
    rw [List.getElem?_append_right (by rw [mk_len]; exact Nat.le_refl _), mk_len]; simp
  rw [List.append_assoc]
  refine ⟨?_, ?_⟩
  · intro j
    by_cases h1 : j < lm
    · unfold dg; rw [List.getElem?_append_left (by simpa using h1)]; simp [h1]
    · obtain ⟨i, rfl⟩ : ∃ i, j = lm + i := ⟨j - lm, by omega⟩
      have : dg (List.replicate lm 0 ++ (mk (shlD s (dg xs)) m ++ [shlC s (dg xs) m])) (lm + i) = dg (mk (shlD s (dg xs)) m ++ [shlC s (dg xs) m]) i := by
        unfold dg; rw [List.getElem?_append_right (by simp)]; simp
      rw [this]
      rcases Nat.lt_trichotomy i m with h | h | h
      · rw [hd i h]; exact Nat.mod_lt _ (by omega)
      · rw [h, hn]; omega
      · rw [dg_out (by omega)]; omega
  · rw [num_zeros]
    have hv := mul_val 65536 (fun _ => 0) (dg xs) (2 ^ s) m
    have h0 : V 65536 (fun _ => 0) m = 0 := by
      have : ∀ n, V 65536 (fun _ => 0) n = 0 := by
        intro n
        induction n with
        | zero => rfl
        | succ n ih => simp [V, ih]
      exact this m
    rw [h0, Nat.zero_add, num_eq (by omega)] at hv
    have e : num 65536 (mk (shlD s (dg xs)) m ++ [shlC s (dg xs) m]) = num 65536 xs * 2 ^ s := by
      unfold num at hv ⊢
      rw [hl]
      simp only [V]
      rw [hn, V_congr m hd, hm] at *
      exact hv.symm
    rw [e, Nat.mul_left_comm]

end Go.Proofs.YtifpacgacbpalabGreatDoor

namespace Go.Proofs.YtifpacgacbpalabGreatDoor

theorem dig_at {b : Nat} {xs : List Nat} (hb : 0 < b) (ox : Ok b xs) (j : Nat) : num b xs / b ^ j % b = dg xs j := by
  by_cases hj : j < xs.length
  · obtain ⟨t, ht⟩ : ∃ t, xs.length = j + (1 + t) := ⟨xs.length - j - 1, by omega⟩
    have h1 := V_split b (dg xs) j (1 + t)
    have h2 := V_split b (fun i => dg xs (j + i)) 1 t
    have h3 : V b (dg xs) j < b ^ j := V_lt j (fun i _ => ox i)
    have hp : 0 < b ^ j := Nat.pow_pos hb
    unfold num
    rw [ht, h1, Nat.add_comm, Nat.mul_add_div hp, Nat.div_eq_of_lt h3, Nat.add_zero, h2]
    simp only [V, Nat.pow_zero, Nat.mul_one, Nat.zero_add, Nat.pow_one, Nat.add_zero]
    rw [Nat.add_mul_mod_self_left]
    exact Nat.mod_eq_of_lt (ox j)
  · have h1 := num_lt ox
    have h2 := Nat.pow_le_pow_right hb (show xs.length ≤ j by omega)
    rw [Nat.div_eq_of_lt (by omega), dg_out (by omega), Nat.zero_mod]

theorem pow16j (j : Nat) : (65536 : Nat) ^ j = 2 ^ (16 * j) := by rw [show (65536 : Nat) = 2 ^ 16 by decide +kernel, ← Nat.pow_mul]

theorem bit_at {xs : List Nat} (ox : Ok 65536 xs) {j s : Nat} (hs : s ≤ 15) : num 65536 xs / 2 ^ (16 * j + s) % 2 = dg xs j / 2 ^ s % 2 := by
  have h1 := dig_at (by omega) ox j
  rw [Nat.pow_add, ← pow16j, ← Nat.div_div_eq_div_mul]
  generalize num 65536 xs / 65536 ^ j = M at *
  have h2 := Nat.div_add_mod M 65536
  rw [h1] at h2
  generalize dg xs j = d at *
  generalize M / 65536 = h at *
  have h3 : (65536 : Nat) = 2 ^ s * (2 * 2 ^ (15 - s)) := by
    rw [show 2 * 2 ^ (15 - s) = 2 ^ (15 - s + 1) by rw [Nat.pow_succ]; omega, ← Nat.pow_add, show s + (15 - s + 1) = 16 by omega]
  rw [← h2, h3, Nat.mul_assoc, Nat.mul_add_div (Nat.two_pow_pos s), Nat.mul_assoc, Nat.mul_add_mod]

theorem low_zero {xs : List Nat} (ox : Ok 65536 xs) {j s t : Nat} (hs : s ≤ 15) (h : num 65536 xs = t * 2 ^ (16 * j + s + 1)) : dg xs j % 2 ^ (s + 1) = 0 := by
  rw [← dig_at (by omega) ox j, h]
  have e : t * 2 ^ (16 * j + s + 1) = 65536 ^ j * (t * 2 ^ (s + 1)) := by
    rw [pow16j, show 16 * j + s + 1 = 16 * j + (s + 1) by omega, Nat.pow_add, Nat.mul_left_comm]
  rw [e, Nat.mul_div_cancel_left _ (Nat.pow_pos (by omega))]
  have hd : 2 ^ (s + 1) ∣ (65536 : Nat) := by
    rw [show (65536 : Nat) = 2 ^ 16 by decide +kernel]
    exact Nat.pow_dvd_pow 2 (by omega)
  rw [Nat.mod_mod_of_dvd _ hd, Nat.mul_mod_left]

theorem set_bit {d s : Nat} (hd : d < 65536) (hs : s ≤ 15) (h : d % 2 ^ (s + 1) = 0) : d ||| 2 ^ s = d + 2 ^ s ∧ d + 2 ^ s < 65536 := by
  have h1 := Nat.div_add_mod d (2 ^ (s + 1))
  rw [h, Nat.add_zero] at h1
  have hlt : (2 : Nat) ^ s < 2 ^ (s + 1) := Nat.pow_lt_pow_right (by omega) (by omega)
  generalize d / 2 ^ (s + 1) = a at *
  have e : d ||| 2 ^ s = d + 2 ^ s := by
    rw [← h1, Nat.or_comm, Nat.mul_comm, or_low hlt, Nat.add_comm]
  refine ⟨e, ?_⟩
  have hp : (65536 : Nat) = 2 ^ (s + 1) * 2 ^ (15 - s) := by rw [← Nat.pow_add, show s + 1 + (15 - s) = 16 by omega]
  have ha : a < 2 ^ (15 - s) := by
    rw [hp, ← h1] at hd
    exact Nat.lt_of_mul_lt_mul_left hd
  have h2 : 2 ^ (s + 1) * (a + 1) ≤ 2 ^ (s + 1) * 2 ^ (15 - s) := Nat.mul_le_mul_left _ ha
  rw [Nat.mul_add, ← hp] at h2
  omega

theorem rdiv_next (A B k : Nat) (hB : 0 < B) : (B ≤ 2 * (A / 2 ^ (k + 1) % B) + A / 2 ^ k % 2 → A / 2 ^ k / B = 2 * (A / 2 ^ (k + 1) / B) + 1 ∧ A / 2 ^ k % B = 2 * (A / 2 ^ (k + 1) % B) + A / 2 ^ k % 2 - B) ∧
    (¬ B ≤ 2 * (A / 2 ^ (k + 1) % B) + A / 2 ^ k % 2 → A / 2 ^ k / B = 2 * (A / 2 ^ (k + 1) / B) ∧ A / 2 ^ k % B = 2 * (A / 2 ^ (k + 1) % B) + A / 2 ^ k % 2) := by
  have e1 : A / 2 ^ (k + 1) = A / 2 ^ k / 2 := by rw [Nat.pow_succ, Nat.div_div_eq_div_mul]
  rw [e1]
  generalize A / 2 ^ k = T at *
  have e2 := Nat.div_add_mod T 2
  have e3 := Nat.div_add_mod (T / 2) B
  have e4 := Nat.mod_lt (T / 2) hB
  have e5 := Nat.mod_lt T (show 0 < 2 by omega)
  generalize T % 2 = c at *
  generalize T / 2 = H at *
  generalize H % B = R at *
  generalize H / B = Q at *
  refine ⟨fun h => ?_, fun h => ?_⟩
  · refine (Nat.div_mod_unique hB).2 ⟨?_, by omega⟩
    rw [← e2, ← e3, Nat.mul_add B, Nat.mul_left_comm B 2]; omega
  · refine (Nat.div_mod_unique hB).2 ⟨?_, by omega⟩
    rw [← e2, ← e3, Nat.mul_left_comm B 2]; omega

end Go.Proofs.YtifpacgacbpalabGreatDoor
