/-
  Plain mathematics of adding and taking away with a carry, digit by digit.
  How two numbers stand, by their values.
  Digits that a function gives.
-/
import Derived.Test.YtifpacgacbpalaaGreatDoorOwn
import Derived.Test.YtifpacgacbpalaaGreatDoorCmp
namespace Go.Proofs.YtifpacgacbpalaaGreatDoor

/-- The carry behind i digits. -/
def addC (b : Nat) (x y : Nat → Nat) : Nat → Nat
  | 0 => 0
  | i + 1 => (x i + y i + addC b x y i) / b

def addD (b : Nat) (x y : Nat → Nat) (i : Nat) : Nat := (x i + y i + addC b x y i) % b

theorem addC_le {b : Nat} {x y : Nat → Nat} (hx : ∀ i, x i < b) (hy : ∀ i, y i < b) : ∀ i, addC b x y i ≤ 1
  | 0 => by simp [addC]
  | i + 1 => by
    have h := addC_le hx hy i
    have h1 := hx i
    have h2 := hy i
    simp only [addC]
    have : x i + y i + addC b x y i < 2 * b := by omega
    have := (Nat.div_lt_iff_lt_mul (by omega)).2 this
    omega

theorem addD_lt {b : Nat} (hb : 0 < b) (x y : Nat → Nat) (i : Nat) : addD b x y i < b := Nat.mod_lt _ hb

theorem add_val (b : Nat) (x y : Nat → Nat) : ∀ n, V b x n + V b y n = V b (addD b x y) n + addC b x y n * b ^ n
  | 0 => by simp [V, addC]
  | n + 1 => by
    have ih := add_val b x y n
    simp only [V, addC, addD]
    have h := Nat.div_add_mod (x n + y n + addC b x y n) b
    generalize (x n + y n + addC b x y n) / b = q at *
    generalize (x n + y n + addC b x y n) % b = r at *
    have h2 : (b * q + r) * b ^ n = (x n + y n + addC b x y n) * b ^ n := by rw [h]
    rw [Nat.add_mul, Nat.add_mul, Nat.add_mul] at h2
    have h3 : b * q * b ^ n = q * b ^ (n + 1) := by rw [Nat.pow_succ, Nat.mul_comm b q, Nat.mul_assoc, Nat.mul_comm b]
    generalize V b (addD b x y) n = d at *
    omega

/-- The borrow behind i digits. -/
def subC (b : Nat) (x y : Nat → Nat) : Nat → Nat
  | 0 => 0
  | i + 1 => if x i < y i + subC b x y i then 1 else 0

def subD (b : Nat) (x y : Nat → Nat) (i : Nat) : Nat := (x i + b - y i - subC b x y i) % b

theorem subC_le {b : Nat} {x y : Nat → Nat} : ∀ i, subC b x y i ≤ 1
  | 0 => by simp [subC]
  | i + 1 => by simp only [subC]; split <;> omega

theorem subD_eq {b : Nat} {x y : Nat → Nat} (hx : ∀ i, x i < b) (hy : ∀ i, y i < b) (i : Nat) : subD b x y i + y i + subC b x y i = x i + subC b x y (i + 1) * b := by
  have h1 := hx i
  have h2 := hy i
  have h3 := subC_le (b := b) (x := x) (y := y) i
  simp only [subD, subC]
  split
  · rw [Nat.mod_eq_of_lt (by omega)]; omega
  · rw [show x i + b - y i - subC b x y i = (x i - y i - subC b x y i) + b by omega, Nat.add_mod_right, Nat.mod_eq_of_lt (by omega)]; omega

theorem sub_val {b : Nat} {x y : Nat → Nat} (hx : ∀ i, x i < b) (hy : ∀ i, y i < b) : ∀ n, V b (subD b x y) n + V b y n = V b x n + subC b x y n * b ^ n
  | 0 => by simp [V, subC]
  | n + 1 => by
    have ih := sub_val hx hy n
    have h := subD_eq hx hy n
    simp only [V]
    have h2 : (subD b x y n + y n + subC b x y n) * b ^ n = (x n + subC b x y (n + 1) * b) * b ^ n := by rw [h]
    rw [Nat.add_mul, Nat.add_mul, Nat.add_mul] at h2
    have h3 : subC b x y (n + 1) * b * b ^ n = subC b x y (n + 1) * b ^ (n + 1) := by rw [Nat.pow_succ, Nat.mul_assoc, Nat.mul_comm b]
    generalize V b (subD b x y) n = d at *
    generalize subC b x y (n + 1) = c at *
    omega

theorem V_sub_lt {b : Nat} {x y : Nat → Nat} (hx : ∀ i, x i < b) (hy : ∀ i, y i < b) (n : Nat) : subC b x y n = 0 ↔ V b y n ≤ V b x n := by
  have h := sub_val hx hy n
  have h2 : V b (subD b x y) n < b ^ n := V_lt n (fun i _ => Nat.mod_lt _ (by have := hx 0; omega))
  have h3 := subC_le (b := b) (x := x) (y := y) n
  constructor
  · intro e; rw [e] at h; omega
  · intro hle
    rcases Nat.lt_or_ge 0 (subC b x y n) with e | e
    · have : subC b x y n = 1 := by omega
      rw [this] at h; omega
    · omega

end Go.Proofs.YtifpacgacbpalaaGreatDoor

namespace Go.Proofs.YtifpacgacbpalaaGreatDoor
open Go.RowKit

/-- How two numbers stand: -1, 0 or 1. -/
def cmpN (a b : Nat) : Int := if a < b then -1 else if b < a then 1 else 0

theorem cmpTo_V {b : Nat} {xs ys : List Nat} (hx : Ok b xs) (hy : Ok b ys) : ∀ n, cmpTo xs ys n = cmpN (V b (dg xs) n) (V b (dg ys) n)
  | 0 => rfl
  | n + 1 => by
    have ih := cmpTo_V hx hy n
    have h1 := V_lt (b := b) n (fun i _ => hx i)
    have h2 := V_lt (b := b) n (fun i _ => hy i)
    simp only [cmpTo, V]
    have key : ∀ (p q u v B : Nat), u < B → v < B → p < q → u + p * B < v + q * B := by
      intro p q u v B hu hv hpq
      have := Nat.mul_le_mul_right B (show p + 1 ≤ q from hpq)
      rw [Nat.add_mul, Nat.one_mul] at this
      omega
    show (if dg xs n < dg ys n then -1 else if dg ys n < dg xs n then 1 else cmpTo xs ys n) = _
    unfold cmpN
    rcases Nat.lt_trichotomy (dg xs n) (dg ys n) with h | h | h
    · have := key _ _ _ _ _ h1 h2 h
      rw [if_pos h, if_pos this]
    · rw [if_neg (by omega), if_neg (by omega), ih, h]
      unfold cmpN
      congr 1
      · simp
      · simp
    · have := key _ _ _ _ _ h2 h1 h
      rw [if_neg (by omega), if_pos h, if_neg (by omega), if_pos this]

end Go.Proofs.YtifpacgacbpalaaGreatDoor

namespace Go.Proofs.YtifpacgacbpalaaGreatDoor

/-- The first n digits that a function gives. -/
def mk (D : Nat → Nat) (n : Nat) : List Nat := (List.range n).map D
theorem mk_len (D : Nat → Nat) (n : Nat) : (mk D n).length = n := by simp [mk]
theorem mk_succ (D : Nat → Nat) (n : Nat) : mk D (n + 1) = mk D n ++ [D n] := by simp [mk, List.range_succ]
theorem dg_mk (D : Nat → Nat) (n j : Nat) (h : j < n) : dg (mk D n) j = D j := by simp [dg, mk, h]

theorem new_cell (w : World) (v : Value) (t : TypeId) : ∀ (j : Nat) (u : Value), [v][j]? = some u → (w.alloc (Obj.cells #[v] t)).cell? ((⟨w.heap.size, 0, none⟩ : Addr).add j) = some u := by
  intro j u hj
  match j, hj with
  | 0, hj =>
    simp at hj
    subst hj
    simp [Addr.add]

theorem one_one (k : IntKind) (n : Int) : ∀ u ∈ [Value.int k n], u.oneCell' = true := by
  intro u hu; simp at hu; subst hu; rfl

end Go.Proofs.YtifpacgacbpalaaGreatDoor
