/-
  From what a row of the given statements hands over (readings of the arguments, the bound on their bulk) to the words of the walks.
  Plain mathematics of adding and taking away with a carry, digit by digit.
  Plain mathematics of shifts: what one digit of a list turned does to its number, and what a digit is when it is shifted.
  Plain mathematics of shifts down.
  Plain mathematics of multiplying a list by one digit and adding it to a row.
-/
import Derived.Test.YtlhekeifffofjaaGreatDoorRows
import Derived.Test.YtlhekeifffofjaaGreatDoorZOwn
import Derived.ProofKit
import Derived.OpenShut
import Derived.JoinedCond
import Derived.Test.YtlhekeifffofjaaGreatDoorZRow
namespace Go.Proofs.YtlhekeifffofjaaGreatDoor
open Go.ChangeShapes Go.WideShapes Go.ChangeAt Go.RowKit

theorem Tryz.own : ownKnob Tryz.prog.godebug = none := by kernel_rfl
theorem Tryz.laidOut : laidOutB Tryz.prog = true := by kernel_rfl
end Go.Proofs.YtlhekeifffofjaaGreatDoor

namespace Go.Proofs.YtlhekeifffofjaaGreatDoor

/-- The carry behind i digits. -/
def addC (b : Nat) (x y : Nat → Nat) : Nat → Nat
  | 0 => 0
  | i + 1 => (x i + y i + addC b x y i) / b

def addD (b : Nat) (x y : Nat → Nat) (i : Nat) : Nat := (x i + y i + addC b x y i) % b

theorem addC_le {b : Nat} {x y : Nat → Nat} (hx : ∀ i, x i < b) (hy : ∀ i, y i < b) : ∀ i, addC b x y i ≤ 1
  | 0 => by simp [addC]
  | i + 1 => by
    have h := addC_le hx hy i
    have h1 := hx i
    have h2 := hy i
    simp only [addC]
    have : x i + y i + addC b x y i < 2 * b := by omega
    have := (Nat.div_lt_iff_lt_mul (by omega)).2 this
    omega

theorem addD_lt {b : Nat} (hb : 0 < b) (x y : Nat → Nat) (i : Nat) : addD b x y i < b := Nat.mod_lt _ hb

theorem add_val (b : Nat) (x y : Nat → Nat) : ∀ n, V b x n + V b y n = V b (addD b x y) n + addC b x y n * b ^ n
  | 0 => by simp [V, addC]
  | n + 1 => by
    have ih := add_val b x y n
    simp only [V, addC, addD]
    have h := Nat.div_add_mod (x n + y n + addC b x y n) b
    generalize (x n + y n + addC b x y n) / b = q at *
    generalize (x n + y n + addC b x y n) % b = r at *
    have h2 : (b * q + r) * b ^ n = (x n + y n + addC b x y n) * b ^ n := by rw [h]
    rw [Nat.add_mul, Nat.add_mul, Nat.add_mul] at h2
    have h3 : b * q * b ^ n = q * b ^ (n + 1) := by rw [Nat.pow_succ, Nat.mul_comm b q, Nat.mul_assoc, Nat.mul_comm b]
    generalize V b (addD b x y) n = d at *
    omega

/-- The borrow behind i digits. -/
def subC (b : Nat) (x y : Nat → Nat) : Nat → Nat
  | 0 => 0
  | i + 1 => if x i < y i + subC b x y i then 1 else 0

def subD (b : Nat) (x y : Nat → Nat) (i : Nat) : Nat := (x i + b - y i - subC b x y i) % b

theorem subC_le {b : Nat} {x y : Nat → Nat} : ∀ i, subC b x y i ≤ 1
  | 0 => by simp [subC]
  | i + 1 => by simp only [subC]; split <;> omega

theorem subD_eq {b : Nat} {x y : Nat → Nat} (hx : ∀ i, x i < b) (hy : ∀ i, y i < b) (i : Nat) : subD b x y i + y i + subC b x y i = x i + subC b x y (i + 1) * b := by
  have h1 := hx i
  have h2 := hy i
  have h3 := subC_le (b := b) (x := x) (y := y) i
  simp only [subD, subC]
  split
  · rw [Nat.mod_eq_of_lt (by omega)]; omega
  · rw [show x i + b - y i - subC b x y i = (x i - y i - subC b x y i) + b by omega, Nat.add_mod_right, Nat.mod_eq_of_lt (by omega)]; omega

theorem sub_val {b : Nat} {x y : Nat → Nat} (hx : ∀ i, x i < b) (hy : ∀ i, y i < b) : ∀ n, V b (subD b x y) n + V b y n = V b x n + subC b x y n * b ^ n
  | 0 => by simp [V, subC]
  | n + 1 => by
    have ih := sub_val hx hy n
    have h := subD_eq hx hy n
    simp only [V]
    have h2 : (subD b x y n + y n + subC b x y n) * b ^ n = (x n + subC b x y (n + 1) * b) * b ^ n := by rw [h]
    rw [Nat.add_mul, Nat.add_mul, Nat.add_mul] at h2
    have h3 : subC b x y (n + 1) * b * b ^ n = subC b x y (n + 1) * b ^ (n + 1) := by rw [Nat.pow_succ, Nat.mul_assoc, Nat.mul_comm b]
    generalize V b (subD b x y) n = d at *
    generalize subC b x y (n + 1) = c at *
    omega

theorem V_sub_lt {b : Nat} {x y : Nat → Nat} (hx : ∀ i, x i < b) (hy : ∀ i, y i < b) (n : Nat) : subC b x y n = 0 ↔ V b y n ≤ V b x n := by
  have h := sub_val hx hy n
  have h2 : V b (subD b x y) n < b ^ n := V_lt n (fun i _ => Nat.mod_lt _ (by have := hx 0; omega))
  have h3 := subC_le (b := b) (x := x) (y := y) n
  constructor
  · intro e; rw [e] at h; omega
  · intro hle
    rcases Nat.lt_or_ge 0 (subC b x y n) with e | e
    · have : subC b x y n = 1 := by omega
      rw [this] at h; omega
    · omega

end Go.Proofs.YtlhekeifffofjaaGreatDoor

namespace Go.Proofs.YtlhekeifffofjaaGreatDoor

theorem V_set (b : Nat) (f g : Nat → Nat) (i v : Nat) (hg : ∀ j, g j = if j = i then v else f j) : ∀ n, i < n → V b g n + f i * b ^ i = V b f n + v * b ^ i
  | 0, h => absurd h (by omega)
  | n + 1, h => by
    simp only [V]
    by_cases e : i = n
    · have : V b g n = V b f n := V_congr n (fun j hj => by rw [hg, if_neg (by omega)])
      rw [this, hg n, if_pos e.symm, e]; omega
    · have ih := V_set b f g i v hg n (by omega)
      rw [hg n, if_neg (by omega)]; omega

/-- One digit of a list turned: what becomes of its number. -/
theorem num_set (b : Nat) (xs : List Nat) (i v : Nat) (hi : i < xs.length) : num b (xs.set i v) + dg xs i * b ^ i = num b xs + v * b ^ i := by
  unfold num
  rw [List.length_set]
  exact V_set b (dg xs) (dg (xs.set i v)) i v (fun j => dg_set xs i v j hi) xs.length hi

theorem Ok.set {b : Nat} {xs : List Nat} (h : Ok b xs) {i v : Nat} (hi : i < xs.length) (hv : v < b) : Ok b (xs.set i v) := by
  intro j
  rw [dg_set _ _ _ _ hi]
  split
  · exact hv
  · exact h j

theorem num_replicate (b n : Nat) : num b (List.replicate n 0) = 0 := by
  unfold num
  have : ∀ m, V b (dg (List.replicate n 0)) m = 0 := by
    intro m
    induction m with
    | zero => rfl
    | succ m ih => simp only [V]; rw [ih, dg_replicate]; simp
  exact this _

theorem Ok.replicate {b : Nat} (hb : 0 < b) (n : Nat) : Ok b (List.replicate n 0) := fun i => by rw [dg_replicate]; exact hb

/-- The low part of a digit of n bits that is shifted up by s. -/
theorem low_eq {n s : Nat} (hs : s ≤ n) (x : Nat) : x * 2 ^ s % 2 ^ n = x % 2 ^ (n - s) * 2 ^ s := by
  rw [show (2 : Nat) ^ n = 2 ^ (n - s) * 2 ^ s by rw [← Nat.pow_add]; congr 1; omega]
  exact Nat.mul_mod_mul_right _ _ _

/-- The high part. -/
theorem high_eq {n s : Nat} (hs : s ≤ n) (x : Nat) : x * 2 ^ s / 2 ^ n = x / 2 ^ (n - s) := by
  rw [show (2 : Nat) ^ n = 2 ^ (n - s) * 2 ^ s by rw [← Nat.pow_add]; congr 1; omega]
  exact Nat.mul_div_mul_right _ _ (Nat.two_pow_pos s)

theorem high_lt {n s : Nat} (hs : s ≤ n) {x : Nat} (hx : x < 2 ^ n) : x / 2 ^ (n - s) < 2 ^ s := by
  rw [Nat.div_lt_iff_lt_mul (Nat.two_pow_pos _), ← Nat.pow_add, show s + (n - s) = n by omega]
  exact hx

theorem or_low {s y a : Nat} (hy : y < 2 ^ s) : y ||| a * 2 ^ s = y + a * 2 ^ s := by
  rw [Nat.or_comm, Nat.mul_comm, ← Nat.two_pow_add_eq_or_of_lt hy]; omega

theorem low_room {n s y x : Nat} (hs : s ≤ n) (hy : y < 2 ^ s) : y + x * 2 ^ s % 2 ^ n < 2 ^ n := by
  rw [low_eq hs]
  have h1 : x % 2 ^ (n - s) + 1 ≤ 2 ^ (n - s) := Nat.mod_lt _ (Nat.two_pow_pos _)
  have h2 := Nat.mul_le_mul_right (2 ^ s) h1
  rw [← Nat.pow_add, show n - s + s = n by omega, Nat.add_mul, Nat.one_mul] at h2
  omega

/-- One round of a shift up: the digit's low part is laid into place i, its high part into the next one. -/
theorem up_step {n s : Nat} (hs : s ≤ n) {r : List Nat} {i x : Nat} (ho : Ok (2 ^ n) r) (hi : i + 1 < r.length) (hy : dg r i < 2 ^ s) (h0 : dg r (i + 1) = 0) (hx : x < 2 ^ n) :
    Ok (2 ^ n) ((r.set i (dg r i ||| x * 2 ^ s % 2 ^ n)).set (i + 1) (x / 2 ^ (n - s))) ∧
    num (2 ^ n) ((r.set i (dg r i ||| x * 2 ^ s % 2 ^ n)).set (i + 1) (x / 2 ^ (n - s))) = num (2 ^ n) r + x * 2 ^ s * (2 ^ n) ^ i := by
  have hor : dg r i ||| x * 2 ^ s % 2 ^ n = dg r i + x * 2 ^ s % 2 ^ n := by rw [low_eq hs]; exact or_low hy
  have hroom := low_room (x := x) hs hy
  rw [hor]
  have ho' := ho.set (i := i) (v := dg r i + x * 2 ^ s % 2 ^ n) (by omega) hroom
  have hhi : x / 2 ^ (n - s) < 2 ^ n := Nat.lt_of_le_of_lt (Nat.div_le_self _ _) hx
  refine ⟨ho'.set (by simpa using hi) hhi, ?_⟩
  have e1 := num_set (2 ^ n) r i (dg r i + x * 2 ^ s % 2 ^ n) (by omega)
  have e2 := num_set (2 ^ n) (r.set i (dg r i + x * 2 ^ s % 2 ^ n)) (i + 1) (x / 2 ^ (n - s)) (by simpa using hi)
  rw [dg_set _ _ _ _ (by omega), if_neg (by omega), h0] at e2
  have e3 := Nat.div_add_mod (x * 2 ^ s) (2 ^ n)
  rw [high_eq hs] at e3
  generalize x * 2 ^ s % 2 ^ n = lo at *
  generalize x / 2 ^ (n - s) = h at *
  rw [← e3, Nat.pow_succ] at *
  generalize (2 ^ n) ^ i = p at *
  generalize 2 ^ n = B at *
  rw [Nat.add_mul] at *
  have : h * (p * B) = B * h * p := by rw [Nat.mul_comm p B, ← Nat.mul_assoc, Nat.mul_comm h B]
  omega

end Go.Proofs.YtlhekeifffofjaaGreatDoor

namespace Go.Proofs.YtlhekeifffofjaaGreatDoor

theorem V_split (b : Nat) (f : Nat → Nat) (m : Nat) : ∀ n, V b f (m + n) = V b f m + b ^ m * V b (fun i => f (m + i)) n
  | 0 => by simp [V]
  | n + 1 => by
    rw [← Nat.add_assoc]
    simp only [V]
    rw [V_split b f m n, Nat.pow_add, Nat.mul_add, Nat.mul_left_comm, Nat.add_assoc]

/-- The digits of a number shifted down by s bits: its own high part, and the next one's low part. -/
def downD (n s : Nat) (y : Nat → Nat) (i : Nat) : Nat := y i / 2 ^ s + y (i + 1) % 2 ^ s * 2 ^ (n - s)

theorem downD_lt {n s : Nat} (hs : s ≤ n) {y : Nat → Nat} (hy : ∀ i, y i < 2 ^ n) (i : Nat) : downD n s y i < 2 ^ n := by
  unfold downD
  have h1 := high_lt (n := n) (s := n - s) (by omega) (hy i)
  rw [show n - (n - s) = s by omega] at h1
  have h2 : y (i + 1) % 2 ^ s + 1 ≤ 2 ^ s := Nat.mod_lt _ (Nat.two_pow_pos _)
  have h3 := Nat.mul_le_mul_right (2 ^ (n - s)) h2
  rw [← Nat.pow_add, show s + (n - s) = n by omega, Nat.add_mul, Nat.one_mul] at h3
  omega

theorem down_sum {n s : Nat} (hs : s ≤ n) (y : Nat → Nat) : ∀ m, V (2 ^ n) y m + y m % 2 ^ s * (2 ^ n) ^ m = 2 ^ s * V (2 ^ n) (downD n s y) m + y 0 % 2 ^ s
  | 0 => by simp [V]
  | m + 1 => by
    have ih := down_sum hs y m
    simp only [V, downD]
    have e1 := Nat.div_add_mod (y m) (2 ^ s)
    have e2 : 2 ^ s * 2 ^ (n - s) = 2 ^ n := by rw [← Nat.pow_add]; congr 1; omega
    have e3 : y m * (2 ^ n) ^ m = 2 ^ s * (y m / 2 ^ s) * (2 ^ n) ^ m + y m % 2 ^ s * (2 ^ n) ^ m := by rw [← Nat.add_mul, e1]
    have e4 : 2 ^ s * (V (2 ^ n) (downD n s y) m + (y m / 2 ^ s + y (m + 1) % 2 ^ s * 2 ^ (n - s)) * (2 ^ n) ^ m) =
        2 ^ s * V (2 ^ n) (downD n s y) m + (2 ^ s * (y m / 2 ^ s) * (2 ^ n) ^ m + y (m + 1) % 2 ^ s * (2 ^ n) ^ (m + 1)) := by
      rw [Nat.mul_add, Nat.add_mul, Nat.mul_add, Nat.pow_succ, ← Nat.mul_assoc (2 ^ s)]
      congr 2
      rw [← Nat.mul_assoc, Nat.mul_left_comm (2 ^ s), e2, Nat.mul_assoc, Nat.mul_comm (2 ^ n)]
    show V (2 ^ n) y m + y m * (2 ^ n) ^ m + y (m + 1) % 2 ^ s * (2 ^ n) ^ (m + 1) = 2 ^ s * (V (2 ^ n) (downD n s y) m + (y m / 2 ^ s + y (m + 1) % 2 ^ s * 2 ^ (n - s)) * (2 ^ n) ^ m) + y 0 % 2 ^ s
    rw [e4]
    omega

theorem down_val {n s m : Nat} (hs : s ≤ n) (y : Nat → Nat) (h0 : y m = 0) : V (2 ^ n) (downD n s y) m = V (2 ^ n) y m / 2 ^ s := by
  have h := down_sum hs y m
  rw [h0, Nat.zero_mod, Nat.zero_mul, Nat.add_zero] at h
  rw [h, Nat.mul_add_div (Nat.two_pow_pos s), Nat.div_eq_of_lt (Nat.mod_lt _ (Nat.two_pow_pos s)), Nat.add_zero]

/-- The list whose digits are these is the number divided by the power of the base and by 2^s, rounded down. -/
theorem down_num {n s lm : Nat} (hs : s ≤ n) {xs r : List Nat} (ox : Ok (2 ^ n) xs) (hl : lm ≤ xs.length) (hr : r.length = xs.length - lm) (hd : ∀ j, j < r.length → dg r j = downD n s (fun i => dg xs (lm + i)) j) :
    Ok (2 ^ n) r ∧ num (2 ^ n) r = num (2 ^ n) xs / (2 ^ n) ^ lm / 2 ^ s := by
  refine ⟨?_, ?_⟩
  · intro j
    by_cases h : j < r.length
    · rw [hd j h]; exact downD_lt hs (fun i => ox _) j
    · rw [dg_out (by omega)]; exact Nat.two_pow_pos _
  · have e := V_split (2 ^ n) (dg xs) lm (xs.length - lm)
    rw [show lm + (xs.length - lm) = xs.length by omega] at e
    have hp : 0 < (2 ^ n) ^ lm := Nat.pow_pos (Nat.two_pow_pos n)
    have e2 : num (2 ^ n) xs / (2 ^ n) ^ lm = V (2 ^ n) (fun i => dg xs (lm + i)) (xs.length - lm) := by
      unfold num
      rw [e, Nat.add_mul_div_left _ _ hp, Nat.div_eq_of_lt (V_lt lm (fun i _ => ox i)), Nat.zero_add]
    rw [e2, ← down_val hs (fun i => dg xs (lm + i)) (show dg xs (lm + (xs.length - lm)) = 0 from dg_out (by omega))]
    unfold num
    rw [hr]
    exact V_congr _ (fun i hi => hd i (by omega))

theorem or_down {n s a b : Nat} (hs : s ≤ n) (ha : a < 2 ^ n) : a / 2 ^ s ||| b * 2 ^ (n - s) % 2 ^ n = a / 2 ^ s + b % 2 ^ s * 2 ^ (n - s) := by
  rw [low_eq (by omega), show n - (n - s) = s by omega]
  have h1 := high_lt (n := n) (s := n - s) (by omega) ha
  rw [show n - (n - s) = s by omega] at h1
  exact or_low h1

end Go.Proofs.YtlhekeifffofjaaGreatDoor

namespace Go.Proofs.YtlhekeifffofjaaGreatDoor

/-- The carry behind i digits of 'row + y times n'. -/
def mulC (b : Nat) (f y : Nat → Nat) (n : Nat) : Nat → Nat
  | 0 => 0
  | i + 1 => (f i + y i * n + mulC b f y n i) / b

def mulD (b : Nat) (f y : Nat → Nat) (n i : Nat) : Nat := (f i + y i * n + mulC b f y n i) % b

theorem mul_bound {b x y n c : Nat} (hx : x < b) (hy : y < b) (hn : n < b) (hc : c < b) : x + y * n + c < b * b := by
  obtain ⟨a, rfl⟩ : ∃ a, b = a + 1 := ⟨b - 1, by omega⟩
  have h1 : y * n ≤ a * a := Nat.mul_le_mul (by omega) (by omega)
  have h2 : (a + 1) * (a + 1) = a * a + a + a + 1 := by rw [Nat.add_mul, Nat.mul_add]; omega
  omega

theorem mulC_lt {b : Nat} {f y : Nat → Nat} {n : Nat} (hb : 0 < b) (hf : ∀ i, f i < b) (hy : ∀ i, y i < b) (hn : n < b) : ∀ i, mulC b f y n i < b
  | 0 => hb
  | i + 1 => by
    have h := mulC_lt hb hf hy hn i
    simp only [mulC]
    exact (Nat.div_lt_iff_lt_mul hb).2 (mul_bound (hf i) (hy i) hn h)

theorem mulD_lt {b : Nat} (hb : 0 < b) (f y : Nat → Nat) (n i : Nat) : mulD b f y n i < b := Nat.mod_lt _ hb

theorem mulD_eq (b : Nat) (f y : Nat → Nat) (n i : Nat) : mulD b f y n i + mulC b f y n (i + 1) * b = f i + y i * n + mulC b f y n i := by
  simp only [mulD, mulC]
  have := Nat.div_add_mod (f i + y i * n + mulC b f y n i) b
  rw [Nat.mul_comm b] at this; omega

/-- One round of addTimes: the row's number and the carry. -/
theorem mul_step {b : Nat} {r0 r : List Nat} {y : Nat → Nat} {n off i : Nat} (hi : off + i < r.length) (hd : dg r (off + i) = dg r0 (off + i))
    (h : num b r + mulC b (fun j => dg r0 (off + j)) y n i * b ^ (off + i) = num b r0 + V b y i * n * b ^ off) :
    num b (r.set (off + i) (mulD b (fun j => dg r0 (off + j)) y n i)) + mulC b (fun j => dg r0 (off + j)) y n (i + 1) * b ^ (off + (i + 1)) = num b r0 + V b y (i + 1) * n * b ^ off := by
  have e1 := num_set b r (off + i) (mulD b (fun j => dg r0 (off + j)) y n i) hi
  have e2 := mulD_eq b (fun j => dg r0 (off + j)) y n i
  rw [hd] at e1
  simp only [V]
  generalize mulC b (fun j => dg r0 (off + j)) y n (i + 1) = c' at *
  generalize mulC b (fun j => dg r0 (off + j)) y n i = c at *
  generalize mulD b (fun j => dg r0 (off + j)) y n i = d at *
  generalize dg r0 (off + i) = f at *
  have e3 : (d + c' * b) * b ^ (off + i) = (f + y i * n + c) * b ^ (off + i) := by rw [e2]
  rw [Nat.add_mul, Nat.add_mul, Nat.add_mul] at e3
  have e4 : c' * b ^ (off + (i + 1)) = c' * b * b ^ (off + i) := by rw [← Nat.add_assoc, Nat.pow_succ, Nat.mul_comm (b ^ (off + i)), Nat.mul_assoc]
  have e5 : (V b y i + y i * b ^ i) * n * b ^ off = V b y i * n * b ^ off + y i * n * b ^ (off + i) := by
    rw [Nat.add_mul, Nat.add_mul, Nat.pow_add]
    congr 1
    rw [Nat.mul_assoc, Nat.mul_assoc, Nat.mul_assoc, Nat.mul_comm (b ^ i), Nat.mul_assoc]
  rw [e4, e5]
  omega

end Go.Proofs.YtlhekeifffofjaaGreatDoor
