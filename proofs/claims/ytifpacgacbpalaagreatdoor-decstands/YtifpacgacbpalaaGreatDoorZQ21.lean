/-
  Plain mathematics of shifts: what one digit of a list turned does to its number, and what a digit is when it is shifted.
  Plain mathematics of shifts down.
  Plain mathematics of multiplying a list by one digit and adding it to a row.
  Plain mathematics of dividing two digits by one, half a digit at a time (as the library's Div64 does).
  Plain mathematics of dividing by hand: a limb of the quotient is guessed by the topmost limbs, and is one too high at most.
  Plain mathematics: limbs of 64 bits as digits of 16 bits, and back.
  What the reference's In does: limbs, as digits of 16 bits.
-/
import Derived.Test.YtifpacgacbpalaaGreatDoorZNum
import Derived.Test.YtifpacgacbpalaaGreatDoorZQ3
import Derived.Test.YtifpacgacbpalaaGreatDoorRTrim
import Derived.Test.YtifpacgacbpalaaGreatDoorUint
import Derived.Laws.Bits64b
namespace Go.Proofs.YtifpacgacbpalaaGreatDoor

theorem V_set (b : Nat) (f g : Nat → Nat) (i v : Nat) (hg : ∀ j, g j = if j = i then v else f j) : ∀ n, i < n → V b g n + f i * b ^ i = V b f n + v * b ^ i
  | 0, h => absurd h (by omega)
  | n + 1, h => by
    simp only [V]
    by_cases e : i = n
    · have : V b g n = V b f n := V_congr n (fun j hj => by rw [hg, if_neg (by omega)])
      rw [this, hg n, if_pos e.symm, e]; omega
    · have ih := V_set b f g i v hg n (by omega)
      rw [hg n, if_neg (by omega)]; omega

/-- One digit of a list turned: what becomes of its number. -/
theorem num_set (b : Nat) (xs : List Nat) (i v : Nat) (hi : i < xs.length) : num b (xs.set i v) + dg xs i * b ^ i = num b xs + v * b ^ i := by
  unfold num
  rw [List.length_set]
  exact V_set b (dg xs) (dg (xs.set i v)) i v (fun j => dg_set xs i v j hi) xs.length hi

theorem Ok.set {b : Nat} {xs : List Nat} (h : Ok b xs) {i v : Nat} (hi : i < xs.length) (hv : v < b) : Ok b (xs.set i v) := by
  intro j
  rw [dg_set _ _ _ _ hi]
  split
  · exact hv
  · exact h j

theorem num_replicate (b n : Nat) : num b (List.replicate n 0) = 0 := by
  unfold num
  have : ∀ m, V b (dg (List.replicate n 0)) m = 0 := by
    intro m
    induction m with
    | zero => rfl
    | succ m ih => simp only [V]; rw [ih, dg_replicate]; simp
  exact this _

theorem Ok.replicate {b : Nat} (hb : 0 < b) (n : Nat) : Ok b (List.replicate n 0) := fun i => by rw [dg_replicate]; exact hb

/-- The low part of a digit of n bits that is shifted up by s. -/
theorem low_eq {n s : Nat} (hs : s ≤ n) (x : Nat) : x * 2 ^ s % 2 ^ n = x % 2 ^ (n - s) * 2 ^ s := by
  rw [show (2 : Nat) ^ n = 2 ^ (n - s) * 2 ^ s by rw [← Nat.pow_add]; congr 1; omega]
  exact Nat.mul_mod_mul_right _ _ _

/-- The high part. -/
theorem high_eq {n s : Nat} (hs : s ≤ n) (x : Nat) : x * 2 ^ s / 2 ^ n = x / 2 ^ (n - s) := by
  rw [show (2 : Nat) ^ n = 2 ^ (n - s) * 2 ^ s by rw [← Nat.pow_add]; congr 1; omega]
  exact Nat.mul_div_mul_right _ _ (Nat.two_pow_pos s)

theorem high_lt {n s : Nat} (hs : s ≤ n) {x : Nat} (hx : x < 2 ^ n) : x / 2 ^ (n - s) < 2 ^ s := by
  rw [Nat.div_lt_iff_lt_mul (Nat.two_pow_pos _), ← Nat.pow_add, show s + (n - s) = n by omega]
  exact hx

theorem or_low {s y a : Nat} (hy : y < 2 ^ s) : y ||| a * 2 ^ s = y + a * 2 ^ s := by
  rw [Nat.or_comm, Nat.mul_comm, ← Nat.two_pow_add_eq_or_of_lt hy]; omega

theorem low_room {n s y x : Nat} (hs : s ≤ n) (hy : y < 2 ^ s) : y + x * 2 ^ s % 2 ^ n < 2 ^ n := by
  rw [low_eq hs]
  have h1 : x % 2 ^ (n - s) + 1 ≤ 2 ^ (n - s) := Nat.mod_lt _ (Nat.two_pow_pos _)
  have h2 := Nat.mul_le_mul_right (2 ^ s) h1
  rw [← Nat.pow_add, show n - s + s = n by omega, Nat.add_mul, Nat.one_mul] at h2
  omega

/-- One round of a shift up: the digit's low part is laid into place i, its high part into the next one. -/
theorem up_step {n s : Nat} (hs : s ≤ n) {r : List Nat} {i x : Nat} (ho : Ok (2 ^ n) r) (hi : i + 1 < r.length) (hy : dg r i < 2 ^ s) (h0 : dg r (i + 1) = 0) (hx : x < 2 ^ n) :
    Ok (2 ^ n) ((r.set i (dg r i ||| x * 2 ^ s % 2 ^ n)).set (i + 1) (x / 2 ^ (n - s))) ∧
    num (2 ^ n) ((r.set i (dg r i ||| x * 2 ^ s % 2 ^ n)).set (i + 1) (x / 2 ^ (n - s))) = num (2 ^ n) r + x * 2 ^ s * (2 ^ n) ^ i := by
  have hor : dg r i ||| x * 2 ^ s % 2 ^ n = dg r i + x * 2 ^ s % 2 ^ n := by rw [low_eq hs]; exact or_low hy
  have hroom := low_room (x := x) hs hy
  rw [hor]
  have ho' := ho.set (i := i) (v := dg r i + x * 2 ^ s % 2 ^ n) (by omega) hroom
  have hhi : x / 2 ^ (n - s) < 2 ^ n := Nat.lt_of_le_of_lt (Nat.div_le_self _ _) hx
  refine ⟨ho'.set (by simpa using hi) hhi, ?_⟩
  have e1 := num_set (2 ^ n) r i (dg r i + x * 2 ^ s % 2 ^ n) (by omega)
  have e2 := num_set (2 ^ n) (r.set i (dg r i + x * 2 ^ s % 2 ^ n)) (i + 1) (x / 2 ^ (n - s)) (by simpa using hi)
  rw [dg_set _ _ _ _ (by omega), if_neg (by omega), h0] at e2
  have e3 := Nat.div_add_mod (x * 2 ^ s) (2 ^ n)
  rw [high_eq hs] at e3
  generalize x * 2 ^ s % 2 ^ n = lo at *
  generalize x / 2 ^ (n - s) = h at *
  rw [← e3, Nat.pow_succ] at *
  generalize (2 ^ n) ^ i = p at *
  generalize 2 ^ n = B at *
  rw [Nat.add_mul] at *
  have : h * (p * B) = B * h * p := by rw [Nat.mul_comm p B, ← Nat.mul_assoc, Nat.mul_comm h B]
  omega

end Go.Proofs.YtifpacgacbpalaaGreatDoor

namespace Go.Proofs.YtifpacgacbpalaaGreatDoor

theorem V_split (b : Nat) (f : Nat → Nat) (m : Nat) : ∀ n, V b f (m + n) = V b f m + b ^ m * V b (fun i => f (m + i)) n
  | 0 => by simp [V]
  | n + 1 => by
    rw [← Nat.add_assoc]
    simp only [V]
    rw [V_split b f m n, Nat.pow_add, Nat.mul_add, Nat.mul_left_comm, Nat.add_assoc]

/-- The digits of a number shifted down by s bits: its own high part, and the next one's low part. -/
def downD (n s : Nat) (y : Nat → Nat) (i : Nat) : Nat := y i / 2 ^ s + y (i + 1) % 2 ^ s * 2 ^ (n - s)

theorem downD_lt {n s : Nat} (hs : s ≤ n) {y : Nat → Nat} (hy : ∀ i, y i < 2 ^ n) (i : Nat) : downD n s y i < 2 ^ n := by
  unfold downD
  have h1 := high_lt (n := n) (s := n - s) (by omega) (hy i)
  rw [show n - (n - s) = s by omega] at h1
  have h2 : y (i + 1) % 2 ^ s + 1 ≤ 2 ^ s := Nat.mod_lt _ (Nat.two_pow_pos _)
  have h3 := Nat.mul_le_mul_right (2 ^ (n - s)) h2
  rw [← Nat.pow_add, show s + (n - s) = n by omega, Nat.add_mul, Nat.one_mul] at h3
  omega

theorem down_sum {n s : Nat} (hs : s ≤ n) (y : Nat → Nat) : ∀ m, V (2 ^ n) y m + y m % 2 ^ s * (2 ^ n) ^ m = 2 ^ s * V (2 ^ n) (downD n s y) m + y 0 % 2 ^ s
  | 0 => by simp [V]
  | m + 1 => by
    have ih := down_sum hs y m
    simp only [V, downD]
    have e1 := Nat.div_add_mod (y m) (2 ^ s)
    have e2 : 2 ^ s * 2 ^ (n - s) = 2 ^ n := by rw [← Nat.pow_add]; congr 1; omega
    have e3 : y m * (2 ^ n) ^ m = 2 ^ s * (y m / 2 ^ s) * (2 ^ n) ^ m + y m % 2 ^ s * (2 ^ n) ^ m := by rw [← Nat.add_mul, e1]
    have e4 : 2 ^ s * (V (2 ^ n) (downD n s y) m + (y m / 2 ^ s + y (m + 1) % 2 ^ s * 2 ^ (n - s)) * (2 ^ n) ^ m) =
        2 ^ s * V (2 ^ n) (downD n s y) m + (2 ^ s * (y m / 2 ^ s) * (2 ^ n) ^ m + y (m + 1) % 2 ^ s * (2 ^ n) ^ (m + 1)) := by
      rw [Nat.mul_add, Nat.add_mul, Nat.mul_add, Nat.pow_succ, ← Nat.mul_assoc (2 ^ s)]
      congr 2
      rw [← Nat.mul_assoc, Nat.mul_left_comm (2 ^ s), e2, Nat.mul_assoc, Nat.mul_comm (2 ^ n)]
    show V (2 ^ n) y m + y m * (2 ^ n) ^ m + y (m + 1) % 2 ^ s * (2 ^ n) ^ (m + 1) = 2 ^ s * (V (2 ^ n) (downD n s y) m + (y m / 2 ^ s + y (m + 1) % 2 ^ s * 2 ^ (n - s)) * (2 ^ n) ^ m) + y 0 % 2 ^ s
    rw [e4]
    omega

theorem down_val {n s m : Nat} (hs : s ≤ n) (y : Nat → Nat) (h0 : y m = 0) : V (2 ^ n) (downD n s y) m = V (2 ^ n) y m / 2 ^ s := by
  have h := down_sum hs y m
  rw [h0, Nat.zero_mod, Nat.zero_mul, Nat.add_zero] at h
  rw [h, Nat.mul_add_div (Nat.two_pow_pos s), Nat.div_eq_of_lt (Nat.mod_lt _ (Nat.two_pow_pos s)), Nat.add_zero]

/-- The list whose digits are these is the number divided by the power of the base and by 2^s, rounded down. -/
theorem down_num {n s lm : Nat} (hs : s ≤ n) {xs r : List Nat} (ox : Ok (2 ^ n) xs) (hl : lm ≤ xs.length) (hr : r.length = xs.length - lm) (hd : ∀ j, j < r.length → dg r j = downD n s (fun i => dg xs (lm + i)) j) :
    Ok (2 ^ n) r ∧ num (2 ^ n) r = num (2 ^ n) xs / (2 ^ n) ^ lm / 2 ^ s := by
  refine ⟨?_, ?_⟩
  · intro j
    by_cases h : j < r.length
    · rw [hd j h]; exact downD_lt hs (fun i => ox _) j
    · rw [dg_out (by omega)]; exact Nat.two_pow_pos _
  · have e := V_split (2 ^ n) (dg xs) lm (xs.length - lm)
    rw [show lm + (xs.length - lm) = xs.length by omega] at e
    have hp : 0 < (2 ^ n) ^ lm := Nat.pow_pos (Nat.two_pow_pos n)
    have e2 : num (2 ^ n) xs / (2 ^ n) ^ lm = V (2 ^ n) (fun i => dg xs (lm + i)) (xs.length - lm) := by
      unfold num
      rw [e, Nat.add_mul_div_left _ _ hp, Nat.div_eq_of_lt (V_lt lm (fun i _ => ox i)), Nat.zero_add]
    rw [e2, ← down_val hs (fun i => dg xs (lm + i)) (show dg xs (lm + (xs.length - lm)) = 0 from dg_out (by omega))]
    unfold num
    rw [hr]
    exact V_congr _ (fun i hi => hd i (by omega))

theorem or_down {n s a b : Nat} (hs : s ≤ n) (ha : a < 2 ^ n) : a / 2 ^ s ||| b * 2 ^ (n - s) % 2 ^ n = a / 2 ^ s + b % 2 ^ s * 2 ^ (n - s) := by
  rw [low_eq (by omega), show n - (n - s) = s by omega]
  have h1 := high_lt (n := n) (s := n - s) (by omega) ha
  rw [show n - (n - s) = s by omega] at h1
  exact or_low h1

end Go.Proofs.YtifpacgacbpalaaGreatDoor

namespace Go.Proofs.YtifpacgacbpalaaGreatDoor

/-- The carry behind i digits of 'row + y times n'. -/
def mulC (b : Nat) (f y : Nat → Nat) (n : Nat) : Nat → Nat
  | 0 => 0
  | i + 1 => (f i + y i * n + mulC b f y n i) / b

def mulD (b : Nat) (f y : Nat → Nat) (n i : Nat) : Nat := (f i + y i * n + mulC b f y n i) % b

theorem mul_bound {b x y n c : Nat} (hx : x < b) (hy : y < b) (hn : n < b) (hc : c < b) : x + y * n + c < b * b := by
  obtain ⟨a, rfl⟩ : ∃ a, b = a + 1 := ⟨b - 1, by omega⟩
  have h1 : y * n ≤ a * a := Nat.mul_le_mul (by omega) (by omega)
  have h2 : (a + 1) * (a + 1) = a * a + a + a + 1 := by rw [Nat.add_mul, Nat.mul_add]; omega
  omega

theorem mulC_lt {b : Nat} {f y : Nat → Nat} {n : Nat} (hb : 0 < b) (hf : ∀ i, f i < b) (hy : ∀ i, y i < b) (hn : n < b) : ∀ i, mulC b f y n i < b
  | 0 => hb
  | i + 1 => by
    have h := mulC_lt hb hf hy hn i
    simp only [mulC]
    exact (Nat.div_lt_iff_lt_mul hb).2 (mul_bound (hf i) (hy i) hn h)

theorem mulD_lt {b : Nat} (hb : 0 < b) (f y : Nat → Nat) (n i : Nat) : mulD b f y n i < b := Nat.mod_lt _ hb

theorem mulD_eq (b : Nat) (f y : Nat → Nat) (n i : Nat) : mulD b f y n i + mulC b f y n (i + 1) * b = f i + y i * n + mulC b f y n i := by
  simp only [mulD, mulC]
  have := Nat.div_add_mod (f i + y i * n + mulC b f y n i) b
  rw [Nat.mul_comm b] at this; omega

/-- One round of addTimes: the row's number and the carry. -/
theorem mul_step {b : Nat} {r0 r : List Nat} {y : Nat → Nat} {n off i : Nat} (hi : off + i < r.length) (hd : dg r (off + i) = dg r0 (off + i))
    (h : num b r + mulC b (fun j => dg r0 (off + j)) y n i * b ^ (off + i) = num b r0 + V b y i * n * b ^ off) :
    num b (r.set (off + i) (mulD b (fun j => dg r0 (off + j)) y n i)) + mulC b (fun j => dg r0 (off + j)) y n (i + 1) * b ^ (off + (i + 1)) = num b r0 + V b y (i + 1) * n * b ^ off := by
  have e1 := num_set b r (off + i) (mulD b (fun j => dg r0 (off + j)) y n i) hi
  have e2 := mulD_eq b (fun j => dg r0 (off + j)) y n i
  rw [hd] at e1
  simp only [V]
  generalize mulC b (fun j => dg r0 (off + j)) y n (i + 1) = c' at *
  generalize mulC b (fun j => dg r0 (off + j)) y n i = c at *
  generalize mulD b (fun j => dg r0 (off + j)) y n i = d at *
  generalize dg r0 (off + i) = f at *
  have e3 : (d + c' * b) * b ^ (off + i) = (f + y i * n + c) * b ^ (off + i) := by rw [e2]
  rw [Nat.add_mul, Nat.add_mul, Nat.add_mul] at e3
  have e4 : c' * b ^ (off + (i + 1)) = c' * b * b ^ (off + i) := by rw [← Nat.add_assoc, Nat.pow_succ, Nat.mul_comm (b ^ (off + i)), Nat.mul_assoc]
  have e5 : (V b y i + y i * b ^ i) * n * b ^ off = V b y i * n * b ^ off + y i * n * b ^ (off + i) := by
    rw [Nat.add_mul, Nat.add_mul, Nat.pow_add]
    congr 1
    rw [Nat.mul_assoc, Nat.mul_assoc, Nat.mul_assoc, Nat.mul_comm (b ^ i), Nat.mul_assoc]
  rw [e4, e5]
  omega

end Go.Proofs.YtifpacgacbpalaaGreatDoor

namespace Go.Proofs.YtifpacgacbpalaaGreatDoor

section
variable {K U Y y1 y0 u1 q rh : Nat}

theorem half_lt (hU : U < Y) (hu1 : u1 < K) : U * K + u1 < Y * K := by
  have : (U + 1) * K ≤ Y * K := Nat.mul_le_mul_right _ hU
  rw [Nat.add_mul, Nat.one_mul] at this; omega

theorem half_prod (hY : Y = y1 * K + y0) (hinv : q * y1 + rh = U) : q * Y + K * rh = U * K + q * y0 := by
  rw [hY, Nat.mul_add, ← hinv, Nat.add_mul, ← Nat.mul_assoc, Nat.mul_comm K rh]; omega

theorem half_exit (hY : Y = y1 * K + y0) (h0 : 0 < Y) (hinv : q * y1 + rh = U) (hge : (U * K + u1) / Y ≤ q) (ht : q * y0 ≤ K * rh + u1) : q = (U * K + u1) / Y := by
  have h := half_prod hY hinv
  have : q ≤ (U * K + u1) / Y := (Nat.le_div_iff_mul_le h0).2 (by omega)
  omega

theorem half_dec (hY : Y = y1 * K + y0) (h0 : 0 < Y) (hU : U < Y) (hu1 : u1 < K) (hinv : q * y1 + rh = U) (hc : K ≤ q ∨ K * rh + u1 < q * y0) : (U * K + u1) / Y + 1 ≤ q := by
  rcases hc with hc | hc
  · have h1 := half_lt hU hu1
    have : (U * K + u1) / Y < K := (Nat.div_lt_iff_lt_mul h0).2 (by rw [Nat.mul_comm K]; exact h1)
    omega
  · have h := half_prod hY hinv
    have : (U * K + u1) / Y < q := (Nat.div_lt_iff_lt_mul h0).2 (by omega)
    omega

theorem half_break (hY : Y = y1 * K + y0) (h0 : 0 < Y) (hy0 : y0 < K) (hinv : (q + 1) * y1 + rh = U) (hge : (U * K + u1) / Y ≤ q) (hq : q ≤ K) (hr : K ≤ rh + y1) : q = (U * K + u1) / Y := by
  have hinv' : q * y1 + (rh + y1) = U := by rw [Nat.add_mul, Nat.one_mul] at hinv; omega
  refine half_exit hY h0 hinv' hge ?_
  have h1 : q * y0 ≤ K * y0 := Nat.mul_le_mul_right _ hq
  have h2 : K * y0 ≤ K * K := Nat.mul_le_mul_left _ (by omega)
  have h3 : K * K ≤ K * (rh + y1) := Nat.mul_le_mul_left _ hr
  omega

theorem half_start (hY : Y = y1 * K + y0) (hU : U < Y) (hy1 : 0 < y1) (hy0 : y0 < K) (hk : K ≤ 2 * y1) : U / y1 ≤ K + 1 := by
  have : U / y1 < K + 2 := (Nat.div_lt_iff_lt_mul hy1).2 (by rw [Nat.add_mul, Nat.mul_comm K]; omega)
  omega

theorem half_ge (hY : Y = y1 * K + y0) (hy1 : 0 < y1) (hu1 : u1 < K) : (U * K + u1) / Y ≤ U / y1 := by
  have hK : 0 < K := by omega
  have h1 : (U * K + u1) / Y ≤ (U * K + u1) / (y1 * K) := Nat.div_le_div_left (by omega) (Nat.mul_pos hy1 hK)
  have h2 : (U * K + u1) / (y1 * K) = U / y1 := by
    rw [Nat.mul_comm y1 K, ← Nat.div_div_eq_div_mul, Nat.mul_comm U K, Nat.mul_add_div hK, Nat.div_eq_of_lt hu1, Nat.add_zero]
  omega
end

/-- Two digits divided by one, by halves. -/
theorem halves {K U u1 u0 Y : Nat} (h0 : 0 < Y) :
    ((U * K + u1) * K + u0) / Y = (U * K + u1) / Y * K + ((U * K + u1) % Y * K + u0) / Y ∧ ((U * K + u1) * K + u0) % Y = ((U * K + u1) % Y * K + u0) % Y := by
  have e := Nat.div_add_mod (U * K + u1) Y
  generalize (U * K + u1) / Y = q at *
  generalize (U * K + u1) % Y = r at *
  rw [← e, Nat.add_mul, Nat.mul_assoc, Nat.add_assoc]
  exact ⟨Nat.mul_add_div h0 _ _, Nat.mul_add_mod _ _ _⟩

end Go.Proofs.YtifpacgacbpalaaGreatDoor

namespace Go.Proofs.YtifpacgacbpalaaGreatDoor

theorem guess_high {b u1 u0 : Nat} {d1 u2 X K D U Dl Ul d2 : Nat} (hX : X = K * b) (hD : D = d1 * X + d2 * K + Dl) (hDl : d2 * K + Dl < X) (hU : U = u2 * (X * b) + u1 * X + u0 * K + Ul)
    (hb : 2 ≤ b) (hn : b ≤ 2 * d1) (h : d1 ≤ u2) (hlt : U < D * b) : b - 1 < b ∧ U < (b - 1 + 1) * D ∧ (b - 1) * D ≤ U + D := by
  obtain ⟨c, rfl⟩ : ∃ c, b = c + 2 := ⟨b - 2, by omega⟩
  refine ⟨by omega, ?_, ?_⟩
  · rw [show c + 2 - 1 + 1 = c + 2 by omega, Nat.mul_comm]; exact hlt
  · rw [show c + 2 - 1 = c + 1 by omega, Nat.add_mul, Nat.one_mul]
    have h1 : c * D ≤ c * (d1 * X + X) := Nat.mul_le_mul_left c (by omega)
    have h2 : d1 * (X * (c + 2)) ≤ u2 * (X * (c + 2)) := Nat.mul_le_mul_right _ h
    have h3 : c * X ≤ 2 * d1 * X := Nat.mul_le_mul_right X (by omega)
    have h4 : d1 * (X * (c + 2)) = c * (d1 * X) + 2 * d1 * X := by
      rw [Nat.mul_add, Nat.mul_add, ← Nat.mul_assoc, Nat.mul_comm (d1 * X) c, Nat.mul_comm X 2, ← Nat.mul_assoc d1, Nat.mul_comm d1 2]
    rw [Nat.mul_add] at h1
    omega

theorem guess_low {b u2 u1 u0 d1 d2 K D U Dl Ul : Nat} (hD : D = (d1 * b + d2) * K + Dl) (hDl : Dl < K) (hU : U = (u2 * b * b + u1 * b + u0) * K + Ul) (hUl : Ul < K)
    (h1 : u1 < b) (h0 : u0 < b) (h : u2 < d1) :
    (u2 * b * b + u1 * b + u0) / (d1 * b + d2) < b ∧ U < ((u2 * b * b + u1 * b + u0) / (d1 * b + d2) + 1) * D ∧ (u2 * b * b + u1 * b + u0) / (d1 * b + d2) * D ≤ U + D := by
  have hb : 0 < b := by omega
  have hpos : 0 < d1 * b + d2 := by have : 0 < d1 * b := Nat.mul_pos (by omega) hb; omega
  have hq : (u2 * b * b + u1 * b + u0) / (d1 * b + d2) < b := by
    rw [Nat.div_lt_iff_lt_mul hpos]
    have a1 : (u2 + 1) * b * b ≤ d1 * b * b := Nat.mul_le_mul_right b (Nat.mul_le_mul_right b h)
    have a2 : (u1 + 1) * b ≤ b * b := Nat.mul_le_mul_right b h1
    have a3 : b * (d1 * b + d2) = d1 * b * b + b * d2 := by rw [Nat.mul_add, Nat.mul_comm b (d1 * b)]
    rw [Nat.add_mul, Nat.add_mul] at a1
    rw [Nat.add_mul] at a2
    rw [a3]
    simp only [Nat.one_mul] at a1 a2
    omega
  have hm := Nat.div_add_mod (u2 * b * b + u1 * b + u0) (d1 * b + d2)
  have hml := Nat.mod_lt (u2 * b * b + u1 * b + u0) hpos
  generalize (u2 * b * b + u1 * b + u0) % (d1 * b + d2) = m at *
  generalize (u2 * b * b + u1 * b + u0) / (d1 * b + d2) = q at *
  generalize u2 * b * b + u1 * b + u0 = T at *
  have hd1 : b ≤ d1 * b + d2 := by
    have : 1 * b ≤ d1 * b := Nat.mul_le_mul_right b (by omega)
    omega
  generalize d1 * b + d2 = S at *
  refine ⟨hq, ?_, ?_⟩
  · have a1 : (T + 1) * K ≤ (q + 1) * S * K := Nat.mul_le_mul_right K (by rw [Nat.add_mul, Nat.mul_comm q]; omega)
    have a2 : (q + 1) * (S * K) ≤ (q + 1) * D := Nat.mul_le_mul_left _ (by omega)
    rw [Nat.mul_assoc] at a1
    rw [Nat.add_mul] at a1
    omega
  · have a1 : S * q * K ≤ T * K := Nat.mul_le_mul_right K (by omega)
    have a2 : q * Dl ≤ b * K := Nat.mul_le_mul (by omega) (by omega)
    have a3 : b * K ≤ S * K := Nat.mul_le_mul_right K hd1
    have a4 : q * D = S * q * K + q * Dl := by rw [hD, Nat.mul_add, ← Nat.mul_assoc, Nat.mul_comm q S]
    omega

/-- The guess that is looked for: the topmost three limbs by the topmost two. -/
def g3 (b u2 u1 u0 d1 d2 : Nat) : Nat := (u2 * b * b + u1 * b + u0) / (d1 * b + d2)

section
variable {b u2 u1 u0 d1 d2 g r : Nat}

theorem g3_eq (hg : g * d1 + r = u2 * b + u1) : (g * d1 * b + r * b) + u0 = u2 * b * b + u1 * b + u0 := by
  rw [← Nat.add_mul, hg, Nat.add_mul]

theorem g3_start (hd : 0 < d1) (hb : 0 < b) (h0 : u0 < b) : g3 b u2 u1 u0 d1 d2 ≤ (u2 * b + u1) / d1 := by
  unfold g3
  rw [Nat.le_div_iff_mul_le hd]
  have hpos : 0 < d1 * b + d2 := by have : 0 < d1 * b := Nat.mul_pos hd hb; omega
  have hm := Nat.div_mul_le_self (u2 * b * b + u1 * b + u0) (d1 * b + d2)
  generalize (u2 * b * b + u1 * b + u0) / (d1 * b + d2) = q at *
  have a1 : q * (d1 * b + d2) = q * d1 * b + q * d2 := by rw [Nat.mul_add, Nat.mul_assoc]
  have a2 : u2 * b * b + u1 * b = (u2 * b + u1) * b := by rw [Nat.add_mul]
  have a3 : q * d1 * b < (u2 * b + u1 + 1) * b := by rw [Nat.add_mul _ 1]; omega
  have := Nat.lt_of_mul_lt_mul_right a3
  omega

theorem g3_stop (hd : 0 < d1) (hb : 0 < b) (hg : g * d1 + r = u2 * b + u1) (hle : g3 b u2 u1 u0 d1 d2 ≤ g) (h : g * d2 ≤ r * b + u0) : g = g3 b u2 u1 u0 d1 d2 := by
  have hpos : 0 < d1 * b + d2 := by have : 0 < d1 * b := Nat.mul_pos hd hb; omega
  refine Nat.le_antisymm ?_ hle
  unfold g3
  rw [Nat.le_div_iff_mul_le hpos, ← g3_eq hg, Nat.mul_add, ← Nat.mul_assoc]
  omega

theorem g3_on (hd : 0 < d1) (hb : 0 < b) (hg : g * d1 + r = u2 * b + u1) (h : r * b + u0 < g * d2) : 0 < g ∧ g3 b u2 u1 u0 d1 d2 ≤ g - 1 ∧ (g - 1) * d1 + (r + d1) = u2 * b + u1 := by
  have hpos : 0 < d1 * b + d2 := by have : 0 < d1 * b := Nat.mul_pos hd hb; omega
  have g0 : 0 < g := by rcases g with _ | g; simp at h; omega
  have : g3 b u2 u1 u0 d1 d2 < g := by
    unfold g3
    rw [Nat.div_lt_iff_lt_mul hpos, ← g3_eq hg, Nat.mul_add, ← Nat.mul_assoc]
    omega
  refine ⟨g0, by omega, ?_⟩
  obtain ⟨c, rfl⟩ : ∃ c, g = c + 1 := ⟨g - 1, by omega⟩
  rw [Nat.add_mul] at hg
  simp only [Nat.add_sub_cancel]
  omega

theorem g3_wrap (hd : 0 < d1) (hb : 0 < b) (hg : g * d1 + r = u2 * b + u1) (hle : g3 b u2 u1 u0 d1 d2 ≤ g) (h1 : g < b) (h2 : d2 < b) (h : b ≤ r) : g = g3 b u2 u1 u0 d1 d2 := by
  refine g3_stop hd hb hg hle ?_
  have a1 : g * d2 ≤ b * b := Nat.mul_le_mul (by omega) (by omega)
  have a2 : b * b ≤ r * b := Nat.mul_le_mul_right b h
  omega
end

theorem pair_le {b h l r u : Nat} (hl : l < b) (hu : u < b) : h * b + l ≤ r * b + u ↔ h < r ∨ h = r ∧ l ≤ u := by
  constructor
  · intro h1
    rcases Nat.lt_trichotomy h r with a | a | a
    · exact .inl a
    · subst a; exact .inr ⟨rfl, by omega⟩
    · have : (r + 1) * b ≤ h * b := Nat.mul_le_mul_right b a
      rw [Nat.add_mul] at this; omega
  · rintro (a | ⟨rfl, a⟩)
    · have : (h + 1) * b ≤ r * b := Nat.mul_le_mul_right b a
      rw [Nat.add_mul] at this; omega
    · omega

/-- One limb of the quotient, where nothing went below nought. -/
theorem round_fits {D U X L R R1 g E : Nat} (hR : R = U * X + L) (hL : L < X) (hU : U < (g + 1) * D) (h1 : R1 + D * g * X = R + 0 * E) : R1 < D * X ∧ R1 + D * g * X = R := by
  have a1 : (U + 1) * X ≤ (g + 1) * D * X := Nat.mul_le_mul_right X hU
  have a2 : (g + 1) * D * X = D * g * X + D * X := by rw [Nat.add_mul, Nat.add_mul, Nat.one_mul, Nat.mul_comm g D]
  rw [Nat.add_mul, Nat.one_mul] at a1
  omega

/-- One limb of the quotient, where it went below nought and the divisor was added back. -/
theorem round_back {D U X L R R1 R2 g E c : Nat} (hR : R = U * X + L) (hg : g * D ≤ U + D) (hE : R1 < E) (h1 : R1 + D * g * X = R + 1 * E) (hE2 : R2 < E) (hc : c ≤ 1) (h2 : R2 + c * E = R1 + D * X) :
    1 ≤ g ∧ R2 < D * X ∧ R2 + D * (g - 1) * X = R := by
  have g0 : 1 ≤ g := by rcases g with _ | g; simp at h1; omega; omega
  obtain ⟨q, rfl⟩ : ∃ q, g = q + 1 := ⟨g - 1, by omega⟩
  have a1 : D * (q + 1) * X = D * q * X + D * X := by rw [Nat.mul_add, Nat.mul_one, Nat.add_mul]
  have a2 : q * D * X ≤ U * X := Nat.mul_le_mul_right X (by rw [Nat.add_mul] at hg; omega)
  rw [Nat.mul_comm q D] at a2
  rw [a1] at h1
  simp only [Nat.add_sub_cancel]
  have hcc : c = 1 := by
    rcases Nat.lt_or_ge 0 c with hc0 | hc0
    · omega
    · obtain rfl : c = 0 := by omega
      omega
  subst hcc
  refine ⟨g0, ?_, ?_⟩ <;> omega

/-- A number below b ^ j has no limb at j. -/
theorem V_ge {b : Nat} {f : Nat → Nat} {j : Nat} : ∀ n, j < n → f j * b ^ j ≤ V b f n
  | 0, h => absurd h (Nat.not_lt_zero _)
  | n + 1, h => by
    simp only [V]
    by_cases e : j = n
    · subst e; omega
    · have := V_ge (b := b) (f := f) (j := j) n (by omega); omega

theorem dg_small {b : Nat} {xs : List Nat} {t j : Nat} (hb : 0 < b) (h : num b xs < b ^ t) (hj : t ≤ j) : dg xs j = 0 := by
  by_cases hl : j < xs.length
  · have h1 := V_ge (b := b) (f := dg xs) xs.length hl
    have h2 := Nat.pow_le_pow_right hb hj
    rcases hd : dg xs j with _ | d
    · rfl
    · rw [hd] at h1
      have h3 : 1 * b ^ j ≤ (d + 1) * b ^ j := Nat.mul_le_mul_right _ (by omega)
      unfold num at h; omega
  · exact dg_out (by omega)

theorem num_upto {b : Nat} {xs : List Nat} {t : Nat} (h : ∀ j, t ≤ j → dg xs j = 0) : num b xs = V b (dg xs) t := by
  by_cases hl : t ≤ xs.length
  · exact V_zero _ hl h
  · exact (num_eq (by omega)).symm

theorem num_below {b : Nat} {xs : List Nat} {t : Nat} (ho : Ok b xs) (h : ∀ j, t ≤ j → dg xs j = 0) : num b xs < b ^ t := by
  rw [num_upto h]; exact V_lt t (fun i _ => ho i)

/-- What guessLimb answers. -/
def guessOf (b u2 u1 u0 d1 d2 : Nat) : Nat := if d1 ≤ u2 then b - 1 else g3 b u2 u1 u0 d1 d2

/-- The guess from the limbs of the rest r and the divisor ys, which has m + 2 of them, at place k. -/
theorem guess_good {b m k : Nat} {r ys : List Nat} (hb : 2 ≤ b) (or : Ok b r) (oy : Ok b ys) (hy : ys.length = m + 2) (htop : b ≤ 2 * dg ys (m + 1)) (hlt : num b r < num b ys * b ^ (k + 1)) :
    ∃ g U L, g = guessOf b (dg r (k + (m + 2))) (dg r (k + (m + 1))) (dg r (k + m)) (dg ys (m + 1)) (dg ys m) ∧ num b r = U * b ^ k + L ∧ L < b ^ k ∧ g < b ∧ U < (g + 1) * num b ys ∧ g * num b ys ≤ U + num b ys ∧ num b r < b ^ (k + (m + 3)) := by
  have hb0 : 0 < b := by omega
  have hys := num_lt oy
  rw [hy] at hys
  have hbig : num b r < b ^ (k + (m + 3)) := by
    refine Nat.lt_of_lt_of_le hlt ?_
    have := Nat.mul_le_mul_right (b ^ (k + 1)) (Nat.le_of_lt hys)
    rw [← Nat.pow_add] at this
    rw [show k + (m + 3) = m + 2 + (k + 1) by omega]; exact this
  have hr : num b r = V b (dg r) (k + (m + 3)) := num_upto (fun j hj => dg_small hb0 hbig hj)
  have hs := V_split b (dg r) k (m + 3)
  have hL : V b (dg r) k < b ^ k := V_lt k (fun i _ => or i)
  obtain ⟨U, hU⟩ : ∃ U, U = V b (fun i => dg r (k + i)) (m + 3) := ⟨_, rfl⟩
  rw [← hU] at hs
  have hR : num b r = U * b ^ k + V b (dg r) k := by rw [hr, hs, Nat.mul_comm]; omega
  have hUl : V b (fun i => dg r (k + i)) m < b ^ m := V_lt m (fun i _ => or _)
  have hDl : V b (dg ys) m < b ^ m := V_lt m (fun i _ => oy i)
  have hU' : U = V b (fun i => dg r (k + i)) m + dg r (k + m) * b ^ m + dg r (k + (m + 1)) * b ^ (m + 1) + dg r (k + (m + 2)) * b ^ (m + 2) := by rw [hU]; simp only [V]
  have hD' : num b ys = V b (dg ys) m + dg ys m * b ^ m + dg ys (m + 1) * b ^ (m + 1) := by unfold num; rw [hy]; simp only [V]
  have hUb : U < num b ys * b := by
    have : U * b ^ k < num b ys * b * b ^ k := by
      rw [Nat.pow_succ, Nat.mul_comm (b ^ k), ← Nat.mul_assoc] at hlt
      omega
    exact Nat.lt_of_mul_lt_mul_right this
  refine ⟨_, U, _, rfl, hR, hL, ?_⟩
  have o1 := or (k + (m + 1)); have o0 := or (k + m); have o2 := oy m
  generalize dg r (k + (m + 2)) = u2 at *
  generalize dg r (k + (m + 1)) = u1 at *
  generalize dg r (k + m) = u0 at *
  generalize dg ys (m + 1) = d1 at *
  generalize dg ys m = d2 at *
  generalize num b ys = D at *
  generalize V b (fun i => dg r (k + i)) m = Ul at *
  generalize V b (dg ys) m = Dl at *
  have p1 : b ^ (m + 1) = b ^ m * b := Nat.pow_succ ..
  have p2 : b ^ (m + 2) = b ^ m * b * b := by rw [Nat.pow_succ, Nat.pow_succ]
  rw [p1] at hD'
  rw [p1, p2] at hU'
  generalize b ^ m = K at *
  unfold guessOf
  split
  · next h =>
    obtain ⟨a1, a2, a3⟩ := guess_high (u1 := u1) (u0 := u0) (Dl := Dl) (Ul := Ul) (d2 := d2) (X := K * b) (K := K) (U := U) (D := D) (u2 := u2) (d1 := d1) rfl (by omega) (by
      have : (d2 + 1) * K ≤ b * K := Nat.mul_le_mul_right K o2
      rw [Nat.add_mul, Nat.mul_comm b K] at this; omega) (by omega) hb htop h hUb
    exact ⟨a1, a2, a3, hbig⟩
  · next h =>
    have e1 : (d1 * b + d2) * K = d1 * (K * b) + d2 * K := by rw [Nat.add_mul, Nat.mul_assoc, Nat.mul_comm b K]
    have e2 : (u2 * b * b + u1 * b + u0) * K = u2 * (K * b * b) + u1 * (K * b) + u0 * K := by
      rw [Nat.add_mul, Nat.add_mul, Nat.mul_assoc u1, Nat.mul_comm b K, Nat.mul_assoc u2, Nat.mul_assoc u2, Nat.mul_comm (b * b) K, Nat.mul_assoc K]
    obtain ⟨a1, a2, a3⟩ := guess_low (b := b) (u2 := u2) (u1 := u1) (u0 := u0) (d1 := d1) (d2 := d2) (K := K) (D := D) (U := U) (Dl := Dl) (Ul := Ul) (by rw [e1]; omega) hDl (by rw [e2]; omega) hUl o1 o0 (by omega)
    exact ⟨a1, a2, a3, hbig⟩

end Go.Proofs.YtifpacgacbpalaaGreatDoor

namespace Go.Proofs.YtifpacgacbpalaaGreatDoor

/-- The j-th digit of 16 bits of a list of limbs. -/
def d16 (xs : List Nat) (j : Nat) : Nat := dg xs (j / 4) / 65536 ^ (j % 4) % 65536

def digs (xs : List Nat) (n : Nat) : List Nat := (List.range n).map (d16 xs)

theorem length_digs (xs : List Nat) (n : Nat) : (digs xs n).length = n := by simp [digs]

theorem digs_succ (xs : List Nat) (n : Nat) : digs xs (n + 1) = digs xs n ++ [d16 xs n] := by simp [digs, List.range_succ]

theorem dg_digs (xs : List Nat) (n j : Nat) (h : j < n) : dg (digs xs n) j = d16 xs j := by
  simp [dg, digs, h]

theorem d16_lt (xs : List Nat) (j : Nat) : d16 xs j < 65536 := Nat.mod_lt _ (by omega)

theorem digs_ok (xs : List Nat) (n : Nat) : Ok 65536 (digs xs n) := by
  intro j
  by_cases h : j < n
  · rw [dg_digs _ _ _ h]; exact d16_lt _ _
  · rw [dg_out (by rw [length_digs]; omega)]; omega

theorem split4 (x : Nat) (hx : x < 18446744073709551616) : x % 65536 + (x / 65536 % 65536) * 65536 + (x / 4294967296 % 65536) * 4294967296 + (x / 281474976710656 % 65536) * 281474976710656 = x := by
  omega

theorem V_digs (B : Nat) (hB : B = 65536 ^ 4) (xs : List Nat) (h : ∀ i, dg xs i < 18446744073709551616) : ∀ m, V 65536 (d16 xs) (4 * m) = V B (dg xs) m
  | 0 => rfl
  | m + 1 => by
    have ih := V_digs B hB xs h m
    rw [show 4 * (m + 1) = 4 * m + 1 + 1 + 1 + 1 by omega]
    simp only [V]
    rw [ih]
    have e0 : d16 xs (4 * m) = dg xs m % 65536 := by
      unfold d16; rw [show 4 * m / 4 = m by omega, show 4 * m % 4 = 0 by omega]; simp
    have e1 : d16 xs (4 * m + 1) = dg xs m / 65536 % 65536 := by
      unfold d16; rw [show (4 * m + 1) / 4 = m by omega, show (4 * m + 1) % 4 = 1 by omega, Nat.pow_one]
    have e2 : d16 xs (4 * m + 1 + 1) = dg xs m / 4294967296 % 65536 := by
      unfold d16; rw [show (4 * m + 1 + 1) / 4 = m by omega, show (4 * m + 1 + 1) % 4 = 2 by omega]
    have e3 : d16 xs (4 * m + 1 + 1 + 1) = dg xs m / 281474976710656 % 65536 := by
      unfold d16; rw [show (4 * m + 1 + 1 + 1) / 4 = m by omega, show (4 * m + 1 + 1 + 1) % 4 = 3 by omega]
    rw [e0, e1, e2, e3]
    have hp : 65536 ^ (4 * m) = B ^ m := by rw [hB, Nat.pow_mul]
    have q1 : 65536 ^ (4 * m + 1) = B ^ m * 65536 := by rw [Nat.pow_succ, hp]
    have q2 : 65536 ^ (4 * m + 1 + 1) = B ^ m * 4294967296 := by rw [Nat.pow_succ, q1, Nat.mul_assoc]
    have q3 : 65536 ^ (4 * m + 1 + 1 + 1) = B ^ m * 281474976710656 := by rw [Nat.pow_succ, q2, Nat.mul_assoc]
    rw [hp, q1, q2, q3]
    have hs := split4 (dg xs m) (h m)
    have mc : ∀ a P c : Nat, a * (P * c) = a * c * P := fun a P c => by rw [Nat.mul_comm P c, Nat.mul_assoc]
    rw [mc, mc, mc]
    generalize B ^ m = P at *
    have e4 := congrArg (· * P) hs
    simp only [Nat.add_mul] at e4
    omega

end Go.Proofs.YtifpacgacbpalaaGreatDoor

namespace Go.Proofs.YtifpacgacbpalaaGreatDoor
open Go.RowKit

/-- What the reference's functions answer: a list of digits, without noughts on top, that is the number n; it has at most m digits. -/
def RPost (w : World) (m n : Nat) (e : Ending) (w' : World) : Prop :=
  ∃ ao cap ys, e = .returned (.slice ao ys.length cap) ∧ ys.length ≤ cap ∧ At .u32 w' ao ys ∧ Is 65536 ys n ∧ ys.length ≤ m ∧ Below w.heap.size w w'

/-- A list that is being built by append. -/
def Grows (w wr : World) (v : Value) (ys : List Nat) : Prop := Below w.heap.size w wr ∧ wr.ownsRow w.heap.size 99 1 v ys.length (vals .u32 ys)

theorem Grows.at {w wr : World} {v : Value} {ys : List Nat} (h : Grows w wr v ys) : ∃ ao cap, v = .slice ao ys.length cap ∧ ys.length ≤ cap ∧ At .u32 wr ao ys := by
  obtain ⟨hb, hl, ho⟩ := h
  rcases ho with ⟨rfl, h0⟩ | ⟨g, cap, cur, rfl, hg, hh, hn, _, hs, ht⟩
  · obtain rfl : ys = [] := List.length_eq_zero_iff.1 h0
    exact ⟨none, 0, rfl, Nat.le_refl _, At.nil _ _ _⟩
  · refine ⟨_, cap, rfl, hn, .inr ⟨g, 0, rfl, lt_of_block hh, fun i hi => ?_⟩⟩
    simp only [World.cell?, hh]
    have hc : cur[i]? = (vals .u32 ys)[i]? := by
      rw [← ht, List.getElem?_take_of_lt (by omega), Array.getElem?_toList]
    simp only [Option.isSome_none, Bool.false_eq_true, if_false, Nat.zero_add, hc]
    simp [vals, hi]

theorem Grows.step {w wr w1 : World} {v v' : Value} {ys : List Nat} {d : Nat} (o : Obj) (h : Grows w wr v ys) (ho : w1.ownsRow w.heap.size 99 1 v' (ys.length + 1) (vals .u32 ys ++ [.int .u32 (d : Int)])) (hg : (wr.alloc o).grownBy w1 v.ownBlock) :
    Grows w w1 v' (ys ++ [d]) := by
  have hb := h.1.alloc (h.1.size) o
  refine ⟨hb.grown hg hb.size ?_, ?_⟩
  · intro k hk
    rcases h.2.2 with ⟨rfl, _⟩ | ⟨g, cap, cur, rfl, hgb, _⟩
    · simp [Value.ownBlock] at hk
    · simp [Value.ownBlock] at hk; omega
  · rw [List.length_append]
    have : vals .u32 (ys ++ [d]) = vals .u32 ys ++ [.int .u32 (d : Int)] := by simp [vals]
    rw [this]; exact ho

theorem and16 (a : Nat) (ha : a < B64) : bits .and .u64 (a : Int) 65535 % 4294967296 = ((a % 65536 : Nat) : Int) := by
  have h := bits_and_u64_nat a 65535 ha (by omega)
  rw [Nat.and_two_pow_sub_one_eq_mod a 16] at h
  rw [show (65535 : Int) = ((65535 : Nat) : Int) from rfl, h]
  omega

/-- The four digits of a limb, as the walk spells them. -/
theorem in_digit {xs : List Nat} {m t x : Nat} (hx : x = dg xs m) (hb : x < B64) (ht : t < 4) :
    (t = 0 → bits .and .u64 (x : Int) 65535 % 4294967296 = ((d16 xs (4 * m + t) : Nat) : Int)) ∧
    (t = 1 → bits .and .u64 ((x : Int) / 65536) 65535 % 4294967296 = ((d16 xs (4 * m + t) : Nat) : Int)) ∧
    (t = 2 → bits .and .u64 ((x : Int) / 4294967296) 65535 % 4294967296 = ((d16 xs (4 * m + t) : Nat) : Int)) ∧
    (t = 3 → bits .and .u64 ((x : Int) / 281474976710656) 65535 % 4294967296 = ((d16 xs (4 * m + t) : Nat) : Int)) := by
  have e : d16 xs (4 * m + t) = x / 65536 ^ t % 65536 := by
    unfold d16; rw [show (4 * m + t) / 4 = m by omega, show (4 * m + t) % 4 = t by omega, hx]
  rw [e]
  refine ⟨?_, ?_, ?_, ?_⟩ <;> intro h <;> subst h
  · rw [and16 x hb]; simp
  · rw [show (x : Int) / 65536 = ((x / 65536 : Nat) : Int) by omega, and16 _ (Nat.lt_of_le_of_lt (Nat.div_le_self _ _) hb), Nat.pow_one]
  · rw [show (x : Int) / 4294967296 = ((x / 4294967296 : Nat) : Int) by omega, and16 _ (Nat.lt_of_le_of_lt (Nat.div_le_self _ _) hb)]
  · rw [show (x : Int) / 281474976710656 = ((x / 281474976710656 : Nat) : Int) by omega, and16 _ (Nat.lt_of_le_of_lt (Nat.div_le_self _ _) hb)]

set_option maxRecDepth 100000 in
set_option maxHeartbeats 4000000 in
theorem in_at (b o len cap : Nat) (xs : List Nat) (w : World) (hl : len ≤ 100000000) (hx : xs.length = len) (hb : b < w.heap.size)
    (hcell : ∀ i, i < xs.length → w.cell? ⟨b, o + i, none⟩ = some (.int .u64 ((dg xs i : Nat) : Int))) (ox : Ok B64 xs) :
    Calls Tryz.prog 58 #[.slice (some ⟨b, o, none⟩) len cap] w (RPost w (4 * len) (num B64 xs)) := by
  obtain ⟨i0, hi, hz0, hz1, hz2⟩ := info_parts Tryz.infoD
  go_enter Tryz.func58, Tryz.ntmps58
  go_wp2
  go_loopw [3, 4, 5] (fun v i _ wr => ∃ m : Nat, m ≤ len ∧ i = .int .i64 m ∧ Grows w wr v (digs xs (4 * m))) (fun _ i _ _ => len - (intOf i).toNat)
  case atStart => exact ⟨0, Nat.zero_le _, rfl, (Below.refl _ _).alloc (Nat.le_refl _) _, World.ownsRow_lit _ #[] 0 (Nat.le_refl _) (by unfold maxLen; omega) rfl⟩
  case round =>
    obtain ⟨m, hm, rfl, hg⟩ := hrel
    have HG : Hid (Grows w wr u3 (digs xs (4 * m))) := hg
    clear hg
    by_cases hlt : m < len
    · have hlt' : (m : Int) < (len : Int) := by omega
      go_wp2
      go_loopw [3, 5] (fun v k wr => ∃ t : Nat, t ≤ 4 ∧ k = .int .i64 t ∧ Grows w wr v (digs xs (4 * m + t))) (fun _ k _ => 4 - (intOf k).toNat)
      case atStart => exact ⟨0, by omega, rfl, HG.out⟩
      case round =>
        clear HG
        obtain ⟨t, ht, rfl, hg⟩ := hrel
        have HG : Hid (Grows w wr u3 (digs xs (4 * m + t))) := hg
        have c0 : wr.cell? ⟨b, o + m, none⟩ = some (.int .u64 ((dg xs m : Nat) : Int)) := (hg.1.cell hb).trans (hcell m (by omega))
        have hsz := hg.1.size
        obtain ⟨x, hxm⟩ : ∃ x, x = dg xs m := ⟨_, rfl⟩
        rw [← hxm] at c0
        have HX : Hid (x = dg xs m) := hxm
        have HB : Hid (x < B64) := by rw [hxm]; exact ox m
        clear hxm hcell ox
        by_cases h4 : t = 4
        · subst h4
          clear hg
          go_wp2
          go_roundw
          case rel => exact ⟨m + 1, by omega, by go_num, HG.out⟩
          case measure => simp [intOf]; omega
        · have hown := hg.2
          rw [length_digs] at hown
          have hd := in_digit (t := t) HX.out HB.out (by omega)
          have HD : Hid (digs xs (4 * m + t) ++ [d16 xs (4 * m + t)] = digs xs (4 * m + (t + 1))) := (digs_succ xs (4 * m + t)).symm
          clear hg
          obtain ⟨d, hdd⟩ : ∃ d, d = d16 xs (4 * m + t) := ⟨_, rfl⟩
          rw [← hdd] at hd
          have HE : Hid (d = d16 xs (4 * m + t)) := hdd
          clear hdd
          rcases (show t = 0 ∨ t = 1 ∨ t = 2 ∨ t = 3 by omega) with rfl | rfl | rfl | rfl
          · have hd0 := hd.1 rfl
            clear hd
            go_wp2_with (at_builtin; refine wpList_append_own _ rfl _ _ 54 rfl w.heap.size 99 i0 (.int .u32 0) 1 4 Tryz.underlying54 hi hz0 hz1 hz2 rfl (by decide) _ _ _ rfl (hown.alloc _) ⟨wr.heap.size, 0, none⟩ 1 1 [.int .u32 (d : Int)] rfl rfl ?c1 ?c2 ?c3 ?c4 ?c5 ?_)
            case c1 => exact new_cell wr _ _
            case c2 => exact one_one _ _
            case c3 => unfold maxLen; omega
            case c4 => omega
            case c5 => simp; omega
            intro v' w1 hown' hgrow _
            have hg' : Grows w w1 v' (digs xs (4 * m + 1)) := by
              rw [← HD.out, ← HE.out]
              exact HG.out.step _ (by rw [length_digs]; exact hown') hgrow
            have HG' : Hid (Grows w w1 v' (digs xs (4 * m + 1))) := hg'
            clear hown hown' hgrow hg' HG hd0
            go_wp2
            go_roundw
            case rel => exact ⟨1, by omega, by go_num, HG'.out⟩
            case measure => simp [intOf]
          · have hd0 := hd.2.1 rfl
            clear hd
            go_wp2_with (at_builtin; refine wpList_append_own _ rfl _ _ 54 rfl w.heap.size 99 i0 (.int .u32 0) 1 4 Tryz.underlying54 hi hz0 hz1 hz2 rfl (by decide) _ _ _ rfl (hown.alloc _) ⟨wr.heap.size, 0, none⟩ 1 1 [.int .u32 (d : Int)] rfl rfl ?c1 ?c2 ?c3 ?c4 ?c5 ?_)
            case c1 => exact new_cell wr _ _
            case c2 => exact one_one _ _
            case c3 => unfold maxLen; omega
            case c4 => omega
            case c5 => simp; omega
            intro v' w1 hown' hgrow _
            have hg' : Grows w w1 v' (digs xs (4 * m + 2)) := by
              rw [← HD.out, ← HE.out]
              exact HG.out.step _ (by rw [length_digs]; exact hown') hgrow
            have HG' : Hid (Grows w w1 v' (digs xs (4 * m + 2))) := hg'
            clear hown hown' hgrow hg' HG hd0
            go_wp2
            go_roundw
            case rel => exact ⟨2, by omega, by go_num, HG'.out⟩
            case measure => simp [intOf]
          · have hd0 := hd.2.2.1 rfl
            clear hd
            go_wp2_with (at_builtin; refine wpList_append_own _ rfl _ _ 54 rfl w.heap.size 99 i0 (.int .u32 0) 1 4 Tryz.underlying54 hi hz0 hz1 hz2 rfl (by decide) _ _ _ rfl (hown.alloc _) ⟨wr.heap.size, 0, none⟩ 1 1 [.int .u32 (d : Int)] rfl rfl ?c1 ?c2 ?c3 ?c4 ?c5 ?_)
            case c1 => exact new_cell wr _ _
            case c2 => exact one_one _ _
            case c3 => unfold maxLen; omega
            case c4 => omega
            case c5 => simp; omega
            intro v' w1 hown' hgrow _
            have hg' : Grows w w1 v' (digs xs (4 * m + 3)) := by
              rw [← HD.out, ← HE.out]
              exact HG.out.step _ (by rw [length_digs]; exact hown') hgrow
            have HG' : Hid (Grows w w1 v' (digs xs (4 * m + 3))) := hg'
            clear hown hown' hgrow hg' HG hd0
            go_wp2
            go_roundw
            case rel => exact ⟨3, by omega, by go_num, HG'.out⟩
            case measure => simp [intOf]
          · have hd0 := hd.2.2.2 rfl
            clear hd
            go_wp2_with (at_builtin; refine wpList_append_own _ rfl _ _ 54 rfl w.heap.size 99 i0 (.int .u32 0) 1 4 Tryz.underlying54 hi hz0 hz1 hz2 rfl (by decide) _ _ _ rfl (hown.alloc _) ⟨wr.heap.size, 0, none⟩ 1 1 [.int .u32 (d : Int)] rfl rfl ?c1 ?c2 ?c3 ?c4 ?c5 ?_)
            case c1 => exact new_cell wr _ _
            case c2 => exact one_one _ _
            case c3 => unfold maxLen; omega
            case c4 => omega
            case c5 => simp; omega
            intro v' w1 hown' hgrow _
            have hg' : Grows w w1 v' (digs xs (4 * m + 4)) := by
              rw [← HD.out, ← HE.out]
              exact HG.out.step _ (by rw [length_digs]; exact hown') hgrow
            have HG' : Hid (Grows w w1 v' (digs xs (4 * m + 4))) := hg'
            clear hown hown' hgrow hg' HG hd0
            go_wp2
            go_roundw
            case rel => exact ⟨4, by omega, by go_num, HG'.out⟩
            case measure => simp [intOf]
    · obtain rfl : m = len := by omega
      obtain ⟨ao, cp, rfl, hcl, hat⟩ := HG.out.at
      have hbel := HG.out.1
      obtain ⟨q, hq⟩ : ∃ q, q = (trimmed (digs xs (4 * m))).length := ⟨_, rfl⟩
      have HQ : Hid ((trimmed (digs xs (4 * m))).length = q) := hq.symm
      have hle := length_trimmed_le (digs xs (4 * m))
      rw [length_digs] at hcl hle
      rw [HQ.out] at hle
      clear HG hq
      rw [length_digs]
      go_wp2_with fail
      refine (rtrim_to ao (4 * m) cp q (digs xs (4 * m)) _ hcl (by omega) (length_digs _ _) hat HQ.out).mono ?_
      rintro e w' ⟨rfl, rfl⟩
      go_wp2
      go_ret
      refine ⟨ao, cp, trimmed (digs xs (4 * m)), by rw [HQ.out]; rfl, by rw [HQ.out]; omega, hat.trimmed, ?_, by rw [HQ.out]; exact hle, hbel⟩
      have := Is.trimmed (digs_ok xs (4 * m))
      rw [show num 65536 (digs xs (4 * m)) = num B64 xs from ?_] at this
      · exact this
      · unfold num
        rw [length_digs, hx, V_congr (4 * m) (fun i hi => dg_digs xs (4 * m) i hi), V_digs B64 (by decide +kernel) xs (fun i => ox i)]

set_option maxHeartbeats 4000000 in
theorem in_nil (ao : Option Addr) (cap : Nat) (w : World) :
    Calls Tryz.prog 58 #[.slice ao 0 cap] w (RPost w 0 0) := by
  have hgr : Grows w (w.alloc (.cells #[] 99)) (.slice (some ⟨w.heap.size, 0, none⟩) 0 0) [] := ⟨(Below.refl _ _).alloc (Nat.le_refl _) _, World.ownsRow_lit _ #[] 0 (Nat.le_refl _) (by unfold maxLen; omega) rfl⟩
  have HG : Hid (Grows w (w.alloc (.cells #[] 99)) (.slice (some ⟨w.heap.size, 0, none⟩) 0 0) []) := hgr
  clear hgr
  go_enter Tryz.func58, Tryz.ntmps58
  go_wp2
  refine wp_loop_rounds 1 ?_
  rw [rounds_succ]
  go_wp2_with fail
  refine (rtrim_to _ 0 0 0 [] _ (Nat.le_refl _) (by omega) rfl (At.nil _ _ _) rfl).mono ?_
  rintro e w' ⟨rfl, rfl⟩
  go_wp2
  go_ret
  exact ⟨_, _, [], rfl, Nat.le_refl _, At.nil _ _ _, Is.none (by decide), Nat.le_refl _, HG.out.1⟩

theorem in_any (ao : Option Addr) (len cap : Nat) (xs : List Nat) (w : World) (hl : len ≤ 100000000) (hx : xs.length = len) (hat : At .u64 w ao xs) (ox : Ok B64 xs) :
    Calls Tryz.prog 58 #[.slice ao len cap] w (RPost w (4 * len) (num B64 xs)) := by
  rcases hat with rfl | ⟨b, o, rfl, h2, h3⟩
  · obtain rfl : len = 0 := hx.symm
    exact in_nil ao cap w
  · exact in_at b o len cap xs w hl hx h2 h3 ox

end Go.Proofs.YtifpacgacbpalaaGreatDoor
