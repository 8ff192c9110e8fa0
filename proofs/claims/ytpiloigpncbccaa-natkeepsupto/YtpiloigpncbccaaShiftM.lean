/-
  Plain mathematics of shifts: what one digit of a list turned does to its number, and what a digit is when it is shifted.
-/
import Derived.Test.YtpiloigpncbccaaRow
namespace Go.Proofs.Ytpiloigpncbccaa

theorem V_set (b : Nat) (f g : Nat → Nat) (i v : Nat) (hg : ∀ j, g j = if j = i then v else f j) : ∀ n, i < n → V b g n + f i * b ^ i = V b f n + v * b ^ i
  | 0, h => absurd h (by omega)
  | n + 1, h => by
    simp only [V]
    by_cases e : i = n
    · have : V b g n = V b f n := V_congr n (fun j hj => by rw [hg, if_neg (by omega)])
      rw [this, hg n, if_pos e.symm, e]; omega
    · have ih := V_set b f g i v hg n (by omega)
      rw [hg n, if_neg (by omega)]; omega

/-- One digit of a list turned: what becomes of its number. -/
theorem num_set (b : Nat) (xs : List Nat) (i v : Nat) (hi : i < xs.length) : num b (xs.set i v) + dg xs i * b ^ i = num b xs + v * b ^ i := by
  unfold num
  rw [List.length_set]
  exact V_set b (dg xs) (dg (xs.set i v)) i v (fun j => dg_set xs i v j hi) xs.length hi

theorem Ok.set {b : Nat} {xs : List Nat} (h : Ok b xs) {i v : Nat} (hi : i < xs.length) (hv : v < b) : Ok b (xs.set i v) := by
  intro j
  rw [dg_set _ _ _ _ hi]
  split
  · exact hv
  · exact h j

theorem num_replicate (b n : Nat) : num b (List.replicate n 0) = 0 := by
  unfold num
  have : ∀ m, V b (dg (List.replicate n 0)) m = 0 := by
    intro m
    induction m with
    | zero => rfl
    | succ m ih => simp only [V]; rw [ih, dg_replicate]; simp
  exact this _

theorem Ok.replicate {b : Nat} (hb : 0 < b) (n : Nat) : Ok b (List.replicate n 0) := fun i => by rw [dg_replicate]; exact hb

/-- The low part of a digit of n bits that is shifted up by s. -/
theorem low_eq {n s : Nat} (hs : s ≤ n) (x : Nat) : x * 2 ^ s % 2 ^ n = x % 2 ^ (n - s) * 2 ^ s := by
  rw [show (2 : Nat) ^ n = 2 ^ (n - s) * 2 ^ s by rw [← Nat.pow_add]; congr 1; omega]
  exact Nat.mul_mod_mul_right _ _ _

/-- The high part. -/
theorem high_eq {n s : Nat} (hs : s ≤ n) (x : Nat) : x * 2 ^ s / 2 ^ n = x / 2 ^ (n - s) := by
  rw [show (2 : Nat) ^ n = 2 ^ (n - s) * 2 ^ s by rw [← Nat.pow_add]; congr 1; omega]
  exact Nat.mul_div_mul_right _ _ (Nat.two_pow_pos s)

theorem high_lt {n s : Nat} (hs : s ≤ n) {x : Nat} (hx : x < 2 ^ n) : x / 2 ^ (n - s) < 2 ^ s := by
  rw [Nat.div_lt_iff_lt_mul (Nat.two_pow_pos _), ← Nat.pow_add, show s + (n - s) = n by omega]
  exact hx

theorem or_low {s y a : Nat} (hy : y < 2 ^ s) : y ||| a * 2 ^ s = y + a * 2 ^ s := by
  rw [Nat.or_comm, Nat.mul_comm, ← Nat.two_pow_add_eq_or_of_lt hy]; omega

theorem low_room {n s y x : Nat} (hs : s ≤ n) (hy : y < 2 ^ s) : y + x * 2 ^ s % 2 ^ n < 2 ^ n := by
  rw [low_eq hs]
  have h1 : x % 2 ^ (n - s) + 1 ≤ 2 ^ (n - s) := Nat.mod_lt _ (Nat.two_pow_pos _)
  have h2 := Nat.mul_le_mul_right (2 ^ s) h1
  rw [← Nat.pow_add, show n - s + s = n by omega, Nat.add_mul, Nat.one_mul] at h2
  omega

/-- One round of a shift up: the digit's low part is laid into place i, its high part into the next one. -/
theorem up_step {n s : Nat} (hs : s ≤ n) {r : List Nat} {i x : Nat} (ho : Ok (2 ^ n) r) (hi : i + 1 < r.length) (hy : dg r i < 2 ^ s) (h0 : dg r (i + 1) = 0) (hx : x < 2 ^ n) :
    Ok (2 ^ n) ((r.set i (dg r i ||| x * 2 ^ s % 2 ^ n)).set (i + 1) (x / 2 ^ (n - s))) ∧
    num (2 ^ n) ((r.set i (dg r i ||| x * 2 ^ s % 2 ^ n)).set (i + 1) (x / 2 ^ (n - s))) = num (2 ^ n) r + x * 2 ^ s * (2 ^ n) ^ i := by
  have hor : dg r i ||| x * 2 ^ s % 2 ^ n = dg r i + x * 2 ^ s % 2 ^ n := by rw [low_eq hs]; exact or_low hy
  have hroom := low_room (x := x) hs hy
  rw [hor]
  have ho' := ho.set (i := i) (v := dg r i + x * 2 ^ s % 2 ^ n) (by omega) hroom
  have hhi : x / 2 ^ (n - s) < 2 ^ n := Nat.lt_of_le_of_lt (Nat.div_le_self _ _) hx
  refine ⟨ho'.set (by simpa using hi) hhi, ?_⟩
  have e1 := num_set (2 ^ n) r i (dg r i + x * 2 ^ s % 2 ^ n) (by omega)
  have e2 := num_set (2 ^ n) (r.set i (dg r i + x * 2 ^ s % 2 ^ n)) (i + 1) (x / 2 ^ (n - s)) (by simpa using hi)
  rw [dg_set _ _ _ _ (by omega), if_neg (by omega), h0] at e2
  have e3 := Nat.div_add_mod (x * 2 ^ s) (2 ^ n)
  rw [high_eq hs] at e3
  generalize x * 2 ^ s % 2 ^ n = lo at *
  generalize x / 2 ^ (n - s) = h at *
  rw [← e3, Nat.pow_succ] at *
  generalize (2 ^ n) ^ i = p at *
  generalize 2 ^ n = B at *
  rw [Nat.add_mul] at *
  have : h * (p * B) = B * h * p := by rw [Nat.mul_comm p B, ← Nat.mul_assoc, Nat.mul_comm h B]
  omega

end Go.Proofs.Ytpiloigpncbccaa
