/-
  Plain mathematics of the reference's shifts.
  Plain mathematics of dividing bit by bit, with digits to the base 65536.
  What the reference's Add does: the sum, digit by digit.
  What the reference's Sub does: the difference, digit by digit, of a number and one that is not above it.
  What the reference's Cmp and SubErr do.
-/
import Derived.Test.YtifpacgacbpalaaGreatDoorZQ3
import Derived.Test.YtifpacgacbpalaaGreatDoorZQ21
import Derived.Test.YtifpacgacbpalaaGreatDoorOut
import Derived.Laws.BitsAllLaws
import Derived.Deep.QuietTactic
import Derived.BigQuiet
import Derived.WalkSmall
namespace Go.Proofs.YtifpacgacbpalaaGreatDoor

theorem mul_val (b : Nat) (f y : Nat → Nat) (n : Nat) : ∀ m, V b f m + V b y m * n = V b (mulD b f y n) m + mulC b f y n m * b ^ m
  | 0 => by simp [V, mulC]
  | m + 1 => by
    have ih := mul_val b f y n m
    have e := mulD_eq b f y n m
    simp only [V]
    have e2 : (mulD b f y n m + mulC b f y n (m + 1) * b) * b ^ m = (f m + y m * n + mulC b f y n m) * b ^ m := by rw [e]
    rw [Nat.add_mul, Nat.add_mul, Nat.add_mul] at e2
    have e3 : mulC b f y n (m + 1) * b * b ^ m = mulC b f y n (m + 1) * b ^ (m + 1) := by rw [Nat.pow_succ, Nat.mul_assoc, Nat.mul_comm b]
    have e4 : (V b y m + y m * b ^ m) * n = V b y m * n + y m * n * b ^ m := by rw [Nat.add_mul, Nat.mul_right_comm]
    rw [e4]
    generalize V b (mulD b f y n) m = d at *
    omega

theorem num_zeros (b lm : Nat) (l : List Nat) : num b (List.replicate lm 0 ++ l) = b ^ lm * num b l := by
  have h1 : ∀ j, j < lm → dg (List.replicate lm 0 ++ l) j = 0 := by
    intro j hj; unfold dg; rw [List.getElem?_append_left (by simpa using hj)]; simp [hj]
  have h2 : ∀ j, dg (List.replicate lm 0 ++ l) (lm + j) = dg l j := by
    intro j; unfold dg; rw [List.getElem?_append_right (by simp)]; simp
  unfold num
  have hll : (List.replicate lm 0 ++ l).length = lm + l.length := by simp
  rw [hll, V_split]
  have e1 : V b (dg (List.replicate lm 0 ++ l)) lm = 0 := by
    rw [V_congr (g := fun _ => 0) lm (fun i hi => h1 i hi)]
    have : ∀ n, V b (fun _ => 0) n = 0 := by
      intro n
      induction n with
      | zero => rfl
      | succ n ih => simp [V, ih]
    exact this lm
  rw [e1, Nat.zero_add]
  congr 1
  exact V_congr _ (fun i _ => h2 i)

/-- The digits of a number times 2^s, s below 16. -/
def shlD (s : Nat) (x : Nat → Nat) : Nat → Nat := mulD 65536 (fun _ => 0) x (2 ^ s)
def shlC (s : Nat) (x : Nat → Nat) : Nat → Nat := mulC 65536 (fun _ => 0) x (2 ^ s)

theorem pow_lt16 {s : Nat} (hs : s ≤ 15) : (2 : Nat) ^ s < 65536 := by
  have : (2 : Nat) ^ s ≤ 2 ^ 15 := Nat.pow_le_pow_right (by omega) hs
  have h : (2 : Nat) ^ 15 = 32768 := by decide
  omega

/-- The carry of a shift stays below 2^s. -/
theorem shlC_lt {s : Nat} {x : Nat → Nat} (hx : ∀ i, x i < 65536) : ∀ i, shlC s x i < 2 ^ s
  | 0 => Nat.two_pow_pos s
  | i + 1 => by
    have ih := shlC_lt (s := s) hx i
    unfold shlC at ih ⊢
    simp only [mulC, Nat.zero_add]
    rw [Nat.div_lt_iff_lt_mul (by omega)]
    have h1 : (x i + 1) * 2 ^ s ≤ 65536 * 2 ^ s := Nat.mul_le_mul_right _ (hx i)
    rw [Nat.add_mul, Nat.one_mul] at h1
    rw [Nat.mul_comm (2 ^ s)]
    omega

theorem shl_is {s m lm : Nat} {xs : List Nat} (ox : Ok 65536 xs) (hm : xs.length = m) (hs : s ≤ 15) :
    Ok 65536 (List.replicate lm 0 ++ mk (shlD s (dg xs)) m ++ [shlC s (dg xs) m]) ∧
    num 65536 (List.replicate lm 0 ++ mk (shlD s (dg xs)) m ++ [shlC s (dg xs) m]) = num 65536 xs * (65536 ^ lm * 2 ^ s) := by
  have hc := shlC_lt (s := s) (x := dg xs) ox m
  have hp := pow_lt16 hs
  have hl : (mk (shlD s (dg xs)) m ++ [shlC s (dg xs) m]).length = m + 1 := by simp [mk]
  have hd : ∀ j, j < m → dg (mk (shlD s (dg xs)) m ++ [shlC s (dg xs) m]) j = shlD s (dg xs) j := by
    intro j hj
    unfold dg
    rw [List.getElem?_append_left (by rw [mk_len]; exact hj)]
    exact dg_mk _ m j hj
  have hn : dg (mk (shlD s (dg xs)) m ++ [shlC s (dg xs) m]) m = shlC s (dg xs) m := by
    unfold dg
    rw [List.getElem?_append_right (by rw [mk_len]; exact Nat.le_refl _), mk_len]; simp
  rw [List.append_assoc]
  refine ⟨?_, ?_⟩
  · intro j
    by_cases h1 : j < lm
    · unfold dg; rw [List.getElem?_append_left (by simpa using h1)]; simp [h1]
    · obtain ⟨i, rfl⟩ : ∃ i, j = lm + i := ⟨j - lm, by omega⟩
      have : dg (List.replicate lm 0 ++ (mk (shlD s (dg xs)) m ++ [shlC s (dg xs) m])) (lm + i) = dg (mk (shlD s (dg xs)) m ++ [shlC s (dg xs) m]) i := by
        unfold dg; rw [List.getElem?_append_right (by simp)]; simp
      rw [this]
      rcases Nat.lt_trichotomy i m with h | h | h
      · rw [hd i h]; exact Nat.mod_lt _ (by omega)
      · rw [h, hn]; omega
      · rw [dg_out (by omega)]; omega
  · rw [num_zeros]
    have hv := mul_val 65536 (fun _ => 0) (dg xs) (2 ^ s) m
    have h0 : V 65536 (fun _ => 0) m = 0 := by
      have : ∀ n, V 65536 (fun _ => 0) n = 0 := by
        intro n
        induction n with
        | zero => rfl
        | succ n ih => simp [V, ih]
      exact this m
    rw [h0, Nat.zero_add, num_eq (by omega)] at hv
    have e : num 65536 (mk (shlD s (dg xs)) m ++ [shlC s (dg xs) m]) = num 65536 xs * 2 ^ s := by
      unfold num at hv ⊢
      rw [hl]
      simp only [V]
      rw [hn, V_congr m hd, hm] at *
      exact hv.symm
    rw [e, Nat.mul_left_comm]

end Go.Proofs.YtifpacgacbpalaaGreatDoor

namespace Go.Proofs.YtifpacgacbpalaaGreatDoor

theorem dig_at {b : Nat} {xs : List Nat} (hb : 0 < b) (ox : Ok b xs) (j : Nat) : num b xs / b ^ j % b = dg xs j := by
  by_cases hj : j < xs.length
  · obtain ⟨t, ht⟩ : ∃ t, xs.length = j + (1 + t) := ⟨xs.length - j - 1, by omega⟩
    have h1 := V_split b (dg xs) j (1 + t)
    have h2 := V_split b (fun i => dg xs (j + i)) 1 t
    have h3 : V b (dg xs) j < b ^ j := V_lt j (fun i _ => ox i)
    have hp : 0 < b ^ j := Nat.pow_pos hb
    unfold num
    rw [ht, h1, Nat.add_comm, Nat.mul_add_div hp, Nat.div_eq_of_lt h3, Nat.add_zero, h2]
    simp only [V, Nat.pow_zero, Nat.mul_one, Nat.zero_add, Nat.pow_one, Nat.add_zero]
    rw [Nat.add_mul_mod_self_left]
    exact Nat.mod_eq_of_lt (ox j)
  · have h1 := num_lt ox
    have h2 := Nat.pow_le_pow_right hb (show xs.length ≤ j by omega)
    rw [Nat.div_eq_of_lt (by omega), dg_out (by omega), Nat.zero_mod]

theorem pow16j (j : Nat) : (65536 : Nat) ^ j = 2 ^ (16 * j) := by rw [show (65536 : Nat) = 2 ^ 16 by decide +kernel, ← Nat.pow_mul]

theorem bit_at {xs : List Nat} (ox : Ok 65536 xs) {j s : Nat} (hs : s ≤ 15) : num 65536 xs / 2 ^ (16 * j + s) % 2 = dg xs j / 2 ^ s % 2 := by
  have h1 := dig_at (by omega) ox j
  rw [Nat.pow_add, ← pow16j, ← Nat.div_div_eq_div_mul]
  generalize num 65536 xs / 65536 ^ j = M at *
  have h2 := Nat.div_add_mod M 65536
  rw [h1] at h2
  generalize dg xs j = d at *
  generalize M / 65536 = h at *
  have h3 : (65536 : Nat) = 2 ^ s * (2 * 2 ^ (15 - s)) := by
    rw [show 2 * 2 ^ (15 - s) = 2 ^ (15 - s + 1) by rw [Nat.pow_succ]; omega, ← Nat.pow_add, show s + (15 - s + 1) = 16 by omega]
  rw [← h2, h3, Nat.mul_assoc, Nat.mul_add_div (Nat.two_pow_pos s), Nat.mul_assoc, Nat.mul_add_mod]

theorem low_zero {xs : List Nat} (ox : Ok 65536 xs) {j s t : Nat} (hs : s ≤ 15) (h : num 65536 xs = t * 2 ^ (16 * j + s + 1)) : dg xs j % 2 ^ (s + 1) = 0 := by
  rw [← dig_at (by omega) ox j, h]
  have e : t * 2 ^ (16 * j + s + 1) = 65536 ^ j * (t * 2 ^ (s + 1)) := by
    rw [pow16j, show 16 * j + s + 1 = 16 * j + (s + 1) by omega, Nat.pow_add, Nat.mul_left_comm]
  rw [e, Nat.mul_div_cancel_left _ (Nat.pow_pos (by omega))]
  have hd : 2 ^ (s + 1) ∣ (65536 : Nat) := by
    rw [show (65536 : Nat) = 2 ^ 16 by decide +kernel]
    exact Nat.pow_dvd_pow 2 (by omega)
  rw [Nat.mod_mod_of_dvd _ hd, Nat.mul_mod_left]

theorem set_bit {d s : Nat} (hd : d < 65536) (hs : s ≤ 15) (h : d % 2 ^ (s + 1) = 0) : d ||| 2 ^ s = d + 2 ^ s ∧ d + 2 ^ s < 65536 := by
  have h1 := Nat.div_add_mod d (2 ^ (s + 1))
  rw [h, Nat.add_zero] at h1
  have hlt : (2 : Nat) ^ s < 2 ^ (s + 1) := Nat.pow_lt_pow_right (by omega) (by omega)
  generalize d / 2 ^ (s + 1) = a at *
  have e : d ||| 2 ^ s = d + 2 ^ s := by
    rw [← h1, Nat.or_comm, Nat.mul_comm, or_low hlt, Nat.add_comm]
  refine ⟨e, ?_⟩
  have hp : (65536 : Nat) = 2 ^ (s + 1) * 2 ^ (15 - s) := by rw [← Nat.pow_add, show s + 1 + (15 - s) = 16 by omega]
  have ha : a < 2 ^ (15 - s) := by
    rw [hp, ← h1] at hd
    exact Nat.lt_of_mul_lt_mul_left hd
  have h2 : 2 ^ (s + 1) * (a + 1) ≤ 2 ^ (s + 1) * 2 ^ (15 - s) := Nat.mul_le_mul_left _ ha
  rw [Nat.mul_add, ← hp] at h2
  omega

theorem rdiv_next (A B k : Nat) (hB : 0 < B) : (B ≤ 2 * (A / 2 ^ (k + 1) % B) + A / 2 ^ k % 2 → A / 2 ^ k / B = 2 * (A / 2 ^ (k + 1) / B) + 1 ∧ A / 2 ^ k % B = 2 * (A / 2 ^ (k + 1) % B) + A / 2 ^ k % 2 - B) ∧
    (¬ B ≤ 2 * (A / 2 ^ (k + 1) % B) + A / 2 ^ k % 2 → A / 2 ^ k / B = 2 * (A / 2 ^ (k + 1) / B) ∧ A / 2 ^ k % B = 2 * (A / 2 ^ (k + 1) % B) + A / 2 ^ k % 2) := by
  have e1 : A / 2 ^ (k + 1) = A / 2 ^ k / 2 := by rw [Nat.pow_succ, Nat.div_div_eq_div_mul]
  rw [e1]
  generalize A / 2 ^ k = T at *
  have e2 := Nat.div_add_mod T 2
  have e3 := Nat.div_add_mod (T / 2) B
  have e4 := Nat.mod_lt (T / 2) hB
  have e5 := Nat.mod_lt T (show 0 < 2 by omega)
  generalize T % 2 = c at *
  generalize T / 2 = H at *
  generalize H % B = R at *
  generalize H / B = Q at *
  refine ⟨fun h => ?_, fun h => ?_⟩
  · refine (Nat.div_mod_unique hB).2 ⟨?_, by omega⟩
    rw [← e2, ← e3, Nat.mul_add B, Nat.mul_left_comm B 2]; omega
  · refine (Nat.div_mod_unique hB).2 ⟨?_, by omega⟩
    rw [← e2, ← e3, Nat.mul_left_comm B 2]; omega

end Go.Proofs.YtifpacgacbpalaaGreatDoor

namespace Go.Proofs.YtifpacgacbpalaaGreatDoor
open Go.RowKit

theorem and16u (a : Nat) (ha : a < 4294967296) : bits .and .u32 (a : Int) 65535 = ((a % 65536 : Nat) : Int) := by
  have h := u32_and_nat a 65535 ha (by omega)
  rw [Nat.and_two_pow_sub_one_eq_mod a 16] at h
  exact h

/-- The sum's digits, with the last carry behind them. -/
theorem radd_is {xs ys : List Nat} {n : Nat} (hx : Ok 65536 xs) (hy : Ok 65536 ys) (hnx : xs.length ≤ n) (hny : ys.length ≤ n) :
    Ok 65536 (mk (addD 65536 (dg xs) (dg ys)) n ++ [addC 65536 (dg xs) (dg ys) n]) ∧ num 65536 (mk (addD 65536 (dg xs) (dg ys)) n ++ [addC 65536 (dg xs) (dg ys) n]) = num 65536 xs + num 65536 ys := by
  have hl : (mk (addD 65536 (dg xs) (dg ys)) n ++ [addC 65536 (dg xs) (dg ys) n]).length = n + 1 := by simp [mk]
  have hd : ∀ j, j < n → dg (mk (addD 65536 (dg xs) (dg ys)) n ++ [addC 65536 (dg xs) (dg ys) n]) j = addD 65536 (dg xs) (dg ys) j := by
    intro j hj
    unfold dg
    rw [List.getElem?_append_left (by rw [mk_len]; exact hj)]
    exact dg_mk _ n j hj
  have hn : dg (mk (addD 65536 (dg xs) (dg ys)) n ++ [addC 65536 (dg xs) (dg ys) n]) n = addC 65536 (dg xs) (dg ys) n := by
    unfold dg
    rw [List.getElem?_append_right (by rw [mk_len]; exact Nat.le_refl _), mk_len]; simp
  refine ⟨?_, ?_⟩
  · intro j
    rcases Nat.lt_trichotomy j n with h | h | h
    · rw [hd j h]; exact addD_lt (by omega) _ _ _
    · rw [h, hn]; have := addC_le hx hy n; omega
    · rw [dg_out (by omega)]; omega
  · have h := add_val 65536 (dg xs) (dg ys) n
    rw [num_eq hnx, num_eq hny] at h
    rw [h]
    unfold num
    rw [hl]
    simp only [V]
    rw [hn, V_congr n hd]

set_option maxRecDepth 100000 in
set_option maxHeartbeats 1000000 in
theorem radd_any (ao bo : Option Addr) (la ca lb cb : Nat) (xs ys : List Nat) (w : World) (hla : la ≤ 100000000) (hlb : lb ≤ 100000000) (hx : xs.length = la) (hy : ys.length = lb)
    (hax : At .u32 w ao xs) (hay : At .u32 w bo ys) (ox : Ok 65536 xs) (oy : Ok 65536 ys) :
    Calls Tryz.prog 87 #[.slice ao la ca, .slice bo lb cb] w (RPost w (max la lb + 1) (num 65536 xs + num 65536 ys)) := by
  obtain ⟨i0, hi, hz0, hz1, hz2⟩ := info_parts Tryz.infoD
  obtain ⟨n, hn⟩ : ∃ n, n = max la lb := ⟨_, rfl⟩
  rw [← hn]
  obtain ⟨D, hD⟩ : ∃ D, D = addD 65536 (dg xs) (dg ys) := ⟨_, rfl⟩
  have HDF : Hid (D = addD 65536 (dg xs) (dg ys)) := hD
  have hnl : la ≤ n ∧ lb ≤ n ∧ n ≤ 100000000 := by omega
  have HN : Hid (n = max la lb) := hn
  clear hn hD
  go_enter Tryz.func87, Tryz.ntmps87
  go_wp2
  go_loopw [5, 6, 7] (fun v cv i wr => ∃ k c : Nat, k ≤ n ∧ cv = .int .u32 (c : Int) ∧ i = .int .i64 k ∧ c = addC 65536 (dg xs) (dg ys) k ∧ Grows w wr v (mk D k)) (fun _ _ i _ => n - (intOf i).toNat)
  case atStart => exact ⟨0, 0, Nat.zero_le _, rfl, rfl, rfl, (Below.refl _ _).alloc (Nat.le_refl _) _, World.ownsRow_lit _ #[] 0 (Nat.le_refl _) (by unfold maxLen; omega) rfl⟩
  case round =>
    obtain ⟨k, c, hk, rfl, rfl, hc, hgr⟩ := hrel
    have hcl : c ≤ 1 := by rw [hc]; exact addC_le ox oy k
    have HC : Hid (c = addC 65536 (dg xs) (dg ys) k) := hc
    clear hc
    by_cases hlt : k < n
    · have HG : Hid (Grows w wr u5 (mk D k)) := hgr
      obtain ⟨x, hxk⟩ : ∃ x, x = dg xs k := ⟨_, rfl⟩
      obtain ⟨y, hyk⟩ : ∃ y, y = dg ys k := ⟨_, rfl⟩
      have hxl : x < 65536 := by rw [hxk]; exact ox k
      have hyl : y < 65536 := by rw [hyk]; exact oy k
      have HX : Hid (x = dg xs k) := hxk
      have HY : Hid (y = dg ys k) := hyk
      obtain ⟨d, hdk⟩ : ∃ d, d = (x + y + c) % 65536 := ⟨_, rfl⟩
      obtain ⟨c', hck⟩ : ∃ c', c' = (x + y + c) / 65536 := ⟨_, rfl⟩
      have HD : Hid (d = (x + y + c) % 65536) := hdk
      have HC' : Hid (c' = (x + y + c) / 65536) := hck
      have HC1 : Hid (c' = addC 65536 (dg xs) (dg ys) (k + 1)) := by rw [hck, hxk, hyk, HC.out]; rfl
      have HDD : Hid (d = D k) := by rw [hdk, hxk, hyk, HC.out, HDF.out]; rfl
      have hdl := mk_len D k
      clear hxk hyk hdk hck
      have hor : k < la ∨ k < lb := by have := HN.out; omega
      by_cases ha : k < la
      · by_cases hb : k < lb
        · clear hor
          have t1 : (k : Int) < (la : Int) := by omega
          have t2 : (k : Int) < (lb : Int) := by omega
          obtain ⟨b1, o1, rfl, hc1⟩ : ∃ b1 o1, ao = some ⟨b1, o1, none⟩ ∧ wr.cell? ⟨b1, o1 + k, none⟩ = some (.int .u32 (x : Int)) := by
            rcases hax.below hgr.1 with h | ⟨b, o, h1, _, h3⟩
            · rw [h] at hx; simp at hx; omega
            · exact ⟨b, o, h1, by rw [HX.out]; exact h3 k (by omega)⟩
          obtain ⟨b2, o2, rfl, hc2⟩ : ∃ b2 o2, bo = some ⟨b2, o2, none⟩ ∧ wr.cell? ⟨b2, o2 + k, none⟩ = some (.int .u32 (y : Int)) := by
            rcases hay.below hgr.1 with h | ⟨b, o, h1, _, h3⟩
            · rw [h] at hy; simp at hy; omega
            · exact ⟨b, o, h1, by rw [HY.out]; exact h3 k (by omega)⟩
          have hd : bits .and .u32 ((c : Int) + (x : Int) + (y : Int)) 65535 = (d : Int) := by rw [show ((c : Int) + (x : Int) + (y : Int)) = ((x + y + c : Nat) : Int) by omega, and16u _ (by omega)]; exact congrArg _ HD.out.symm
          have hs : ((c : Int) + (x : Int) + (y : Int)) / 65536 = (c' : Int) := by have := HC'.out; omega
          have hown := hgr.2
          rw [hdl] at hown
          have hsz := hgr.1.size
          clear hgr hax hay
          go_wp2_with (at_builtin; refine wpList_append_own _ rfl _ _ 54 rfl w.heap.size 99 i0 (.int .u32 0) 1 4 Tryz.underlying54 hi hz0 hz1 hz2 rfl (by decide) _ _ _ rfl (hown.alloc _) ⟨wr.heap.size, 0, none⟩ 1 1 [.int .u32 (d : Int)] rfl rfl ?c1A ?c2A ?c3A ?c4A ?c5A ?_)
          try case c1A => exact new_cell wr _ _
          case c2A => first | exact one_one _ _ | rfl
          case c3A => unfold maxLen; omega
          case c4A => omega
          case c5A => first | (simp; omega) | omega
          intro v' w1 hown' hgrow _
          have hg' := HG.out.step _ (by rw [hdl]; exact hown') hgrow
          have HG' : Hid (Grows w w1 v' (mk D (k + 1))) := by show Grows _ _ _ _; rw [mk_succ, ← HDD.out]; exact hg'
          clear hown hown' hgrow hg' HG hd
          go_wp2
          go_roundw
          case rel => exact ⟨k + 1, c', by omega, rfl, by go_num, HC1.out, HG'.out⟩
          case measure => simp [intOf]; omega
        · clear hor
          have t1 : (k : Int) < (la : Int) := by omega
          have t2 : ¬ (k : Int) < (lb : Int) := by omega
          obtain ⟨b1, o1, rfl, hc1⟩ : ∃ b1 o1, ao = some ⟨b1, o1, none⟩ ∧ wr.cell? ⟨b1, o1 + k, none⟩ = some (.int .u32 (x : Int)) := by
            rcases hax.below hgr.1 with h | ⟨b, o, h1, _, h3⟩
            · rw [h] at hx; simp at hx; omega
            · exact ⟨b, o, h1, by rw [HX.out]; exact h3 k (by omega)⟩
          have ey : y = 0 := by rw [HY.out]; exact dg_out (by omega)
          have hd : bits .and .u32 ((c : Int) + (x : Int)) 65535 = (d : Int) := by rw [show ((c : Int) + (x : Int)) = ((x + y + c : Nat) : Int) by omega, and16u _ (by omega)]; exact congrArg _ HD.out.symm
          have hs : ((c : Int) + (x : Int)) / 65536 = (c' : Int) := by have := HC'.out; omega
          clear ey
          have hown := hgr.2
          rw [hdl] at hown
          have hsz := hgr.1.size
          clear hgr hax hay
          go_wp2_with (at_builtin; refine wpList_append_own _ rfl _ _ 54 rfl w.heap.size 99 i0 (.int .u32 0) 1 4 Tryz.underlying54 hi hz0 hz1 hz2 rfl (by decide) _ _ _ rfl (hown.alloc _) ⟨wr.heap.size, 0, none⟩ 1 1 [.int .u32 (d : Int)] rfl rfl ?c1B ?c2B ?c3B ?c4B ?c5B ?_)
          try case c1B => exact new_cell wr _ _
          case c2B => first | exact one_one _ _ | rfl
          case c3B => unfold maxLen; omega
          case c4B => omega
          case c5B => first | (simp; omega) | omega
          intro v' w1 hown' hgrow _
          have hg' := HG.out.step _ (by rw [hdl]; exact hown') hgrow
          have HG' : Hid (Grows w w1 v' (mk D (k + 1))) := by show Grows _ _ _ _; rw [mk_succ, ← HDD.out]; exact hg'
          clear hown hown' hgrow hg' HG hd
          go_wp2
          go_roundw
          case rel => exact ⟨k + 1, c', by omega, rfl, by go_num, HC1.out, HG'.out⟩
          case measure => simp [intOf]; omega
      · have hb : k < lb := by omega
        clear hor
        have t1 : ¬ (k : Int) < (la : Int) := by omega
        have t2 : (k : Int) < (lb : Int) := by omega
        obtain ⟨b2, o2, rfl, hc2⟩ : ∃ b2 o2, bo = some ⟨b2, o2, none⟩ ∧ wr.cell? ⟨b2, o2 + k, none⟩ = some (.int .u32 (y : Int)) := by
          rcases hay.below hgr.1 with h | ⟨b, o, h1, _, h3⟩
          · rw [h] at hy; simp at hy; omega
          · exact ⟨b, o, h1, by rw [HY.out]; exact h3 k (by omega)⟩
        have ex : x = 0 := by rw [HX.out]; exact dg_out (by omega)
        have hd : bits .and .u32 ((c : Int) + (y : Int)) 65535 = (d : Int) := by rw [show ((c : Int) + (y : Int)) = ((x + y + c : Nat) : Int) by omega, and16u _ (by omega)]; exact congrArg _ HD.out.symm
        have hs : ((c : Int) + (y : Int)) / 65536 = (c' : Int) := by have := HC'.out; omega
        clear ex
        have hown := hgr.2
        rw [hdl] at hown
        have hsz := hgr.1.size
        clear hgr hax hay
        go_wp2_with (at_builtin; refine wpList_append_own _ rfl _ _ 54 rfl w.heap.size 99 i0 (.int .u32 0) 1 4 Tryz.underlying54 hi hz0 hz1 hz2 rfl (by decide) _ _ _ rfl (hown.alloc _) ⟨wr.heap.size, 0, none⟩ 1 1 [.int .u32 (d : Int)] rfl rfl ?c1C ?c2C ?c3C ?c4C ?c5C ?_)
        try case c1C => exact new_cell wr _ _
        case c2C => first | exact one_one _ _ | rfl
        case c3C => unfold maxLen; omega
        case c4C => omega
        case c5C => first | (simp; omega) | omega
        intro v' w1 hown' hgrow _
        have hg' := HG.out.step _ (by rw [hdl]; exact hown') hgrow
        have HG' : Hid (Grows w w1 v' (mk D (k + 1))) := by show Grows _ _ _ _; rw [mk_succ, ← HDD.out]; exact hg'
        clear hown hown' hgrow hg' HG hd
        go_wp2
        go_roundw
        case rel => exact ⟨k + 1, c', by omega, rfl, by go_num, HC1.out, HG'.out⟩
        case measure => simp [intOf]; omega
    · obtain rfl : k = n := by omega
      have t1 : ¬ (k : Int) < (la : Int) := by omega
      have t2 : ¬ (k : Int) < (lb : Int) := by omega
      have hdl := mk_len D k
      have HG : Hid (Grows w wr u5 (mk D k)) := hgr
      have hown := hgr.2
      rw [hdl] at hown
      have hsz := hgr.1.size
      have his := radd_is (n := k) ox oy (by omega) (by omega)
      rw [← HDF.out, ← HC.out] at his
      have HI : Hid (Ok 65536 (mk D k ++ [c]) ∧ num 65536 (mk D k ++ [c]) = num 65536 xs + num 65536 ys) := his
      clear hgr his hax hay
      go_wp2_with (at_builtin; refine wpList_append_own _ rfl _ _ 54 rfl w.heap.size 99 i0 (.int .u32 0) 1 4 Tryz.underlying54 hi hz0 hz1 hz2 rfl (by decide) _ _ _ rfl (hown.alloc _) ⟨wr.heap.size, 0, none⟩ 1 1 [.int .u32 (c : Int)] rfl rfl ?c1D ?c2D ?c3D ?c4D ?c5D ?_)
      try case c1D => exact new_cell wr _ _
      case c2D => first | exact one_one _ _ | rfl
      case c3D => unfold maxLen; omega
      case c4D => omega
      case c5D => first | (simp; omega) | omega
      intro v' w1 hown' hgrow _
      have hg' := HG.out.step _ (by rw [hdl]; exact hown') hgrow
      obtain ⟨ao', cp, rfl, hcp, hat⟩ := hg'.at
      have hbel := hg'.1
      obtain ⟨z, hz⟩ : ∃ z, z = mk D k ++ [c] := ⟨_, rfl⟩
      rw [← hz] at hat hcp HI
      have hzl : z.length = k + 1 := by rw [hz]; simp [mk]
      obtain ⟨q, hq⟩ : ∃ q, q = (trimmed z).length := ⟨_, rfl⟩
      have HQ : Hid ((trimmed z).length = q) := hq.symm
      have HZ : Hid (z.length = k + 1) := hzl
      have hqle : q ≤ k + 1 := by rw [hq, ← hzl]; exact length_trimmed_le z
      rw [← hz, hzl]
      rw [hzl] at hcp
      clear hown hown' hgrow hg' HG hz hzl hq
      go_wp2_with fail
      refine (rtrim_to ao' (k + 1) cp q z _ hcp (by omega) HZ.out hat HQ.out).mono ?_
      rintro e w' ⟨rfl, rfl⟩
      go_wp2
      go_ret
      refine ⟨ao', cp, trimmed z, by rw [HQ.out]; rfl, by rw [HQ.out]; omega, hat.trimmed, ?_, by rw [HQ.out]; exact hqle, hbel⟩
      rw [← HI.out.2]; exact Is.trimmed HI.out.1

end Go.Proofs.YtifpacgacbpalaaGreatDoor

namespace Go.Proofs.YtifpacgacbpalaaGreatDoor
open Go.RowKit

theorem rsub_is {xs ys : List Nat} {n : Nat} (hx : Ok 65536 xs) (hy : Ok 65536 ys) (hnx : xs.length = n) (hny : ys.length ≤ n) (hle : num 65536 ys ≤ num 65536 xs) :
    Ok 65536 (mk (subD 65536 (dg xs) (dg ys)) n) ∧ num 65536 (mk (subD 65536 (dg xs) (dg ys)) n) = num 65536 xs - num 65536 ys := by
  refine ⟨?_, ?_⟩
  · intro j
    by_cases h : j < n
    · rw [dg_mk _ _ _ h]; exact Nat.mod_lt _ (by omega)
    · rw [dg_out (by rw [mk_len]; omega)]; omega
  · have h := sub_val hx hy n
    have h0 := (V_sub_lt hx hy n).2 (by rw [num_eq (xs := xs) (by omega), num_eq hny]; exact hle)
    rw [num_eq (xs := xs) (by omega), num_eq hny, h0] at h
    have e : num 65536 (mk (subD 65536 (dg xs) (dg ys)) n) = V 65536 (subD 65536 (dg xs) (dg ys)) n := by
      unfold num; rw [mk_len]; exact V_congr n (fun i hi => dg_mk _ n i hi)
    rw [e]; omega

/-- As RPost, and the answer is new memory. -/
def RNew (w : World) (m n : Nat) (e : Ending) (w' : World) : Prop :=
  ∃ ao cap ys, e = .returned (.slice ao ys.length cap) ∧ ys.length ≤ cap ∧ At .u32 w' ao ys ∧ Is 65536 ys n ∧ ys.length ≤ m ∧ Below w.heap.size w w' ∧ ∀ b o, ao = some ⟨b, o, none⟩ → w.heap.size ≤ b

theorem Grows.new {w wr : World} {v : Value} {ys : List Nat} (h : Grows w wr v ys) : ∀ b o l c, v = .slice (some ⟨b, o, none⟩) l c → w.heap.size ≤ b := by
  rcases h.2.2 with ⟨rfl, _⟩ | ⟨g, cap, cur, rfl, hgb, _⟩
  · intro b o l c h; cases h
  · intro b o l c h
    simp only [Value.slice.injEq, Option.some.injEq, Addr.mk.injEq] at h
    omega

set_option maxRecDepth 100000 in
set_option maxHeartbeats 1000000 in
theorem rsub_new (ao bo : Option Addr) (la ca lb cb : Nat) (xs ys : List Nat) (w : World) (hla : la ≤ 100000000) (hlb : lb ≤ la) (hx : xs.length = la) (hy : ys.length = lb)
    (hax : At .u32 w ao xs) (hay : At .u32 w bo ys) (ox : Ok 65536 xs) (oy : Ok 65536 ys) (hle : num 65536 ys ≤ num 65536 xs) :
    Calls Tryz.prog 99 #[.slice ao la ca, .slice bo lb cb] w (RNew w la (num 65536 xs - num 65536 ys)) := by
  obtain ⟨i0, hi, hz0, hz1, hz2⟩ := info_parts Tryz.infoD
  obtain ⟨D, hD⟩ : ∃ D, D = subD 65536 (dg xs) (dg ys) := ⟨_, rfl⟩
  have HDF : Hid (D = subD 65536 (dg xs) (dg ys)) := hD
  have HLE : Hid (num 65536 ys ≤ num 65536 xs) := hle
  clear hD hle
  go_enter Tryz.func99, Tryz.ntmps99
  go_wp2
  go_loopw [5, 6, 7] (fun v cv i wr => ∃ k c : Nat, k ≤ la ∧ cv = .int .u32 (c : Int) ∧ i = .int .i64 k ∧ c = subC 65536 (dg xs) (dg ys) k ∧ Grows w wr v (mk D k)) (fun _ _ i _ => la - (intOf i).toNat)
  case atStart => exact ⟨0, 0, Nat.zero_le _, rfl, rfl, rfl, (Below.refl _ _).alloc (Nat.le_refl _) _, World.ownsRow_lit _ #[] 0 (Nat.le_refl _) (by unfold maxLen; omega) rfl⟩
  case round =>
    obtain ⟨k, c, hk, rfl, rfl, hc, hgr⟩ := hrel
    have hcl : c ≤ 1 := by rw [hc]; exact subC_le k
    have HC : Hid (c = subC 65536 (dg xs) (dg ys) k) := hc
    clear hc
    by_cases hlt : k < la
    · have HG : Hid (Grows w wr u5 (mk D k)) := hgr
      obtain ⟨x, hxk⟩ : ∃ x, x = dg xs k := ⟨_, rfl⟩
      obtain ⟨y, hyk⟩ : ∃ y, y = dg ys k := ⟨_, rfl⟩
      have hxl : x < 65536 := by rw [hxk]; exact ox k
      have hyl : y < 65536 := by rw [hyk]; exact oy k
      have HX : Hid (x = dg xs k) := hxk
      have HY : Hid (y = dg ys k) := hyk
      obtain ⟨d, hdk⟩ : ∃ d, d = (x + 65536 - y - c) % 65536 := ⟨_, rfl⟩
      obtain ⟨c', hck⟩ : ∃ c', c' = if x < y + c then 1 else 0 := ⟨_, rfl⟩
      have HD : Hid (d = (x + 65536 - y - c) % 65536) := hdk
      have HC' : Hid (c' = if x < y + c then 1 else 0) := hck
      have HC1 : Hid (c' = subC 65536 (dg xs) (dg ys) (k + 1)) := by rw [hck, hxk, hyk, HC.out]; rfl
      have HDD : Hid (d = D k) := by rw [hdk, hxk, hyk, HC.out, HDF.out]; rfl
      have hdl := mk_len D k
      clear hxk hyk hdk hck
      by_cases hb : k < lb
      · have t1 : (k : Int) < (la : Int) := by omega
        have t2 : (k : Int) < (lb : Int) := by omega
        obtain ⟨b1, o1, rfl, hc1⟩ : ∃ b1 o1, ao = some ⟨b1, o1, none⟩ ∧ wr.cell? ⟨b1, o1 + k, none⟩ = some (.int .u32 (x : Int)) := by
          rcases hax.below hgr.1 with h | ⟨b, o, h1, _, h3⟩
          · rw [h] at hx; simp at hx; omega
          · exact ⟨b, o, h1, by rw [HX.out]; exact h3 k (by omega)⟩
        obtain ⟨b2, o2, rfl, hc2⟩ : ∃ b2 o2, bo = some ⟨b2, o2, none⟩ ∧ wr.cell? ⟨b2, o2 + k, none⟩ = some (.int .u32 (y : Int)) := by
          rcases hay.below hgr.1 with h | ⟨b, o, h1, _, h3⟩
          · rw [h] at hy; simp at hy; omega
          · exact ⟨b, o, h1, by rw [HY.out]; exact h3 k (by omega)⟩
        have hd : bits .and .u32 (65536 + (x : Int) - (c : Int) - (y : Int)) 65535 = (d : Int) := by rw [show (65536 + (x : Int) - (c : Int) - (y : Int)) = ((x + 65536 - y - c : Nat) : Int) by omega, and16u _ (by omega)]; exact congrArg _ HD.out.symm
        have hs : 1 - (65536 + (x : Int) - (c : Int) - (y : Int)) / 65536 = (c' : Int) := by have := HC'.out; split at this <;> omega
        have hown := hgr.2
        rw [hdl] at hown
        have hsz := hgr.1.size
        clear hgr hax hay
        go_wp2_with (at_builtin; refine wpList_append_own _ rfl _ _ 54 rfl w.heap.size 99 i0 (.int .u32 0) 1 4 Tryz.underlying54 hi hz0 hz1 hz2 rfl (by decide) _ _ _ rfl (hown.alloc _) ⟨wr.heap.size, 0, none⟩ 1 1 [.int .u32 (d : Int)] rfl rfl ?c1A ?c2A ?c3A ?c4A ?c5A ?_)
        try case c1A => exact new_cell wr _ _
        case c2A => first | exact one_one _ _ | rfl
        case c3A => unfold maxLen; omega
        case c4A => omega
        case c5A => first | (simp; omega) | omega
        intro v' w1 hown' hgrow _
        have hg' := HG.out.step _ (by rw [hdl]; exact hown') hgrow
        have HG' : Hid (Grows w w1 v' (mk D (k + 1))) := by show Grows _ _ _ _; rw [mk_succ, ← HDD.out]; exact hg'
        clear hown hown' hgrow hg' HG hd
        go_wp2
        go_roundw
        case rel => exact ⟨k + 1, c', by omega, rfl, by go_num, HC1.out, HG'.out⟩
        case measure => simp [intOf]; omega
      · have t1 : (k : Int) < (la : Int) := by omega
        have t2 : ¬ (k : Int) < (lb : Int) := by omega
        obtain ⟨b1, o1, rfl, hc1⟩ : ∃ b1 o1, ao = some ⟨b1, o1, none⟩ ∧ wr.cell? ⟨b1, o1 + k, none⟩ = some (.int .u32 (x : Int)) := by
          rcases hax.below hgr.1 with h | ⟨b, o, h1, _, h3⟩
          · rw [h] at hx; simp at hx; omega
          · exact ⟨b, o, h1, by rw [HX.out]; exact h3 k (by omega)⟩
        have ey : y = 0 := by rw [HY.out]; exact dg_out (by omega)
        have hd : bits .and .u32 (65536 + (x : Int) - (c : Int)) 65535 = (d : Int) := by rw [show (65536 + (x : Int) - (c : Int)) = ((x + 65536 - y - c : Nat) : Int) by omega, and16u _ (by omega)]; exact congrArg _ HD.out.symm
        have hs : 1 - (65536 + (x : Int) - (c : Int)) / 65536 = (c' : Int) := by have := HC'.out; split at this <;> omega
        clear ey
        have hown := hgr.2
        rw [hdl] at hown
        have hsz := hgr.1.size
        clear hgr hax hay
        go_wp2_with (at_builtin; refine wpList_append_own _ rfl _ _ 54 rfl w.heap.size 99 i0 (.int .u32 0) 1 4 Tryz.underlying54 hi hz0 hz1 hz2 rfl (by decide) _ _ _ rfl (hown.alloc _) ⟨wr.heap.size, 0, none⟩ 1 1 [.int .u32 (d : Int)] rfl rfl ?c1B ?c2B ?c3B ?c4B ?c5B ?_)
        try case c1B => exact new_cell wr _ _
        case c2B => first | exact one_one _ _ | rfl
        case c3B => unfold maxLen; omega
        case c4B => omega
        case c5B => first | (simp; omega) | omega
        intro v' w1 hown' hgrow _
        have hg' := HG.out.step _ (by rw [hdl]; exact hown') hgrow
        have HG' : Hid (Grows w w1 v' (mk D (k + 1))) := by show Grows _ _ _ _; rw [mk_succ, ← HDD.out]; exact hg'
        clear hown hown' hgrow hg' HG hd
        go_wp2
        go_roundw
        case rel => exact ⟨k + 1, c', by omega, rfl, by go_num, HC1.out, HG'.out⟩
        case measure => simp [intOf]; omega
    · obtain rfl : k = la := by omega
      have hnew := hgr.new
      obtain ⟨ao', cp, rfl, hcp, hat⟩ := hgr.at
      have HNW : Hid (∀ b o, ao' = some ⟨b, o, none⟩ → w.heap.size ≤ b) := fun b o h => hnew b o _ _ (by rw [h])
      clear hnew
      have hbel := hgr.1
      have his := rsub_is (n := k) ox oy hx (by omega) HLE.out
      rw [← HDF.out] at his
      obtain ⟨z, hz⟩ : ∃ z, z = mk D k := ⟨_, rfl⟩
      have hzl : z.length = k := by rw [hz]; exact mk_len D k
      rw [← hz] at hat hcp his
      have HI : Hid (Ok 65536 z ∧ num 65536 z = num 65536 xs - num 65536 ys) := his
      obtain ⟨q, hq⟩ : ∃ q, q = (trimmed z).length := ⟨_, rfl⟩
      have HQ : Hid ((trimmed z).length = q) := hq.symm
      have HZ : Hid (z.length = k) := hzl
      have hqle : q ≤ k := by rw [hq, ← hzl]; exact length_trimmed_le z
      rw [← hz, hzl]
      rw [hzl] at hcp
      clear hgr hz hzl hq his hax hay
      go_wp2_with fail
      refine (rtrim_to ao' k cp q z _ hcp (by omega) HZ.out hat HQ.out).mono ?_
      rintro e w' ⟨rfl, rfl⟩
      go_wp2
      go_ret
      refine ⟨ao', cp, trimmed z, by rw [HQ.out]; rfl, by rw [HQ.out]; omega, hat.trimmed, ?_, by rw [HQ.out]; exact hqle, hbel, HNW.out⟩
      rw [← HI.out.2]; exact Is.trimmed HI.out.1

theorem rsub_any (ao bo : Option Addr) (la ca lb cb : Nat) (xs ys : List Nat) (w : World) (hla : la ≤ 100000000) (hlb : lb ≤ la) (hx : xs.length = la) (hy : ys.length = lb)
    (hax : At .u32 w ao xs) (hay : At .u32 w bo ys) (ox : Ok 65536 xs) (oy : Ok 65536 ys) (hle : num 65536 ys ≤ num 65536 xs) :
    Calls Tryz.prog 99 #[.slice ao la ca, .slice bo lb cb] w (RPost w la (num 65536 xs - num 65536 ys)) := by
  refine (rsub_new ao bo la ca lb cb xs ys w hla hlb hx hy hax hay ox oy hle).mono ?_
  rintro e w' ⟨a, c, y, h1, h2, h3, h4, h5, h6, _⟩
  exact ⟨a, c, y, h1, h2, h3, h4, h5, h6⟩

end Go.Proofs.YtifpacgacbpalaaGreatDoor

namespace Go.Proofs.YtifpacgacbpalaaGreatDoor
open Go.RowKit

theorem cmpN_len {xs ys : List Nat} (ox : Ok 65536 xs) (ty : Top ys) (h : xs.length < ys.length) : cmpN (num 65536 xs) (num 65536 ys) = -1 := by
  unfold cmpN
  rw [if_pos]
  rcases Nat.lt_or_ge (num 65536 xs) (num 65536 ys) with e | e
  · exact e
  · have := len_le (by omega) ox ty e; omega

set_option maxRecDepth 100000 in
set_option maxHeartbeats 1000000 in
/-- Two lists without noughts on top, of unlike length. -/
theorem rcmp_len (ao bo : Option Addr) (la ca lb cb m p : Nat) (w : World) (z : Int) (hz : (m < p ∧ z = -1) ∨ (p < m ∧ z = 1)) (_hm : m ≤ 1000000000) (_hp : p ≤ 1000000000)
    (c1 : ∀ w' : World, w'.heap = w.heap → Calls Tryz.prog 83 #[.slice ao la ca] w' fun e w'' => e = .returned (.slice ao m ca) ∧ w' = w'')
    (c2 : ∀ w' : World, w'.heap = w.heap → Calls Tryz.prog 83 #[.slice bo lb cb] w' fun e w'' => e = .returned (.slice bo p cb) ∧ w' = w'') :
    Calls Tryz.prog 98 #[.slice ao la ca, .slice bo lb cb] w fun e w' => e = .returned (.int .i64 z) ∧ Below w.heap.size w w' := by
  have C1 : Hid (∀ w' : World, w'.heap = w.heap → Calls Tryz.prog 83 #[.slice ao la ca] w' fun e w'' => e = .returned (.slice ao m ca) ∧ w' = w'') := c1
  have C2 : Hid (∀ w' : World, w'.heap = w.heap → Calls Tryz.prog 83 #[.slice bo lb cb] w' fun e w'' => e = .returned (.slice bo p cb) ∧ w' = w'') := c2
  clear c1 c2
  have hne : ((m : Int) != (p : Int)) = true := by rw [bne_iff_ne]; rcases hz with h | h <;> omega
  rcases hz with ⟨h, rfl⟩ | ⟨h, rfl⟩
  · have h1 : (m : Int) < (p : Int) := by omega
    go_enter Tryz.func98, Tryz.ntmps98
    go_wp2_with fail
    refine (C1.out _ rfl).mono ?_
    rintro e w' ⟨rfl, rfl⟩
    go_wp2_with fail
    refine (C2.out _ rfl).mono ?_
    rintro e w' ⟨rfl, rfl⟩
    go_wp2
    go_ret
    exact ⟨rfl, Below.refl _ _⟩
  · have h1 : ¬ (m : Int) < (p : Int) := by omega
    go_enter Tryz.func98, Tryz.ntmps98
    go_wp2_with fail
    refine (C1.out _ rfl).mono ?_
    rintro e w' ⟨rfl, rfl⟩
    go_wp2_with fail
    refine (C2.out _ rfl).mono ?_
    rintro e w' ⟨rfl, rfl⟩
    go_wp2
    go_ret
    exact ⟨rfl, Below.refl _ _⟩

set_option maxRecDepth 100000 in
set_option maxHeartbeats 1000000 in
theorem rcmp_none (ao bo : Option Addr) (la ca lb cb : Nat) (w : World)
    (c1 : ∀ w' : World, w'.heap = w.heap → Calls Tryz.prog 83 #[.slice ao la ca] w' fun e w'' => e = .returned (.slice ao 0 ca) ∧ w' = w'')
    (c2 : ∀ w' : World, w'.heap = w.heap → Calls Tryz.prog 83 #[.slice bo lb cb] w' fun e w'' => e = .returned (.slice bo 0 cb) ∧ w' = w'') :
    Calls Tryz.prog 98 #[.slice ao la ca, .slice bo lb cb] w fun e w' => e = .returned (.int .i64 0) ∧ Below w.heap.size w w' := by
  have C1 : Hid (∀ w' : World, w'.heap = w.heap → Calls Tryz.prog 83 #[.slice ao la ca] w' fun e w'' => e = .returned (.slice ao 0 ca) ∧ w' = w'') := c1
  have C2 : Hid (∀ w' : World, w'.heap = w.heap → Calls Tryz.prog 83 #[.slice bo lb cb] w' fun e w'' => e = .returned (.slice bo 0 cb) ∧ w' = w'') := c2
  clear c1 c2
  go_enter Tryz.func98, Tryz.ntmps98
  go_wp2_with fail
  refine (C1.out _ rfl).mono ?_
  rintro e w' ⟨rfl, rfl⟩
  go_wp2_with fail
  refine (C2.out _ rfl).mono ?_
  rintro e w' ⟨rfl, rfl⟩
  go_wp2
  refine wp_loop_rounds 1 ?_
  rw [rounds_succ]
  go_wp2
  go_ret
  exact ⟨rfl, Below.refl _ _⟩

set_option maxRecDepth 100000 in
set_option maxHeartbeats 1000000 in
theorem rcmp_at (b1 o1 b2 o2 la ca lb cb m : Nat) (xs ys : List Nat) (w : World) (hm : m ≤ 1000000000) (hx : xs.length = m) (hy : ys.length = m)
    (h1 : ∀ i, i < m → w.cell? ⟨b1, o1 + i, none⟩ = some (.int .u32 ((dg xs i : Nat) : Int))) (h2 : ∀ i, i < m → w.cell? ⟨b2, o2 + i, none⟩ = some (.int .u32 ((dg ys i : Nat) : Int)))
    (c1 : ∀ w' : World, w'.heap = w.heap → Calls Tryz.prog 83 #[.slice (some ⟨b1, o1, none⟩) la ca] w' fun e w'' => e = .returned (.slice (some ⟨b1, o1, none⟩) m ca) ∧ w' = w'')
    (c2 : ∀ w' : World, w'.heap = w.heap → Calls Tryz.prog 83 #[.slice (some ⟨b2, o2, none⟩) lb cb] w' fun e w'' => e = .returned (.slice (some ⟨b2, o2, none⟩) m cb) ∧ w' = w'') :
    Calls Tryz.prog 98 #[.slice (some ⟨b1, o1, none⟩) la ca, .slice (some ⟨b2, o2, none⟩) lb cb] w fun e w' => e = .returned (.int .i64 (cmpTo xs ys m)) ∧ Below w.heap.size w w' := by
  have C1 : Hid (∀ w' : World, w'.heap = w.heap → Calls Tryz.prog 83 #[.slice (some ⟨b1, o1, none⟩) la ca] w' fun e w'' => e = .returned (.slice (some ⟨b1, o1, none⟩) m ca) ∧ w' = w'') := c1
  have C2 : Hid (∀ w' : World, w'.heap = w.heap → Calls Tryz.prog 83 #[.slice (some ⟨b2, o2, none⟩) lb cb] w' fun e w'' => e = .returned (.slice (some ⟨b2, o2, none⟩) m cb) ∧ w' = w'') := c2
  clear c1 c2
  obtain ⟨zz, hzz⟩ : ∃ z, z = cmpTo xs ys m := ⟨_, rfl⟩
  rw [← hzz]
  have HZ : Hid (zz = cmpTo xs ys m) := hzz
  have hne : ((m : Int) != (m : Int)) = false := by simp
  clear hzz
  go_enter Tryz.func98, Tryz.ntmps98
  go_wp2_with fail
  refine (C1.out _ rfl).mono ?_
  rintro e w' ⟨rfl, rfl⟩
  go_wp2_with fail
  refine (C2.out _ rfl).mono ?_
  rintro e w' ⟨rfl, rfl⟩
  go_wp2
  go_loopw [5] (fun i wr => ∃ k : Nat, k ≤ m ∧ i = .int .i64 ((k : Int) - 1) ∧ zz = cmpTo xs ys k ∧ Below w.heap.size w wr ∧ wr.heap = w.heap) (fun i _ => (intOf i + 1).toNat)
  case atStart => exact ⟨m, Nat.le_refl _, rfl, HZ.out, Below.refl _ _, rfl⟩
  case round =>
    obtain ⟨k, hk, rfl, hz, hbel, hheap⟩ := hrel
    have HK : Hid (zz = cmpTo xs ys k) := hz
    have HH : Hid (wr.heap = w.heap) := hheap
    clear hz hheap HZ
    rcases k with _ | k
    · go_wp2
      go_ret
      exact ⟨by rw [HK.out]; rfl, hbel⟩
    · have d1 : wr.cell? ⟨b1, o1 + k, none⟩ = some (.int .u32 ((dg xs k : Nat) : Int)) := by rw [World.cell?_of_block (w := w) (by rw [HH.out])]; exact h1 k (by omega)
      have d2 : wr.cell? ⟨b2, o2 + k, none⟩ = some (.int .u32 ((dg ys k : Nat) : Int)) := by rw [World.cell?_of_block (w := w) (by rw [HH.out])]; exact h2 k (by omega)
      have e0 : (k : Int) < (m : Int) := by omega
      obtain ⟨x, hxk⟩ : ∃ x, x = dg xs k := ⟨_, rfl⟩
      obtain ⟨y, hyk⟩ : ∃ y, y = dg ys k := ⟨_, rfl⟩
      have hstep : zz = if x < y then -1 else if y < x then 1 else cmpTo xs ys k := by rw [HK.out, hxk, hyk]; rfl
      rw [← hxk] at d1
      rw [← hyk] at d2
      have HS : Hid (zz = if x < y then -1 else if y < x then 1 else cmpTo xs ys k) := hstep
      clear hxk hyk hstep HK h1 h2 C1 C2
      rcases Nat.lt_trichotomy x y with h | h | h
      · have t1 : (x : Int) < (y : Int) := by omega
        go_wp2
        go_quiet (fail)
        go_wp2
        go_ret
        exact ⟨by rw [HS.out, if_pos h]; rfl, below_drewN hbel _⟩
      · have t1 : ¬ (x : Int) < (y : Int) := by omega
        have t2 : ¬ (y : Int) < (x : Int) := by omega
        have HE : Hid (zz = cmpTo xs ys k) := by rw [HS.out, if_neg (by omega), if_neg (by omega)]; rfl
        clear h
        go_wp2
        go_quiet (fail)
        go_wp2
        go_quiet (fail)
        go_wp2
        go_roundw
        case rel => exact ⟨k, by omega, by go_num, HE.out, below_drewN hbel _, HH.out⟩
        case measure => simp [intOf]
      · have t1 : ¬ (x : Int) < (y : Int) := by omega
        have t2 : (y : Int) < (x : Int) := by omega
        go_wp2
        go_quiet (fail)
        go_wp2
        go_quiet (fail)
        go_wp2
        go_ret
        exact ⟨by rw [HS.out, if_neg (by omega), if_pos h]; rfl, below_drewN (below_drewN hbel _) _⟩

theorem rcmp_any (ao bo : Option Addr) (la ca lb cb : Nat) (xs ys : List Nat) (w : World) (hla : la ≤ ca) (hlal : la ≤ 1000000000) (hlb : lb ≤ cb) (hlbl : lb ≤ 1000000000) (hx : xs.length = la) (hy : ys.length = lb)
    (hax : At .u32 w ao xs) (hay : At .u32 w bo ys) (ox : Ok 65536 xs) (oy : Ok 65536 ys) (z : Int) (hz : cmpN (num 65536 xs) (num 65536 ys) = z) :
    Calls Tryz.prog 98 #[.slice ao la ca, .slice bo lb cb] w fun e w' => e = .returned (.int .i64 z) ∧ Below w.heap.size w w' := by
  have l1 := length_trimmed_le xs
  have l2 := length_trimmed_le ys
  have c1 := fun (w' : World) (h : w'.heap = w.heap) => rtrim_to ao la ca (trimmed xs).length xs w' hla (by omega) hx (hax.same h) rfl
  have c2 := fun (w' : World) (h : w'.heap = w.heap) => rtrim_to bo lb cb (trimmed ys).length ys w' hlb (by omega) hy (hay.same h) rfl
  rw [← num_trimmed 65536 xs, ← num_trimmed 65536 ys] at hz
  rcases Nat.lt_trichotomy (trimmed xs).length (trimmed ys).length with h | h | h
  · exact rcmp_len ao bo la ca lb cb _ _ w z (.inl ⟨h, by rw [← hz]; exact cmpN_len (trimmed_ok ox) (trimmed_top ys) h⟩) (by omega) (by omega) c1 c2
  · rcases hax.trimmed with e1 | ⟨b1, o1, rfl, _, h1⟩
    · have e2 : trimmed ys = [] := List.length_eq_zero_iff.1 (by rw [← h, e1]; rfl)
      rw [e1] at c1
      rw [e2] at c2
      rw [e1, e2] at hz
      have := rcmp_none ao bo la ca lb cb w c1 c2
      rw [← hz]; exact this
    · rcases hay.trimmed with e2 | ⟨b2, o2, rfl, _, h2⟩
      · have e1 : trimmed xs = [] := List.length_eq_zero_iff.1 (by rw [h, e2]; rfl)
        rw [e1] at c1
        rw [e2] at c2
        rw [e1, e2] at hz
        have := rcmp_none _ bo la ca lb cb w c1 c2
        rw [← hz]; exact this
      · rw [← h] at c2
        have := rcmp_at b1 o1 b2 o2 la ca lb cb (trimmed xs).length (trimmed xs) (trimmed ys) w (by omega) rfl h.symm h1 (fun i hi => h2 i (by omega)) c1 c2
        rw [cmpTo_V (trimmed_ok ox) (trimmed_ok oy), num_eq (Nat.le_refl _), num_eq (by omega), hz] at this
        exact this
  · refine rcmp_len ao bo la ca lb cb _ _ w z (.inr ⟨h, ?_⟩) (by omega) (by omega) c1 c2
    have := cmpN_len (trimmed_ok oy) (trimmed_top xs) h
    rw [← hz]
    unfold cmpN at this ⊢
    split at this
    · rw [if_neg (by omega), if_pos (by assumption)]
    · split at this <;> simp at this

end Go.Proofs.YtifpacgacbpalaaGreatDoor
