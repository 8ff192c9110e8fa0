/-
  Plain mathematics: a number between two neighbouring floats is read as the nearer one, midway as the even one.
  Plain mathematics: what NearestBetween's numbers are.
  The walk of NearestBetween.
-/
import Derived.Test.YtlhekeifffofjaaGreatDoorZB16
import Derived.Test.YtlhekeifffofjaaGreatDoorZB19
import Derived.Test.YtlhekeifffofjaaGreatDoorZB9
import Derived.Test.YtlhekeifffofjaaGreatDoorZB17
import Derived.Test.YtlhekeifffofjaaGreatDoorZB4
namespace Go.Proofs.YtlhekeifffofjaaGreatDoor

/-- The float that a number at so many hundredths of the way from a to the next one is read as. -/
def wantN (a part : Nat) : Nat := if 50 < part ∨ (part = 50 ∧ a % 2 = 1) then a + 1 else a

theorem between_lies {a part p : Nat} (h : a + 1 < 9218868437227405312) (hpart : part ≤ 100) (hp : 100 * p = ((100 - part) * fAmt a + part * fAmt (a + 1)) * (4 * T0)) : Lies 52 (infN 52 11) (wantN a part) p (4 * T0) := by
  have hT : 0 < 4 * T0 := by have := T0_pos; omega
  generalize 4 * T0 = q at *
  have m1 := fAmt_lt (show a < a + 1 by omega)
  have m2 := fAmt_lt (show a + 1 < a + 1 + 1 by omega)
  have m0 : a ≠ 0 → fAmt (a - 1) < fAmt a := fun h0 => fAmt_lt (by omega)
  obtain ⟨D, hD⟩ : ∃ D, fAmt (a + 1) = fAmt a + D := ⟨fAmt (a + 1) - fAmt a, by omega⟩
  have hp2 : 100 * p = 100 * (fAmt a * q) + part * (D * q) := by
    rw [hp, hD, Nat.mul_add part, ← Nat.add_assoc, ← Nat.add_mul, show 100 - part + part = 100 by omega, Nat.add_mul, Nat.mul_assoc, Nat.mul_assoc]
  have hDq : 0 < D * q := Nat.mul_pos (by omega) hT
  have hI : infN 52 11 = 9218868437227405312 := inf64
  generalize hA : fAmt a = A at *
  have key : ∀ c : Nat, part ≤ c → part * (D * q) ≤ c * (D * q) := fun c hc => Nat.mul_le_mul_right _ hc
  have key2 : ∀ c : Nat, c ≤ part → c * (D * q) ≤ part * (D * q) := fun c hc => Nat.mul_le_mul_right _ hc
  unfold wantN
  split
  · next hc =>
    have k1 := key2 50 (by omega)
    have k2 := key 100 hpart
    refine ⟨by omega, fun _ => ?_, fun _ => ?_⟩
    · show (fAmt (a + 1 - 1) + fAmt (a + 1)) * q ≤ _ ∧ ((fAmt (a + 1 - 1) + fAmt (a + 1)) * q = _ → _)
      rw [Nat.add_sub_cancel, hA, hD, Nat.add_mul, Nat.add_mul]
      refine ⟨by omega, fun e => ?_⟩
      rcases hc with hc | hc
      · exfalso
        have k3 := key2 51 (by omega)
        omega
      · omega
    · show _ ≤ (fAmt (a + 1) + fAmt (a + 1 + 1)) * q ∧ (_ = (fAmt (a + 1) + fAmt (a + 1 + 1)) * q → _)
      have k3 := Nat.mul_lt_mul_of_pos_right m2 hT
      rw [hD, Nat.add_mul] at k3
      rw [Nat.add_mul, hD, Nat.add_mul]
      exact ⟨by omega, fun e => by omega⟩
  · next hc =>
    have k1 := key 50 (by omega)
    refine ⟨by omega, fun h0 => ?_, fun _ => ?_⟩
    · show (fAmt (a - 1) + fAmt a) * q ≤ _ ∧ ((fAmt (a - 1) + fAmt a) * q = _ → _)
      have k3 := Nat.mul_lt_mul_of_pos_right (m0 h0) hT
      rw [Nat.add_mul, hA]
      exact ⟨by omega, fun e => by omega⟩
    · show _ ≤ (fAmt a + fAmt (a + 1)) * q ∧ (_ = (fAmt a + fAmt (a + 1)) * q → _)
      rw [hA, hD, Nat.add_mul, Nat.add_mul]
      refine ⟨by omega, fun e => ?_⟩
      by_cases h50 : part = 50
      · omega
      · exfalso
        have k3 := key 49 (by omega)
        omega

/-- What is read of the Dec that lies so many hundredths of the way. -/
theorem between_to {a part z : Nat} {u : Int} (h : a + 1 < 9218868437227405312) (hpart : part ≤ 100) (hu : -1100 ≤ u) (h1 : u + 2 ≤ (ex64D a).exp) (h2 : u + 2 ≤ (ex64D (a + 1)).exp)
    (hz : z = numD (ex64D a) u + (numD (ex64D (a + 1)) u - numD (ex64D a) u) / 100 * part) : toD 52 11 1074 (decZ false z u) = wantN a part := by
  obtain ⟨t, ht⟩ : ∃ t, t = 10 ^ (u + 1100).toNat := ⟨_, rfl⟩
  have v1 := numD_val (d := ex64D a) (u := u) hu (by omega)
  have v2 := numD_val (d := ex64D (a + 1)) (u := u) hu (by omega)
  rw [val_ex (by omega), ← ht] at v1
  rw [val_ex h, ← ht] at v2
  have hund : ∀ d : DecT, u + 2 ≤ d.exp → 100 ∣ numD d u := by
    intro d hd
    refine ⟨decV d.dig * 10 ^ (d.exp - u - 2).toNat, ?_⟩
    unfold numD
    rw [show (d.exp - u).toNat = 2 + (d.exp - u - 2).toNat by omega, Nat.pow_add, Nat.mul_left_comm]
  obtain ⟨x, hx⟩ := hund _ h1
  obtain ⟨y, hy⟩ := hund _ h2
  rw [hx] at v1 hz
  rw [hy] at v2 hz
  have hlt := fAmt_lt (show a < a + 1 by omega)
  have ht0 : 0 < t := by rw [ht]; exact Nat.pow_pos (by omega)
  have hxy : x ≤ y := by
    have k := Nat.mul_le_mul_right T0 (show 4 * fAmt a ≤ 4 * fAmt (a + 1) by omega)
    rw [v1, v2, Nat.mul_assoc, Nat.mul_assoc] at k
    have k2 := Nat.le_of_mul_le_mul_left k (by omega : 0 < 100)
    exact Nat.le_of_mul_le_mul_right k2 ht0
  have hz2 : z = 100 * x + (y - x) * part := by
    rw [hz, ← Nat.mul_sub, Nat.mul_div_cancel_left _ (by omega)]
  have hp : 100 * (z * t) = ((100 - part) * fAmt a + part * fAmt (a + 1)) * (4 * T0) := by
    have c : ∀ k f : Nat, k * f * (4 * T0) = k * (4 * f * T0) := fun k f => by
      rw [Nat.mul_assoc, Nat.mul_comm 4 f, Nat.mul_assoc]
    rw [Nat.add_mul, c, c, v1, v2, hz2]
    obtain ⟨d, rfl⟩ : ∃ d, y = x + d := ⟨y - x, by omega⟩
    obtain ⟨r, hr⟩ : ∃ r, 100 = part + r := ⟨100 - part, by omega⟩
    rw [Nat.add_sub_cancel_left, show 100 - part = r by omega]
    have f1 : r * (100 * x * t) + part * (100 * (x + d) * t) = 100 * ((r + part) * (x * t) + part * (d * t)) := by
      simp only [Nat.mul_add, Nat.add_mul, Nat.mul_assoc, Nat.mul_left_comm]
      omega
    rw [f1, show r + part = 100 by omega, Nat.add_mul, Nat.mul_assoc 100 x t, Nat.mul_assoc d, Nat.mul_comm part t, Nat.mul_left_comm part, Nat.mul_comm part t]
  have hl := between_lies (p := z * t) h hpart hp
  by_cases hz0 : z = 0
  · subst hz0
    have e : decZ false 0 u = ⟨0, false, [], 0⟩ := if_pos rfl
    rw [e, show toD 52 11 1074 ⟨0, false, [], 0⟩ = 0 from rfl]
    -- the nearest of nought is nought
    rw [Nat.zero_mul] at hl
    rcases Nat.eq_zero_or_pos (wantN a part) with hw | hw
    · exact hw.symm
    · exfalso
      have l1 := (hl.lo (by omega)).1
      have m := fA_lt (F := 52) (show wantN a part - 1 < wantN a part by omega)
      have hT : 0 < 4 * T0 := by have := T0_pos; omega
      have := Nat.mul_pos (show 0 < fA 52 (wantN a part - 1) + fA 52 (wantN a part) by omega) hT
      omega
  · have e : decZ false z u = decA false z u := if_neg hz0
    rw [e, toD_decA false (by omega) (by rw [inf64]) t0_ten T0_pos hz0 hu (by rw [val_decA false hz0 hu, ← ht]; exact hl)]
    rfl

end Go.Proofs.YtlhekeifffofjaaGreatDoor

namespace Go.Proofs.YtlhekeifffofjaaGreatDoor

theorem ex_exp {a : Nat} (h : a < 9218868437227405312) : -1074 ≤ (ex64D a).exp := by
  by_cases h0 : a = 0
  · subst h0
    rw [show ex64D 0 = _ from zero_dec _]
    simp
  · rw [show ex64D a = _ from pos_dec h h0 _]
    have hb := fPow_bounds h
    have h1 : -1074 ≤ (allD 52 1074 (a / 2 ^ 52) (a % 2 ^ 52)).2 := by unfold allD p2E; simp only; split <;> omega
    have h2 := (decA_dig (neg := false) (e := (allD 52 1074 (a / 2 ^ 52) (a % 2 ^ 52)).2) (all_ne (B := 1074) (fNum_pos h0))).2.2.1
    omega

theorem ex_formed {a : Nat} (h : a < 9218868437227405312) : Formed (ex64D a) 767 := by
  obtain ⟨_, g2, _⟩ := pos_fields h
  by_cases h0 : a = 0
  · subst h0
    rw [show ex64D 0 = _ from zero_dec _]
    exact ⟨rfl, Nat.zero_le _, fun k hk => by simp at hk, fun _ => rfl, fun h => absurd rfl h⟩
  · have e1 : (2 : Nat) ^ 52 = 4503599627370496 := by decide
    have hm : a % 2 ^ 52 < 2 ^ 52 := Nat.mod_lt _ (by omega)
    have hb := fPow_bounds h
    rw [show ex64D a = _ from pos_dec h h0 _]
    exact (allD_formed _ (by omega) hm (by rw [e1]; omega) hb.1 hb.2).1

theorem fAmt_twice {a : Nat} (h : a ≠ 0) : fAmt (a + 1) ≤ 2 * fAmt a := by
  have h1 := fAmt_succ a
  have h2 : 2 ^ (a / 2 ^ 52 - 1) ≤ fAmt a := by
    show _ ≤ fNum 52 (a / 2 ^ 52) (a % 2 ^ 52) * 2 ^ (a / 2 ^ 52 - 1)
    exact Nat.le_mul_of_pos_left _ (Nat.pos_of_ne_zero (fNum_pos h))
  omega

theorem least_exp : (ex64D (0 + 1)).exp ≤ 0 := by
  have hv := val_ex (a := 0 + 1) (by omega)
  have h1 : fAmt (0 + 1) = 1 := by decide +kernel
  rw [h1, Nat.mul_one] at hv
  have hT := t0_ten
  have hT0 := T0_pos
  obtain ⟨E, hE⟩ : ∃ E, E = 1100 := ⟨_, rfl⟩
  obtain ⟨B, hB⟩ : ∃ B, B = 1074 := ⟨_, rfl⟩
  rw [← hE, ← hB] at hT
  unfold powT at hT
  have h4 : 4 * T0 ≤ 10 ^ E := by rw [← hT]; exact Nat.le_mul_of_pos_left _ (Nat.pow_pos (by omega))
  rcases Int.lt_or_le 0 (ex64D (0 + 1)).exp with h | h
  · exfalso
    have hx : valD (ex64D (0 + 1)) = decV (ex64D (0 + 1)).dig * 10 ^ ((ex64D (0 + 1)).exp + 1100).toNat := rfl
    obtain ⟨k, hk⟩ : ∃ k, ((ex64D (0 + 1)).exp + 1100).toNat = E + 1 + k := ⟨((ex64D (0 + 1)).exp + 1100).toNat - E - 1, by omega⟩
    rw [hk] at hx
    have hd : 1 ≤ decV (ex64D (0 + 1)).dig := by
      rcases Nat.eq_zero_or_pos (decV (ex64D (0 + 1)).dig) with e | e
      · rw [e, Nat.zero_mul] at hx; omega
      · exact e
    have h5 : 1 * 10 ^ (E + 1 + k) ≤ decV (ex64D (0 + 1)).dig * 10 ^ (E + 1 + k) := Nat.mul_le_mul_right _ hd
    have h6 : 10 ^ (E + 1) ≤ 10 ^ (E + 1 + k) := Nat.pow_le_pow_right (by omega) (by omega)
    have h7 : 0 < 10 ^ E := Nat.pow_pos (by omega)
    rw [Nat.pow_succ] at h6
    omega
  · exact h

/-- The numbers that NearestBetween reckons with. -/
theorem between_data {a : Nat} (h : a + 1 < 9218868437227405312) {u : Int} (hu : u = min (ex64D a).exp (ex64D (a + 1)).exp - 2) :
    -1076 ≤ u ∧ u ≤ 400 ∧ (ex64D a).exp - u ≤ 1900 ∧ (ex64D (a + 1)).exp - u ≤ 1900 ∧ numD (ex64D a) u < numD (ex64D (a + 1)) u ∧ ∃ j, j ≤ 771 ∧ numD (ex64D (a + 1)) u < 10 ^ j := by
  have x0 := ex_exp (a := a) (by omega)
  have x1 := ex_exp h
  have f0 := ex_formed (a := a) (by omega)
  have f1 := ex_formed h
  have p0 : (ex64D a).exp ≤ 400 := by
    by_cases e : (ex64D a).dig = []
    · rw [f0.nil e]; omega
    · exact (f0.cons e).2.2.2
  have p1 : (ex64D (a + 1)).exp ≤ 400 := by
    by_cases e : (ex64D (a + 1)).dig = []
    · rw [f1.nil e]; omega
    · exact (f1.cons e).2.2.2
  have hu1 : -1100 ≤ u := by omega
  have v0 := numD_val (d := ex64D a) (u := u) hu1 (by omega)
  have v1 := numD_val (d := ex64D (a + 1)) (u := u) hu1 (by omega)
  obtain ⟨t, ht⟩ : ∃ t, t = 10 ^ (u + 1100).toNat := ⟨_, rfl⟩
  have ht0 : 0 < t := by rw [ht]; exact Nat.pow_pos (by omega)
  rw [← ht] at v0 v1
  have hlt : numD (ex64D a) u < numD (ex64D (a + 1)) u := by
    have := ex_lt (a := a) (b := a + 1) (by omega) h
    rw [v0, v1] at this
    exact Nat.lt_of_mul_lt_mul_right this
  obtain ⟨K, hK⟩ : ∃ K, K = 767 := ⟨_, rfl⟩
  rw [← hK] at f0 f1
  have short : ∀ d : DecT, Formed d K → d.exp - u = 2 → numD d u < 10 ^ K * 100 := by
    intro d f hd
    have hl := decV_lt _ d.dig rfl f.dig
    unfold numD
    rw [hd, show (2 : Int).toNat = 2 from rfl, show (10 : Nat) ^ 2 = 100 from rfl]
    exact Nat.mul_lt_mul_of_pos_right (Nat.lt_of_lt_of_le hl (Nat.pow_le_pow_right (by omega) f.len)) (by decide)
  refine ⟨by omega, by omega, by omega, by omega, hlt, K + 3, by omega, ?_⟩
  rw [Nat.pow_add, show (10 : Nat) ^ 3 = 1000 from rfl]
  by_cases hc : (ex64D (a + 1)).exp ≤ (ex64D a).exp
  · have := short _ f1 (by omega)
    omega
  · have h0 : a ≠ 0 := by
      intro h0
      subst h0
      have : (ex64D 0).exp = 0 := by rw [show ex64D 0 = _ from zero_dec _]
      have h2 : (ex64D (0 + 1)).exp ≤ 0 := least_exp
      omega
    have hs := short _ f0 (by omega)
    have h2 := fAmt_twice h0
    have h3 : numD (ex64D (a + 1)) u ≤ 2 * numD (ex64D a) u := by
      apply Nat.le_of_mul_le_mul_right (c := t) _ ht0
      rw [Nat.mul_assoc, ← v0, ← v1, val_ex (a := a) (by omega), val_ex h]
      have := Nat.mul_le_mul_right (4 * T0) h2
      have e : ∀ x, 4 * x * T0 = x * (4 * T0) := fun x => by rw [Nat.mul_comm 4 x, Nat.mul_assoc]
      rw [e, e, ← Nat.mul_assoc 2]
      exact this
    omega

end Go.Proofs.YtlhekeifffofjaaGreatDoor

namespace Go.Proofs.YtlhekeifffofjaaGreatDoor
open Go.RowKit

theorem nr_sub (a b : Value) (x y : Nat) (w : World) (ha : Nr w a x) (hb : Nr w b y) (hx : Sm x) (hle : y ≤ x) : Calls Tryz.prog 31 #[a, b] w (NrPost w (x - y)) := by
  obtain ⟨o, c, xs, rfl, h1, h3, h4⟩ := ha
  obtain ⟨o', c', ys, rfl, h1', h3', h4'⟩ := hb
  have l1 := nr_len h4 hx
  have hl : ys.length ≤ xs.length := len_le (b := 65536) (by omega) h4.1 h4'.2.1 (by rw [h4.2.2, h4'.2.2]; exact hle)
  have h := rsub_any o o' _ c _ c' xs ys w (by omega) hl rfl rfl h3 h3' h4.1 h4'.1 (by rw [h4.2.2, h4'.2.2]; exact hle)
  rw [h4.2.2, h4'.2.2] at h
  exact h.mono fun e w' hh => NrPost.of hh

theorem and_low (n : Nat) (h : n < 65536) : bits .and .u32 (n : Int) 65535 = (n : Int) := by
  have h1 := u32_and_nat n 65535 (by omega) (by omega)
  rw [show (65535 : Nat) = 2 ^ 16 - 1 by decide, Nat.and_two_pow_sub_one_eq_mod, Nat.mod_eq_of_lt (by rw [show (2 : Nat) ^ 16 = 65536 by decide]; exact h)] at h1
  exact h1

set_option maxHeartbeats 1000000 in
theorem nr_small (n : Nat) (z : Int) (w : World) (hz : z = (n : Int)) (hn : n ≤ 1000) : Calls Tryz.prog 32 #[.int .i64 z] w (NrPost w n) := by
  subst hz
  have AN := and_low n (by omega)
  have SHR : (n : Int) / 65536 = 0 := by omega
  have hat : Hid (At .u32 (w.alloc (.cells #[.int .u32 (n : Int), .int .u32 0] 34)) (some ⟨w.heap.size, 0, none⟩) [n, 0]) := Row.at (k := .u32) (e := 34) (xs := [n, 0]) (heap_alloc_new w _)
  have hok : Hid (Ok 65536 [n, 0]) := by
    intro i
    rcases i with _ | i
    · simp [dg]; omega
    · rcases i with _ | i
      · simp [dg]
      · simp [dg]
  have hnum : Hid (num 65536 [n, 0] = n) := by show num 65536 [n, 0] = n; simp [num, V, dg]
  have AL : Hid (Below w.heap.size w (w.alloc (.cells #[.int .u32 (n : Int), .int .u32 0] 34))) := (Below.refl _ _).alloc (Nat.le_refl _) _
  go_enter Tryz.func32, Tryz.ntmps32
  go_wp2_with fail
  refine (rtrim_any _ 2 2 [n, 0] _ (by omega) (by omega) rfl hat.out).mono ?_
  rintro e w1 ⟨rfl, rfl⟩
  have FIN : Hid (NrPost w n (.returned (.slice (some ⟨w.heap.size, 0, none⟩) (tops [n, 0] 2) 2)) (w.alloc (.cells #[.int .u32 (n : Int), .int .u32 0] 34))) := by
    refine ⟨_, _, _, rfl, ⟨_, _, trimmed [n, 0], by rw [length_trimmed]; rfl, ?_, hat.out.trimmed, ?_⟩, AL.out⟩
    · rw [length_trimmed]; exact tops_le _ _
    · have := Is.trimmed hok.out
      rw [hnum.out] at this
      exact this
  go_wp2
  go_ret
  exact FIN.out

set_option maxHeartbeats 1000000 in
theorem between_idle (w : World) (htab : Tab w) (a : Nat) (at1 : Int) (h : 9218868437227405311 ≤ (a : Int)) :
    Calls Tryz.prog 9 #[.int .u64 (a : Int), .int .i64 at1] w fun e w' => e = .returned (.bool true) ∧ Below w.heap.size w w' := by
  have AW := hide (nawake_any w htab)
  clear htab
  go_enter Tryz.func9, Tryz.ntmps9
  go_wp2_with fail
  refine AW.out.mono ?_
  rintro e w1 ⟨rfl, hb1⟩
  have HB1 := hide hb1
  clear hb1 AW
  go_wp2
  go_ret
  exact ⟨rfl, HB1.out⟩

set_option maxRecDepth 100000 in
set_option maxHeartbeats 4000000 in
theorem between_busy (w : World) (htab : Tab w) (a : Nat) (at1 : Int) (h : a + 1 < 9218868437227405312) (r : Int) (hr : at1.tmod 101 = r) (pt : Nat) (hpt : pt ≤ 100) (hrp : (r < 0 ∧ (pt : Int) = r + 101) ∨ (¬ r < 0 ∧ (pt : Int) = r)) :
    Calls Tryz.prog 9 #[.int .u64 (a : Int), .int .i64 at1] w fun e w' => e = .returned (.bool true) ∧ Below w.heap.size w w' := by
  have AW := hide (nawake_any w htab)
  have HT := hide htab
  have C0 := hide (fun W ht => exact64_any a W (by omega) ht)
  have C1 : Hid (∀ W, Tab W → Calls Tryz.prog 22 #[.int .u64 ((a : Int) + 1)] W fun e w' => e = .returned (decVal (ex64D (a + 1))) ∧ Below W.heap.size W w') := fun W ht => by
    rw [show (a : Int) + 1 = ((a + 1 : Nat) : Int) by omega]
    exact exact64_any (a + 1) W (by omega) ht
  obtain ⟨u, hu⟩ : ∃ u, u = min (ex64D a).exp (ex64D (a + 1)).exp - 2 := ⟨_, rfl⟩
  obtain ⟨u1, u2, k0b, k1b, hlt, j, hj, hYj⟩ := between_data h hu
  have f0 := ex_formed (a := a) (by omega)
  have f1 := ex_formed h
  have P0 := Plain.of f0 (by omega)
  have P1 := Plain.of f1 (by omega)
  obtain ⟨X, hX⟩ : ∃ X, X = numD (ex64D a) u := ⟨_, rfl⟩
  obtain ⟨Y, hY⟩ : ∃ Y, Y = numD (ex64D (a + 1)) u := ⟨_, rfl⟩
  have S0 := numD_small P0 (u := u) (by omega)
  have S1 := numD_small P1 (u := u) (by omega)
  rw [← hX] at hlt S0
  rw [← hY] at hlt S1 hYj
  obtain ⟨Z, hZ⟩ : ∃ Z, Z = X + (Y - X) / 100 * pt := ⟨_, rfl⟩
  have hZY : Z ≤ Y := by
    have h1 : (Y - X) / 100 * pt ≤ (Y - X) / 100 * 100 := Nat.mul_le_mul_left _ hpt
    have h2 := Nat.div_mul_le_self (Y - X) 100
    omega
  have hto : toD 52 11 1074 (decZ false Z u) = wantN a pt := between_to h hpt (by omega) (by omega) (by omega) (by rw [hZ, hX, hY])
  have hmay : May (decZ false Z u) := by
    by_cases hz0 : Z = 0
    · have e : decZ false Z u = ⟨0, false, [], 0⟩ := if_pos hz0
      rw [e]; exact .inl ⟨rfl, .inl ⟨rfl, rfl⟩⟩
    · have e : decZ false Z u = decA false Z u := if_neg hz0
      rw [e]; exact may_decA false (j := j) hz0 (by omega) (by omega) (by omega) (by omega)
  have T := hide (fun W => to64_dec (decZ false Z u) W hmay)
  rw [hto] at T
  obtain ⟨dz, hdz⟩ : ∃ d, d = decZ false Z u := ⟨_, rfl⟩
  have sY := S1.2.2
  have le : ∀ {n : Nat}, n ≤ Y → Sm n := fun hn => Nat.lt_of_le_of_lt hn sY
  have gY : (Y - X) / 100 ≤ Y := Nat.le_trans (Nat.div_le_self _ _) (Nat.sub_le _ _)
  have h1000 : (10 : Nat) ^ 3 = 1000 := by decide
  have spt : Sm pt := Sm.of (k := 3) (by omega) (by omega)
  have SS : Hid (Sm X ∧ Sm Y ∧ Sm (Y - X) ∧ Sm 100 ∧ Sm ((Y - X) / 100) ∧ Sm pt ∧ Sm ((Y - X) / 100 * pt) ∧ Sm Z) := ⟨S0.2.2, sY, le (by omega), Sm.of (k := 3) (by decide) (by omega), le gY, spt, le (by omega), le hZY⟩
  have RD : Hid (∀ (W' : World) (o : Option Addr) (l c : Nat), Nr W' (.slice o l c) Z → Calls Tryz.prog 34 #[.bool false, .slice o l c, .int .i64 u] W' fun e w' => e = .returned (decVal dz) ∧ Below W'.heap.size W' w') := fun W' o l c hN => by
    rw [hdz]
    exact rdec_any false o l c Z u W' hN (size_bound (j := j + 1) (by rw [Nat.pow_succ]; omega) (by omega) (by omega)) SS.out.2.2.2.2.2.2.2 (by omega) (by omega)
  rw [← hdz] at T
  have FZ : Hid (decVal dz = .agg #[.int .i64 (dz.cls : Int), .bool dz.neg, .string ⟨dz.dig.toArray⟩, .int .i64 dz.exp]) := rfl
  rw [FZ.out] at T RD
  obtain ⟨wv, hwv⟩ : ∃ x, x = wantN a pt := ⟨_, rfl⟩
  rw [← hwv] at T
  have HWV := hide hwv
  obtain ⟨e0, he0⟩ : ∃ e, e = (ex64D a).exp := ⟨_, rfl⟩
  obtain ⟨n0, hn0⟩ : ∃ n, n = (ex64D a).neg := ⟨_, rfl⟩
  obtain ⟨t0, ht0⟩ : ∃ t : ByteArray, t = ⟨(ex64D a).dig.toArray⟩ := ⟨_, rfl⟩
  have hbt0 : bys t0 = (ex64D a).dig := by rw [ht0]; simp [bys]
  obtain ⟨V0, hV0⟩ : ∃ V, V = decV (ex64D a).dig := ⟨_, rfl⟩
  obtain ⟨k0, hk0⟩ : ∃ k : Nat, (ex64D a).exp - u = (k : Int) := ⟨((ex64D a).exp - u).toNat, by omega⟩
  have N0e : Hid (V0 * 10 ^ k0 = X) := by show V0 * 10 ^ k0 = X; rw [hV0, hX]; unfold numD; rw [show ((ex64D a).exp - u).toNat = k0 by omega]
  have OF0 : Hid (∀ W', Calls Tryz.prog 28 #[.string t0] W' (NrPost W' V0)) := fun W' => by
    have g := rof_any t0 W' (by rw [← bys_len, hbt0]; have := P0.len; omega) (by rw [hbt0]; exact P0.dig)
    rw [hbt0, ← hV0] at g
    exact g.mono fun e w' hh => NrPost.of hh
  have SV0 : Hid (Sm V0 ∧ Sm (10 ^ k0)) := by
    refine ⟨by rw [hV0]; exact S0.1, ?_⟩
    have := S0.2.1
    rwa [show ((ex64D a).exp - u).toNat = k0 by omega] at this
  have F0 : decVal (ex64D a) = .agg #[.int .i64 0, .bool n0, .string t0, .int .i64 e0] := by unfold decVal; rw [f0.cls, hn0, ht0, he0]; rfl
  rw [F0] at C0
  rw [← he0] at hu k0b hk0
  have HK0 := hide hk0
  obtain ⟨e1, he1⟩ : ∃ e, e = (ex64D (a + 1)).exp := ⟨_, rfl⟩
  obtain ⟨n1, hn1⟩ : ∃ n, n = (ex64D (a + 1)).neg := ⟨_, rfl⟩
  obtain ⟨t1, ht1⟩ : ∃ t : ByteArray, t = ⟨(ex64D (a + 1)).dig.toArray⟩ := ⟨_, rfl⟩
  have hbt1 : bys t1 = (ex64D (a + 1)).dig := by rw [ht1]; simp [bys]
  obtain ⟨V1, hV1⟩ : ∃ V, V = decV (ex64D (a + 1)).dig := ⟨_, rfl⟩
  obtain ⟨k1, hk1⟩ : ∃ k : Nat, (ex64D (a + 1)).exp - u = (k : Int) := ⟨((ex64D (a + 1)).exp - u).toNat, by omega⟩
  have N1e : Hid (V1 * 10 ^ k1 = Y) := by show V1 * 10 ^ k1 = Y; rw [hV1, hY]; unfold numD; rw [show ((ex64D (a + 1)).exp - u).toNat = k1 by omega]
  have OF1 : Hid (∀ W', Calls Tryz.prog 28 #[.string t1] W' (NrPost W' V1)) := fun W' => by
    have g := rof_any t1 W' (by rw [← bys_len, hbt1]; have := P1.len; omega) (by rw [hbt1]; exact P1.dig)
    rw [hbt1, ← hV1] at g
    exact g.mono fun e w' hh => NrPost.of hh
  have SV1 : Hid (Sm V1 ∧ Sm (10 ^ k1)) := by
    refine ⟨by rw [hV1]; exact S1.1, ?_⟩
    have := S1.2.1
    rwa [show ((ex64D (a + 1)).exp - u).toNat = k1 by omega] at this
  have F1 : decVal (ex64D (a + 1)) = .agg #[.int .i64 0, .bool n1, .string t1, .int .i64 e1] := by unfold decVal; rw [f1.cls, hn1, ht1, he1]; rfl
  rw [F1] at C1
  rw [← he1] at hu k1b hk1
  have HK1 := hide hk1
  have HU := hide hu
  have HZE := hide hZ
  have hlt2 : decide ((9218868437227405311 : Int) ≤ (a : Int)) = false := decide_eq_false (by omega)
  have hab : a < 9223372036854775808 := by omega
  clear h
  have LT := hide hlt
  have HRP := hide hrp
  have hkb0 : k0 ≤ 1900 := by omega
  have hkb1 : k1 ≤ 1900 := by omega
  have e0b : -1074 ≤ e0 ∧ e0 ≤ 3000 := by omega
  have e1b : -1074 ≤ e1 ∧ e1 ≤ 3000 := by omega
  clear htab hto hmay hdz le gY f0 f1 P0 P1 S0 S1 hX hY hYj hZY sY hwv hlt hrp hu hZ F0 he0 hn0 ht0 hbt0 hV0 hk0 F1 he1 hn1 ht1 hbt1 hV1 hk1
  go_enter Tryz.func9, Tryz.ntmps9
  go_wp2_with fail
  refine AW.out.mono ?_
  rintro e w1 ⟨rfl, hb1⟩
  have HB1 := hide hb1
  clear hb1 AW
  go_wp2_with fail
  refine (C0.out _ (HT.out.below HB1.out)).mono ?_
  rintro e w2 ⟨rfl, hb2⟩
  have HB2 := hide (HB1.out.trans (hb2.mono HB1.out.size))
  clear hb2 HB1 C0
  go_wp2_with fail
  refine (C1.out _ (HT.out.below HB2.out)).mono ?_
  rintro e w3 ⟨rfl, hb3⟩
  have HB3 := hide (HB2.out.trans (hb3.mono HB2.out.size))
  clear hb3 HB2 C1
  have K0 := (Blk.new w3 #[.int .i64 0, .bool n0, .string t0, .int .i64 e0] 23).alloc (.cells #[.int .i64 0, .bool n1, .string t1, .int .i64 e1] 23)
  have K1 := Blk.newAt (w3.alloc (.cells #[.int .i64 0, .bool n0, .string t0, .int .i64 e0] 23)) (w3.heap.size + 1) (by simp) #[.int .i64 0, .bool n1, .string t1, .int .i64 e1] 23
  obtain ⟨W, hW⟩ : ∃ W, W = (w3.alloc (.cells #[.int .i64 0, .bool n0, .string t0, .int .i64 e0] 23)).alloc (.cells #[.int .i64 0, .bool n1, .string t1, .int .i64 e1] 23) := ⟨_, rfl⟩
  rw [← hW] at K0 K1
  have HBW : Hid (Below w.heap.size w W) := by
    rw [hW]
    exact HB3.out.trans (((Below.refl _ _).alloc (Nat.le_refl _) _).alloc (by simp) _ |>.mono HB3.out.size)
  obtain ⟨H0, eH0⟩ : ∃ H, H = w3.heap.size := ⟨_, rfl⟩
  obtain ⟨H1, eH1⟩ : ∃ H, H = w3.heap.size + 1 := ⟨_, rfl⟩
  rw [← eH0] at K0
  rw [← eH1] at K1
  have CELLS : Hid (∀ w', Below W.heap.size W w' → w'.cell? ⟨H0, 2, none⟩ = some (.string t0) ∧ w'.cell? ⟨H0, 3, none⟩ = some (.int .i64 e0) ∧ w'.cell? ⟨H1, 2, none⟩ = some (.string t1) ∧ w'.cell? ⟨H1, 3, none⟩ = some (.int .i64 e1)) := fun w' hb => ⟨(K0.below hb K0.lt).cell 2, (K0.below hb K0.lt).cell 3, (K1.below hb K1.lt).cell 2, (K1.below hb K1.lt).cell 3⟩
  have HWE := hide hW
  have EH0 := hide eH0
  have EH1 := hide eH1
  clear hW K0 K1 eH0 eH1
  obtain ⟨p02, p03, p12, p13⟩ := CELLS.out W (Below.refl _ _)
  have m1 : decide (min e0 e1 - 2 < -1090) = false := decide_eq_false (by have := HU.out; omega)
  have m2 : decide (2000 < e0 - (min e0 e1 - 2)) = false := decide_eq_false (by have := HU.out; omega)
  have m3 : decide (2000 < e1 - (min e0 e1 - 2)) = false := decide_eq_false (by have := HU.out; omega)
  go_wp2_with fail
  simp only [← HWE.out]
  simp only [← EH1.out]
  simp only [← EH0.out]
  simp only [← HU.out]
  clear m1 m2 m3
  have O0 : Hid (∀ w', Hid (Below W.heap.size W w') → Calls Tryz.prog 28 #[.string t0] w' fun e w'' => ∃ o c l, e = .returned (.slice o l c) ∧ Hid (Nr w'' (.slice o l c) (V0) ∧ Below w'.heap.size w' w'') ∧ Hid (Below W.heap.size W w'') ∧ w''.cell? ⟨H0, 2, none⟩ = some (.string t0) ∧ w''.cell? ⟨H0, 3, none⟩ = some (.int .i64 e0) ∧ w''.cell? ⟨H1, 2, none⟩ = some (.string t1) ∧ w''.cell? ⟨H1, 3, none⟩ = some (.int .i64 e1)) := by
    intro w' hw'
    refine (OF0.out w').mono ?_
    rintro e w'' ⟨o, c, l, rfl, n1, hb⟩
    have hbb := hw'.out.trans (hb.mono hw'.out.size)
    exact ⟨o, c, l, rfl, ⟨n1, hb⟩, hbb, CELLS.out _ hbb⟩
  have P0 : Hid (∀ w', Hid (Below W.heap.size W w') → ∀ zz : Int, zz = (k0 : Int) → Calls Tryz.prog 29 #[.int .i64 10, .int .i64 zz] w' fun e w'' => ∃ o c l, e = .returned (.slice o l c) ∧ Hid (Nr w'' (.slice o l c) (10 ^ k0) ∧ Below w'.heap.size w' w'') ∧ Hid (Below W.heap.size W w'') ∧ w''.cell? ⟨H0, 2, none⟩ = some (.string t0) ∧ w''.cell? ⟨H0, 3, none⟩ = some (.int .i64 e0) ∧ w''.cell? ⟨H1, 2, none⟩ = some (.string t1) ∧ w''.cell? ⟨H1, 3, none⟩ = some (.int .i64 e1)) := by
    intro w' hw' zz hzz
    refine (nr_pow10 zz k0 w' hzz (by omega)).mono ?_
    rintro e w'' ⟨o, c, l, rfl, n1, hb⟩
    have hbb := hw'.out.trans (hb.mono hw'.out.size)
    exact ⟨o, c, l, rfl, ⟨n1, hb⟩, hbb, CELLS.out _ hbb⟩
  have X0 : Hid (∀ w', Hid (Below W.heap.size W w') → ∀ o1 l1 q1 o2 l2 q2, Nr w' (.slice o1 l1 q1) V0 → Nr w' (.slice o2 l2 q2) (10 ^ k0) → Calls Tryz.prog 27 #[.slice o1 l1 q1, .slice o2 l2 q2] w' fun e w'' => ∃ o c l, e = .returned (.slice o l c) ∧ Hid (Nr w'' (.slice o l c) (X) ∧ Below w'.heap.size w' w'') ∧ Hid (Below W.heap.size W w'') ∧ w''.cell? ⟨H0, 2, none⟩ = some (.string t0) ∧ w''.cell? ⟨H0, 3, none⟩ = some (.int .i64 e0) ∧ w''.cell? ⟨H1, 2, none⟩ = some (.string t1) ∧ w''.cell? ⟨H1, 3, none⟩ = some (.int .i64 e1)) := by
    intro w' hw' o1 l1 q1 o2 l2 q2 g1 g2
    rw [← N0e.out]
    refine (nr_mul _ _ V0 (10 ^ k0) w' g1 g2 SV0.out.1 SV0.out.2).mono ?_
    rintro e w'' ⟨o, c, l, rfl, n1, hb⟩
    have hbb := hw'.out.trans (hb.mono hw'.out.size)
    exact ⟨o, c, l, rfl, ⟨n1, hb⟩, hbb, CELLS.out _ hbb⟩
  have O1 : Hid (∀ w', Hid (Below W.heap.size W w') → Calls Tryz.prog 28 #[.string t1] w' fun e w'' => ∃ o c l, e = .returned (.slice o l c) ∧ Hid (Nr w'' (.slice o l c) (V1) ∧ Below w'.heap.size w' w'') ∧ Hid (Below W.heap.size W w'') ∧ w''.cell? ⟨H0, 2, none⟩ = some (.string t0) ∧ w''.cell? ⟨H0, 3, none⟩ = some (.int .i64 e0) ∧ w''.cell? ⟨H1, 2, none⟩ = some (.string t1) ∧ w''.cell? ⟨H1, 3, none⟩ = some (.int .i64 e1)) := by
    intro w' hw'
    refine (OF1.out w').mono ?_
    rintro e w'' ⟨o, c, l, rfl, n1, hb⟩
    have hbb := hw'.out.trans (hb.mono hw'.out.size)
    exact ⟨o, c, l, rfl, ⟨n1, hb⟩, hbb, CELLS.out _ hbb⟩
  have P1 : Hid (∀ w', Hid (Below W.heap.size W w') → ∀ zz : Int, zz = (k1 : Int) → Calls Tryz.prog 29 #[.int .i64 10, .int .i64 zz] w' fun e w'' => ∃ o c l, e = .returned (.slice o l c) ∧ Hid (Nr w'' (.slice o l c) (10 ^ k1) ∧ Below w'.heap.size w' w'') ∧ Hid (Below W.heap.size W w'') ∧ w''.cell? ⟨H0, 2, none⟩ = some (.string t0) ∧ w''.cell? ⟨H0, 3, none⟩ = some (.int .i64 e0) ∧ w''.cell? ⟨H1, 2, none⟩ = some (.string t1) ∧ w''.cell? ⟨H1, 3, none⟩ = some (.int .i64 e1)) := by
    intro w' hw' zz hzz
    refine (nr_pow10 zz k1 w' hzz (by omega)).mono ?_
    rintro e w'' ⟨o, c, l, rfl, n1, hb⟩
    have hbb := hw'.out.trans (hb.mono hw'.out.size)
    exact ⟨o, c, l, rfl, ⟨n1, hb⟩, hbb, CELLS.out _ hbb⟩
  have X1 : Hid (∀ w', Hid (Below W.heap.size W w') → ∀ o1 l1 q1 o2 l2 q2, Nr w' (.slice o1 l1 q1) V1 → Nr w' (.slice o2 l2 q2) (10 ^ k1) → Calls Tryz.prog 27 #[.slice o1 l1 q1, .slice o2 l2 q2] w' fun e w'' => ∃ o c l, e = .returned (.slice o l c) ∧ Hid (Nr w'' (.slice o l c) (Y) ∧ Below w'.heap.size w' w'') ∧ Hid (Below W.heap.size W w'') ∧ w''.cell? ⟨H0, 2, none⟩ = some (.string t0) ∧ w''.cell? ⟨H0, 3, none⟩ = some (.int .i64 e0) ∧ w''.cell? ⟨H1, 2, none⟩ = some (.string t1) ∧ w''.cell? ⟨H1, 3, none⟩ = some (.int .i64 e1)) := by
    intro w' hw' o1 l1 q1 o2 l2 q2 g1 g2
    rw [← N1e.out]
    refine (nr_mul _ _ V1 (10 ^ k1) w' g1 g2 SV1.out.1 SV1.out.2).mono ?_
    rintro e w'' ⟨o, c, l, rfl, n1, hb⟩
    have hbb := hw'.out.trans (hb.mono hw'.out.size)
    exact ⟨o, c, l, rfl, ⟨n1, hb⟩, hbb, CELLS.out _ hbb⟩
  have b0 : Hid (Below W.heap.size W W.drew) := bdrew' W
  have EW0 : Hid (IntKind.i64.wrap (e0 - u) = (k0 : Int)) := by show IntKind.i64.wrap (e0 - u) = (k0 : Int); rw [HK0.out, IntKind.wrap_i64]; omega
  have EW1 : Hid (IntKind.i64.wrap (e1 - u) = (k1 : Int)) := by show IntKind.i64.wrap (e1 - u) = (k1 : Int); rw [HK1.out, IntKind.wrap_i64]; omega
  have mk0 : True := trivial
  go_region_held3 (fun w' => w'.cell? ⟨H0, 2, none⟩ = some (.string t0) ∧ w'.cell? ⟨H0, 3, none⟩ = some (.int .i64 e0) ∧ w'.cell? ⟨H1, 2, none⟩ = some (.string t1) ∧ w'.cell? ⟨H1, 3, none⟩ = some (.int .i64 e1)) (go_keep) (first
    | (clear mk0; go_at_call 28; refine (O0.out _ b0).mono ?_; rintro e v1 ⟨oa, qa, la, rfl, na1, b1, f0, f1, f2, f3⟩; have mk1 : True := trivial)
    | (clear mk1; go_at_call 29; refine (P0.out _ b1 _ (by first | exact EW0.out | exact HK0.out)).mono ?_; rintro e v2 ⟨op, qp, lp, rfl, na2, b2, g0, g1, g2, g3⟩; have mk2 : True := trivial)
    | (clear mk2; go_at_call 27; refine (X0.out _ b2 _ _ _ _ _ _ (na1.out.1.below na2.out.2) na2.out.1).mono ?_; rintro e v3 ⟨ox, qx, lx, rfl, na3, b3, h0, h1, h2, h3⟩; have mk3 : True := trivial)
    | (clear mk3; go_at_call 28; refine (O1.out _ b3).mono ?_; rintro e v4 ⟨ob, qb, lb, rfl, nb1, b4, i0, i1, i2, i3⟩; have mk4 : True := trivial)
    | (clear mk4; go_at_call 29; refine (P1.out _ b4 _ (by first | exact EW1.out | exact HK1.out)).mono ?_; rintro e v5 ⟨oq, qq, lq, rfl, nb2, b5, j0, j1, j2, j3⟩; have mk5 : True := trivial)
    | (clear mk5; go_at_call 27; refine (X1.out _ b5 _ _ _ _ _ _ (nb1.out.1.below nb2.out.2) nb2.out.1).mono ?_; rintro e v6 ⟨oy, qy, ly, rfl, nb3, b6, k0, k1, k2, k3⟩; have mk6 : True := trivial))
  have NX := hide (na3.out.1.below (nb1.out.2.trans ((nb2.out.2.trans (nb3.out.2.mono nb2.out.2.size)).mono nb1.out.2.size)))
  have NY := hide nb3.out.1
  have HB6 := hide (HBW.out.trans (b6.out.mono HBW.out.size))
  have CMZ : Hid (cmpN X Y = -1) := by show cmpN X Y = -1; unfold cmpN; rw [if_pos LT.out]
  clear O0 P0 X0 O1 P1 X1 CELLS b0 na1 na2 na3 nb1 nb2 nb3 b1 b2 b3 b4 b5 b6 EW0 EW1 OF0 OF1 SV0 SV1 HK0 HK1 N0e N1e HWE EH0 EH1 HBW HT f0 f1 f2 f3 g0 g1 g2 g3 h0 h1 h2 h3 i0 i1 i2 i3 j0 j1 j2 j3 k0 k1 k2 k3 p02 p03 p12 p13
  go_wp2_with fail
  refine (nr_cmp _ _ X Y (-1) _ NX.out NY.out SS.out.1 SS.out.2.1 CMZ.out).mono ?_
  rintro e w7 ⟨rfl, b7⟩
  have NX7 := hide (NX.out.below b7)
  have NY7 := hide (NY.out.below b7)
  have HB7 := hide (HB6.out.trans (b7.mono HB6.out.size))
  clear b7 NX NY HB6 CMZ
  rcases HRP.out with ⟨hneg, hp⟩ | ⟨hneg, hp⟩
  · obtain rfl : r = (pt : Int) - 101 := by omega
    clear hp HRP
    go_wp2_with fail
    refine (nr_sub _ _ Y X _ NY7.out NX7.out SS.out.2.1 (Nat.le_of_lt LT.out)).mono ?_
    rintro e w8 ⟨o8, q8, l8, rfl, n8, b8⟩
    have N8 := hide n8
    have NX8 := hide (NX7.out.below b8)
    have HB8 := hide (HB7.out.trans (b8.mono HB7.out.size))
    clear n8 b8 NX7 NY7 HB7
    go_wp2_with fail
    refine (nr_small 100 _ _ (by rfl) (by omega)).mono ?_
    rintro e w9 ⟨o9, q9, l9, rfl, n9, b9⟩
    have DV := hide (nr_div _ _ (Y - X) 100 w9 (N8.out.below b9) n9 SS.out.2.2.1 SS.out.2.2.2.1 (by omega))
    have NX9 := hide (NX8.out.below b9)
    have HB9 := hide (HB8.out.trans (b9.mono HB8.out.size))
    clear n9 b9 N8 NX8 HB8
    go_wp2_with fail
    refine DV.out.mono ?_
    rintro e w10 ⟨og, qg, lg, oh, qh, lh, rfl, ng, _, b10, _⟩
    have NG := hide ng
    have NX10 := hide (NX9.out.below b10)
    have HB10 := hide (HB9.out.trans (b10.mono HB9.out.size))
    clear ng b10 DV NX9 HB9
    go_wp2_with fail
    refine (nr_small pt _ _ (by omega) (by omega)).mono ?_
    rintro e w11 ⟨o11, q11, l11, rfl, n11, b11⟩
    have ML := hide (nr_mul _ _ ((Y - X) / 100) pt w11 (NG.out.below b11) n11 SS.out.2.2.2.2.1 SS.out.2.2.2.2.2.1)
    have NX11 := hide (NX10.out.below b11)
    have HB11 := hide (HB10.out.trans (b11.mono HB10.out.size))
    clear n11 b11 NG NX10 HB10
    go_wp2_with fail
    refine ML.out.mono ?_
    rintro e w12 ⟨o12, q12, l12, rfl, n12, b12⟩
    have AD := hide (nr_add _ _ X ((Y - X) / 100 * pt) w12 (NX11.out.below b12) n12 SS.out.1 SS.out.2.2.2.2.2.2.1)
    rw [← HZE.out] at AD
    have HB12 := hide (HB11.out.trans (b12.mono HB11.out.size))
    clear n12 b12 ML NX11 HB11
    go_wp2_with fail
    refine AD.out.mono ?_
    rintro e w13 ⟨o13, q13, l13, rfl, n13, b13⟩
    have RDC := hide (RD.out w13 _ _ _ n13)
    have HB13 := hide (HB12.out.trans (b13.mono HB12.out.size))
    clear n13 b13 AD HB12
    go_wp2_with fail
    refine RDC.out.mono ?_
    rintro e w14 ⟨rfl, b14⟩
    have AL : Hid (Below w14.heap.size w14 (w14.alloc (.cells #[.int .i64 (dz.cls : Int), .bool dz.neg, .string ⟨dz.dig.toArray⟩, .int .i64 dz.exp] 23))) := (Below.refl _ _).alloc (Nat.le_refl _) _
    have HB14 := hide (HB13.out.trans ((b14.trans (AL.out.mono b14.size)).mono HB13.out.size))
    clear b14 AL RDC HB13
    go_wp2_with fail
    refine (T.out _).mono ?_
    rintro e w15 ⟨rfl, b15⟩
    have HB15 := hide (HB14.out.trans (b15.mono HB14.out.size))
    clear b15 HB14 T RD SS FZ HZE
    rcases Nat.lt_or_ge 50 pt with h50 | h50
    · obtain rfl : wv = a + 1 := by
        rw [HWV.out]; unfold wantN; rw [if_pos (by omega)]
      have h5 : (50 : Int) < (pt : Int) := by omega
      clear HWV
      go_wp2
      go_ret
      exact ⟨rfl, HB15.out⟩
    · have h5 : ¬ (50 : Int) < (pt : Int) := by omega
      by_cases h51 : pt = 50
      · by_cases hpar : a % 2 = 1
        · obtain rfl : wv = a + 1 := by
            rw [HWV.out]; unfold wantN; rw [if_pos (by omega)]
          have hq : ((a : Int) % 2 == 1) = true := by
            have h1 : (a : Int) % 2 = 1 := by omega
            simpa using h1
          subst h51
          clear HWV hpar
          go_wp2
          go_ret
          exact ⟨rfl, HB15.out⟩
        · have hq : ((a : Int) % 2 == 1) = false := by
            have h1 : ¬ (a : Int) % 2 = 1 := by omega
            simpa using h1
          obtain rfl : wv = a := by
            rw [HWV.out]; unfold wantN; rw [if_neg (by omega)]
          subst h51
          clear HWV hpar
          go_wp2
          go_ret
          exact ⟨rfl, HB15.out⟩
      · obtain rfl : wv = a := by
          rw [HWV.out]; unfold wantN; rw [if_neg (by omega)]
        have hq : ((pt : Int) == 50) = false := by
          have h1 : ¬ (pt : Int) = 50 := by omega
          simpa using h1
        clear HWV
        go_wp2
        go_ret
        exact ⟨rfl, HB15.out⟩
  · obtain rfl : r = (pt : Int) := by omega
    clear hp HRP
    go_wp2_with fail
    refine (nr_sub _ _ Y X _ NY7.out NX7.out SS.out.2.1 (Nat.le_of_lt LT.out)).mono ?_
    rintro e w8 ⟨o8, q8, l8, rfl, n8, b8⟩
    have N8 := hide n8
    have NX8 := hide (NX7.out.below b8)
    have HB8 := hide (HB7.out.trans (b8.mono HB7.out.size))
    clear n8 b8 NX7 NY7 HB7
    go_wp2_with fail
    refine (nr_small 100 _ _ (by rfl) (by omega)).mono ?_
    rintro e w9 ⟨o9, q9, l9, rfl, n9, b9⟩
    have DV := hide (nr_div _ _ (Y - X) 100 w9 (N8.out.below b9) n9 SS.out.2.2.1 SS.out.2.2.2.1 (by omega))
    have NX9 := hide (NX8.out.below b9)
    have HB9 := hide (HB8.out.trans (b9.mono HB8.out.size))
    clear n9 b9 N8 NX8 HB8
    go_wp2_with fail
    refine DV.out.mono ?_
    rintro e w10 ⟨og, qg, lg, oh, qh, lh, rfl, ng, _, b10, _⟩
    have NG := hide ng
    have NX10 := hide (NX9.out.below b10)
    have HB10 := hide (HB9.out.trans (b10.mono HB9.out.size))
    clear ng b10 DV NX9 HB9
    go_wp2_with fail
    refine (nr_small pt _ _ (by omega) (by omega)).mono ?_
    rintro e w11 ⟨o11, q11, l11, rfl, n11, b11⟩
    have ML := hide (nr_mul _ _ ((Y - X) / 100) pt w11 (NG.out.below b11) n11 SS.out.2.2.2.2.1 SS.out.2.2.2.2.2.1)
    have NX11 := hide (NX10.out.below b11)
    have HB11 := hide (HB10.out.trans (b11.mono HB10.out.size))
    clear n11 b11 NG NX10 HB10
    go_wp2_with fail
    refine ML.out.mono ?_
    rintro e w12 ⟨o12, q12, l12, rfl, n12, b12⟩
    have AD := hide (nr_add _ _ X ((Y - X) / 100 * pt) w12 (NX11.out.below b12) n12 SS.out.1 SS.out.2.2.2.2.2.2.1)
    rw [← HZE.out] at AD
    have HB12 := hide (HB11.out.trans (b12.mono HB11.out.size))
    clear n12 b12 ML NX11 HB11
    go_wp2_with fail
    refine AD.out.mono ?_
    rintro e w13 ⟨o13, q13, l13, rfl, n13, b13⟩
    have RDC := hide (RD.out w13 _ _ _ n13)
    have HB13 := hide (HB12.out.trans (b13.mono HB12.out.size))
    clear n13 b13 AD HB12
    go_wp2_with fail
    refine RDC.out.mono ?_
    rintro e w14 ⟨rfl, b14⟩
    have AL : Hid (Below w14.heap.size w14 (w14.alloc (.cells #[.int .i64 (dz.cls : Int), .bool dz.neg, .string ⟨dz.dig.toArray⟩, .int .i64 dz.exp] 23))) := (Below.refl _ _).alloc (Nat.le_refl _) _
    have HB14 := hide (HB13.out.trans ((b14.trans (AL.out.mono b14.size)).mono HB13.out.size))
    clear b14 AL RDC HB13
    go_wp2_with fail
    refine (T.out _).mono ?_
    rintro e w15 ⟨rfl, b15⟩
    have HB15 := hide (HB14.out.trans (b15.mono HB14.out.size))
    clear b15 HB14 T RD SS FZ HZE
    rcases Nat.lt_or_ge 50 pt with h50 | h50
    · obtain rfl : wv = a + 1 := by
        rw [HWV.out]; unfold wantN; rw [if_pos (by omega)]
      have h5 : (50 : Int) < (pt : Int) := by omega
      clear HWV
      go_wp2
      go_ret
      exact ⟨rfl, HB15.out⟩
    · have h5 : ¬ (50 : Int) < (pt : Int) := by omega
      by_cases h51 : pt = 50
      · by_cases hpar : a % 2 = 1
        · obtain rfl : wv = a + 1 := by
            rw [HWV.out]; unfold wantN; rw [if_pos (by omega)]
          have hq : ((a : Int) % 2 == 1) = true := by
            have h1 : (a : Int) % 2 = 1 := by omega
            simpa using h1
          subst h51
          clear HWV hpar
          go_wp2
          go_ret
          exact ⟨rfl, HB15.out⟩
        · have hq : ((a : Int) % 2 == 1) = false := by
            have h1 : ¬ (a : Int) % 2 = 1 := by omega
            simpa using h1
          obtain rfl : wv = a := by
            rw [HWV.out]; unfold wantN; rw [if_neg (by omega)]
          subst h51
          clear HWV hpar
          go_wp2
          go_ret
          exact ⟨rfl, HB15.out⟩
      · obtain rfl : wv = a := by
          rw [HWV.out]; unfold wantN; rw [if_neg (by omega)]
        have hq : ((pt : Int) == 50) = false := by
          have h1 : ¬ (pt : Int) = 50 := by omega
          simpa using h1
        clear HWV
        go_wp2
        go_ret
        exact ⟨rfl, HB15.out⟩
theorem between_walk (w : World) (htab : Tab w) (a : Nat) (_ha : a < 18446744073709551616) (at1 : Int) :
    Calls Tryz.prog 9 #[.int .u64 (a : Int), .int .i64 at1] w fun e w' => e = .returned (.bool true) ∧ Below w.heap.size w w' := by
  by_cases h : a + 1 < 9218868437227405312
  · have h1 : at1.tmod 101 < 101 := Int.tmod_lt_of_pos _ (by omega)
    have h2 : -101 < at1.tmod 101 := by
      have := Int.lt_tmod_of_pos at1 (show (0 : Int) < 101 by omega)
      omega
    by_cases hn : at1.tmod 101 < 0
    · exact between_busy w htab a at1 h _ rfl (at1.tmod 101 + 101).toNat (by omega) (.inl ⟨hn, by omega⟩)
    · exact between_busy w htab a at1 h _ rfl (at1.tmod 101).toNat (by omega) (.inr ⟨hn, by omega⟩)
  · exact between_idle w htab a at1 (by omega)

end Go.Proofs.YtlhekeifffofjaaGreatDoor
