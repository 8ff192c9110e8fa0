/-
  Plain mathematics: a float's digits, the fewest and all of them, are nearest to it; the bits that package nearest answers for a Dec.
-/
import Derived.Test.YtpiloigpncbccabGreatDoorSOrdN
import Derived.Test.YtpiloigpncbccabGreatDoorNBits
namespace Go.Proofs.YtpiloigpncbccabGreatDoor

/-- An infinity's bits; a sign's. -/
def infN (F X : Nat) : Nat := (2 ^ X - 1) * 2 ^ F
def sigN (F X : Nat) (neg : Bool) : Nat := if neg then 2 ^ (X + F) else 0

theorem inf64 : infN 52 11 = 9218868437227405312 := by decide
theorem inf32 : infN 23 8 = 2139095040 := by decide

/-- A Dec's amount as one number by another. -/
def dOver (d : DecT) : Nat := decV d.dig * 10 ^ d.exp.toNat
def dUnder (d : DecT) : Nat := 10 ^ (-d.exp).toNat

/-- The bits of the nearest float of a Dec that may be. -/
def toD (F X B : Nat) (d : DecT) : Nat :=
  if d.cls = 2 then infN F X + 2 ^ (F - 1) + 1
  else if d.cls = 1 then infN F X + sigN F X d.neg
  else if d.dig = [] then sigN F X d.neg
  else bitsOf F B (infN F X) (dOver d) (dUnder d) + sigN F X d.neg

theorem dUnder_ne (d : DecT) : dUnder d ≠ 0 := by
  have : 0 < 10 ^ (-d.exp).toNat := Nat.pow_pos (by omega)
  unfold dUnder; omega

theorem lies64_of {a : Nat} (h : a < 9218868437227405312) : Lies 52 (infN 52 11) a (valD (of64D a)) (4 * T0) := by
  obtain ⟨⟨u1, u2⟩, l⟩ := val_of h
  have e : ∀ x y : Nat, (4 * x + 4 * y) * T0 = (x + y) * (4 * T0) := fun x y => by rw [← Nat.mul_add, Nat.mul_comm 4 (x + y), Nat.mul_assoc]
  rw [e] at u1 u2
  rw [e] at l
  rw [inf64]
  exact ⟨by omega, fun h0 => l h0, fun _ => ⟨u1, u2⟩⟩

theorem lies64_ex {a : Nat} (h : a < 9218868437227405312) : Lies 52 (infN 52 11) a (valD (ex64D a)) (4 * T0) := by
  rw [val_ex h, inf64, show 4 * fAmt a * T0 = fAmt a * (4 * T0) by rw [Nat.mul_comm 4 (fAmt a), Nat.mul_assoc]]
  have hT : 0 < 4 * T0 := by have := T0_pos; omega
  refine ⟨by omega, fun h0 => ?_, fun _ => ?_⟩
  · have m := fAmt_lt (show a - 1 < a by omega)
    have k := Nat.mul_lt_mul_of_pos_right (show fAmt (a - 1) + fAmt a < 2 * fAmt a by omega) hT
    rw [Nat.mul_assoc] at k
    show (fAmt (a - 1) + fAmt a) * (4 * T0) ≤ _ ∧ ((fAmt (a - 1) + fAmt a) * (4 * T0) = _ → _)
    exact ⟨by omega, fun e => by omega⟩
  · have m := fAmt_lt (show a < a + 1 by omega)
    have k := Nat.mul_lt_mul_of_pos_right (show 2 * fAmt a < fAmt a + fAmt (a + 1) by omega) hT
    rw [Nat.mul_assoc] at k
    show _ ≤ (fAmt a + fAmt (a + 1)) * (4 * T0) ∧ (_ = (fAmt a + fAmt (a + 1)) * (4 * T0) → _)
    exact ⟨by omega, fun e => by omega⟩

theorem lies32_of {a : Nat} (h : a < 2139095040) : Lies 23 (infN 23 8) a (valD (of32D a)) (4 * T0N) := by
  obtain ⟨⟨u1, u2⟩, l⟩ := val_ofN h
  have e : ∀ x y : Nat, (4 * x + 4 * y) * T0N = (x + y) * (4 * T0N) := fun x y => by rw [← Nat.mul_add, Nat.mul_comm 4 (x + y), Nat.mul_assoc]
  rw [e] at u1 u2
  rw [e] at l
  rw [inf32]
  exact ⟨by omega, fun h0 => l h0, fun _ => ⟨u1, u2⟩⟩

theorem lies32_ex {a : Nat} (h : a < 2139095040) : Lies 23 (infN 23 8) a (valD (ex32D a)) (4 * T0N) := by
  rw [val_exN h, inf32, show 4 * fAmtN a * T0N = fAmtN a * (4 * T0N) by rw [Nat.mul_comm 4 (fAmtN a), Nat.mul_assoc]]
  have hT : 0 < 4 * T0N := by have := T0_posN; omega
  refine ⟨by omega, fun h0 => ?_, fun _ => ?_⟩
  · have m := fAmt_ltN (show a - 1 < a by omega)
    have k := Nat.mul_lt_mul_of_pos_right (show fAmtN (a - 1) + fAmtN a < 2 * fAmtN a by omega) hT
    rw [Nat.mul_assoc] at k
    show (fAmtN (a - 1) + fAmtN a) * (4 * T0N) ≤ _ ∧ ((fAmtN (a - 1) + fAmtN a) * (4 * T0N) = _ → _)
    exact ⟨by omega, fun e => by omega⟩
  · have m := fAmt_ltN (show a < a + 1 by omega)
    have k := Nat.mul_lt_mul_of_pos_right (show 2 * fAmtN a < fAmtN a + fAmtN (a + 1) by omega) hT
    rw [Nat.mul_assoc] at k
    show _ ≤ (fAmtN a + fAmtN (a + 1)) * (4 * T0N) ∧ (_ = (fAmtN a + fAmtN (a + 1)) * (4 * T0N) → _)
    exact ⟨by omega, fun e => by omega⟩

theorem t0_ten : powT 2 1074 * (4 * T0) = powT 10 1100 := by decide +kernel
theorem t0_tenN : powT 2 149 * (4 * T0N) = powT 10 1100 := by decide +kernel

theorem dec_ratio {d : DecT} {B T : Nat} (hT : powT 2 B * (4 * T) = powT 10 1100) (h : -1100 ≤ d.exp) : dOver d * 2 ^ B * (4 * T) = valD d * dUnder d := by
  obtain ⟨E, hE⟩ : ∃ E, E = 1100 := ⟨_, rfl⟩
  rw [← hE] at hT
  unfold powT at hT
  unfold dOver dUnder valD
  rw [Nat.mul_assoc, hT, Nat.mul_assoc, Nat.mul_assoc, ← Nat.pow_add, ← Nat.pow_add]
  congr 2
  omega

theorem decA_dig {neg : Bool} {N : Nat} {e : Int} (h : N ≠ 0) : (decA neg N e).dig ≠ [] ∧ dOver (decA neg N e) ≠ 0 ∧ e ≤ (decA neg N e).exp ∧ (decA neg N e).cls = 0 ∧ (decA neg N e).neg = neg := by
  obtain ⟨M, k, h1, h2, h3⟩ := decA_form neg e h
  rw [h3]
  refine ⟨dd_ne M, ?_, by simp only; omega, rfl, rfl⟩
  unfold dOver
  simp only [dd_val]
  exact Nat.mul_ne_zero (by omega) (by have : 0 < 10 ^ (e + k).toNat := Nat.pow_pos (by omega); omega)

/-- The bits of a number's digits, where they lie nearest to a float. -/
theorem toD_decA {F X B T a N : Nat} {e : Int} (neg : Bool) (hF : 1 ≤ F) (hI : infN F X % 2 = 0) (hT : powT 2 B * (4 * T) = powT 10 1100) (hT0 : 0 < T) (hN : N ≠ 0) (he : -1100 ≤ e) (h : Lies F (infN F X) a (valD (decA false N e)) (4 * T)) : toD F X B (decA neg N e) = a + sigN F X neg := by
  obtain ⟨d1, d2, d3, d4, d5⟩ := decA_dig (neg := neg) (e := e) hN
  unfold toD
  rw [if_neg (by omega), if_neg (by omega), if_neg d1, d5]
  congr 1
  have hv : valD (decA neg N e) = valD (decA false N e) := rfl
  rw [← hv] at h
  exact (bitsOf_lies (B := B) hF hI d2 (dUnder_ne _)).uniq h (Nat.pos_of_ne_zero (dUnder_ne _)) (by omega) (dec_ratio hT (by omega))

theorem few_ne {F B x m : Nat} (hF : F ≤ 52) (hm : m < 2 ^ F) (h0 : fNum F x m ≠ 0) : (fewD F B x m).1 ≠ 0 := by
  have g := nearOf_good (F := F) (B := B) (x := x) (m := m) hF hm
  have ha : (nearOf F B x m).amt ≠ 0 := by
    have := p2N_pos (fPow B x - 2)
    exact Nat.mul_ne_zero (by omega) (by omega)
  rcases hf : fewN (nearOf F B x m) (sizeN (nearOf F B x m).amt) with ⟨v, p⟩
  have := (few_bound g ha hf).2.1
  have e : (fewD F B x m).1 = v := by unfold fewD; rw [hf]
  omega

theorem few_exp {F B x m : Nat} (h1 : -1074 ≤ fPow B x) : -1100 ≤ (fewD F B x m).2 := by
  unfold fewD p2E; simp only; split <;> omega

theorem all_ne {F B x m : Nat} (h0 : fNum F x m ≠ 0) : (allD F B x m).1 ≠ 0 := by
  have := p2N_pos (fPow B x)
  exact Nat.mul_ne_zero h0 (by omega)

theorem all_exp {F B x m : Nat} (h1 : -1074 ≤ fPow B x) : -1100 ≤ (allD F B x m).2 := by
  unfold allD p2E; simp only; split <;> omega

/-- What a float's bits are read as: itself, but all NaNs as one. -/
def same64 (b : Nat) : Nat := if 9218868437227405312 < b % 9223372036854775808 then 9221120237041090561 else b
def same32 (b : Nat) : Nat := if 2139095040 < b % 2147483648 then 2143289345 else b

theorem back64 (tell : Nat → Nat → Nat × Int) (lies : ∀ a, a < 9218868437227405312 → a ≠ 0 → Lies 52 (infN 52 11) a (valD (decOf 52 11 tell a)) (4 * T0)) (ne : ∀ a, a < 9218868437227405312 → a ≠ 0 → (tell (a / 2 ^ 52) (a % 2 ^ 52)).1 ≠ 0 ∧ -1100 ≤ (tell (a / 2 ^ 52) (a % 2 ^ 52)).2) (b : Nat) (hb : b < 18446744073709551616) : toD 52 11 1074 (decOf 52 11 tell b) = same64 b := by
  have e1 : (2 : Nat) ^ 52 = 4503599627370496 := by decide
  have e2 : (2 : Nat) ^ 11 = 2048 := by decide
  have hs : ∀ neg : Bool, neg = decide (b / 4503599627370496 / 2048 ≠ 0) → sigN 52 11 neg = b / 9223372036854775808 * 9223372036854775808 := by
    intro neg hn
    unfold sigN
    by_cases hz : b / 4503599627370496 / 2048 = 0
    · rw [hn, decide_eq_false (by omega)]; simp; omega
    · rw [hn, decide_eq_true hz, if_pos rfl, show (2 : Nat) ^ (11 + 52) = 9223372036854775808 by decide]; omega
  unfold same64
  by_cases hx : b / 4503599627370496 % 2048 = 2047
  · by_cases hm : b % 4503599627370496 = 0
    · have hd : decOf 52 11 tell b = ⟨1, decide (b / 4503599627370496 / 2048 ≠ 0), [], 0⟩ := by
        unfold decOf; rw [e1, e2, if_pos hx, if_pos hm]
      rw [hd, if_neg (by omega)]
      unfold toD
      rw [if_neg (by simp), if_pos rfl, inf64, hs _ rfl]
      omega
    · have hd : decOf 52 11 tell b = ⟨2, false, [], 0⟩ := by
        unfold decOf; rw [e1, e2, if_pos hx, if_neg hm]
      rw [hd, if_pos (by omega)]
      unfold toD
      rw [if_pos rfl, inf64]
  · obtain ⟨a, ha⟩ : ∃ a, a = b % 9223372036854775808 := ⟨_, rfl⟩
    have ha2 : a < 9218868437227405312 := by omega
    rw [if_neg (by omega)]
    by_cases h0 : a = 0
    · have hd : decOf 52 11 tell b = ⟨0, decide (b / 4503599627370496 / 2048 ≠ 0), [], 0⟩ := by
        unfold decOf; rw [e1, e2, if_neg (by omega), if_pos (by omega)]
      rw [hd]
      unfold toD
      rw [if_neg (by simp), if_neg (by simp), if_pos rfl, hs _ rfl]
      omega
    · have hd : decOf 52 11 tell b = decA (decide (b / 4503599627370496 / 2048 ≠ 0)) (tell (a / 2 ^ 52) (a % 2 ^ 52)).1 (tell (a / 2 ^ 52) (a % 2 ^ 52)).2 := by
        unfold decOf
        rw [e1, e2, if_neg (by omega), if_neg (by omega), show b / 4503599627370496 % 2048 = a / 4503599627370496 by omega, show b % 4503599627370496 = a % 4503599627370496 by omega]
      have hl := lies a ha2 h0
      rw [pos_dec ha2 h0 tell] at hl
      obtain ⟨n1, n2⟩ := ne a ha2 h0
      rw [hd, toD_decA _ (by omega) (by rw [inf64]) t0_ten T0_pos n1 n2 hl, hs _ rfl]
      omega

theorem back32 (tell : Nat → Nat → Nat × Int) (lies : ∀ a, a < 2139095040 → a ≠ 0 → Lies 23 (infN 23 8) a (valD (decOf 23 8 tell a)) (4 * T0N)) (ne : ∀ a, a < 2139095040 → a ≠ 0 → (tell (a / 2 ^ 23) (a % 2 ^ 23)).1 ≠ 0 ∧ -1100 ≤ (tell (a / 2 ^ 23) (a % 2 ^ 23)).2) (b : Nat) (hb : b < 4294967296) : toD 23 8 149 (decOf 23 8 tell b) = same32 b := by
  have e1 : (2 : Nat) ^ 23 = 8388608 := by decide
  have e2 : (2 : Nat) ^ 8 = 256 := by decide
  have hs : ∀ neg : Bool, neg = decide (b / 8388608 / 256 ≠ 0) → sigN 23 8 neg = b / 2147483648 * 2147483648 := by
    intro neg hn
    unfold sigN
    by_cases hz : b / 8388608 / 256 = 0
    · rw [hn, decide_eq_false (by omega)]; simp; omega
    · rw [hn, decide_eq_true hz, if_pos rfl, show (2 : Nat) ^ (8 + 23) = 2147483648 by decide]; omega
  unfold same32
  by_cases hx : b / 8388608 % 256 = 255
  · by_cases hm : b % 8388608 = 0
    · have hd : decOf 23 8 tell b = ⟨1, decide (b / 8388608 / 256 ≠ 0), [], 0⟩ := by
        unfold decOf; rw [e1, e2, if_pos hx, if_pos hm]
      rw [hd, if_neg (by omega)]
      unfold toD
      rw [if_neg (by simp), if_pos rfl, inf32, hs _ rfl]
      omega
    · have hd : decOf 23 8 tell b = ⟨2, false, [], 0⟩ := by
        unfold decOf; rw [e1, e2, if_pos hx, if_neg hm]
      rw [hd, if_pos (by omega)]
      unfold toD
      rw [if_pos rfl, inf32]
  · obtain ⟨a, ha⟩ : ∃ a, a = b % 2147483648 := ⟨_, rfl⟩
    have ha2 : a < 2139095040 := by omega
    rw [if_neg (by omega)]
    by_cases h0 : a = 0
    · have hd : decOf 23 8 tell b = ⟨0, decide (b / 8388608 / 256 ≠ 0), [], 0⟩ := by
        unfold decOf; rw [e1, e2, if_neg (by omega), if_pos (by omega)]
      rw [hd]
      unfold toD
      rw [if_neg (by simp), if_neg (by simp), if_pos rfl, hs _ rfl]
      omega
    · have hd : decOf 23 8 tell b = decA (decide (b / 8388608 / 256 ≠ 0)) (tell (a / 2 ^ 23) (a % 2 ^ 23)).1 (tell (a / 2 ^ 23) (a % 2 ^ 23)).2 := by
        unfold decOf
        rw [e1, e2, if_neg (by omega), if_neg (by omega), show b / 8388608 % 256 = a / 8388608 by omega, show b % 8388608 = a % 8388608 by omega]
      have hl := lies a ha2 h0
      rw [pos_decN ha2 h0 tell] at hl
      obtain ⟨n1, n2⟩ := ne a ha2 h0
      rw [hd, toD_decA _ (by omega) (by rw [inf32]) t0_tenN T0_posN n1 n2 hl, hs _ rfl]
      omega

theorem back64_of (b : Nat) (hb : b < 18446744073709551616) : toD 52 11 1074 (of64D b) = same64 b :=
  back64 _ (fun _ h _ => lies64_of h) (fun _ h h0 => ⟨few_ne (by omega) (Nat.mod_lt _ (Nat.pow_pos (by omega))) (fNum_pos h0), few_exp (fPow_bounds h).1⟩) b hb
theorem back64_ex (b : Nat) (hb : b < 18446744073709551616) : toD 52 11 1074 (ex64D b) = same64 b :=
  back64 _ (fun _ h _ => lies64_ex h) (fun _ h h0 => ⟨all_ne (fNum_pos h0), all_exp (fPow_bounds h).1⟩) b hb
theorem back32_of (b : Nat) (hb : b < 4294967296) : toD 23 8 149 (of32D b) = same32 b :=
  back32 _ (fun _ h _ => lies32_of h) (fun _ h h0 => ⟨few_ne (by omega) (Nat.mod_lt _ (Nat.pow_pos (by omega))) (fNum_posN h0), few_exp (by have := (fPow_boundsN h).1; omega)⟩) b hb
theorem back32_ex (b : Nat) (hb : b < 4294967296) : toD 23 8 149 (ex32D b) = same32 b :=
  back32 _ (fun _ h _ => lies32_ex h) (fun _ h h0 => ⟨all_ne (fNum_posN h0), all_exp (by have := (fPow_boundsN h).1; omega)⟩) b hb

end Go.Proofs.YtpiloigpncbccabGreatDoor
