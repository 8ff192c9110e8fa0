/-
  Plain mathematics: with one digit less, rounded either way, the fewest digits are another float's.
  Plain mathematics: what NearestFewest asks of the fewest digits, cut by one.
-/
import Derived.Test.YtlhekeifffofjaaGreatDoorZB16
import Derived.Test.YtlhekeifffofjaaGreatDoorZB6
import Derived.Test.YtlhekeifffofjaaGreatDoorZB5
import Derived.Test.YtlhekeifffofjaaGreatDoorZB9
namespace Go.Proofs.YtlhekeifffofjaaGreatDoor

theorem Lies.ratio {F I b p q p' q' : Nat} (h : Lies F I b p q) (hq : 0 < q) (hq' : 0 < q') (e : p * q' = p' * q) : Lies F I b p' q' := by
  have k : ∀ S : Nat, S * q' * q = S * q * q' := fun S => Nat.mul_right_comm _ _ _
  have k2 : 2 * p' * q = 2 * p * q' := by rw [Nat.mul_assoc, Nat.mul_assoc, e]
  have le1 : ∀ {S : Nat}, S * q ≤ 2 * p → S * q' ≤ 2 * p' := fun {S} hh => by
    apply Nat.le_of_mul_le_mul_right (c := q) _ hq
    rw [k, k2]; exact Nat.mul_le_mul_right _ hh
  have le2 : ∀ {S : Nat}, 2 * p ≤ S * q → 2 * p' ≤ S * q' := fun {S} hh => by
    apply Nat.le_of_mul_le_mul_right (c := q) _ hq
    rw [k, k2]; exact Nat.mul_le_mul_right _ hh
  have eq1 : ∀ {S : Nat}, S * q' = 2 * p' → S * q = 2 * p := fun {S} hh => by
    apply Nat.eq_of_mul_eq_mul_right hq'
    rw [← k, hh, k2]
  exact ⟨h.le, fun h0 => ⟨le1 (h.lo h0).1, fun hh => (h.lo h0).2 (eq1 hh)⟩, fun h0 => ⟨le2 (h.hi h0).1, fun hh => (h.hi h0).2 (eq1 hh.symm).symm⟩⟩

/-- If a multiple of 10^p lies in reach, one is picked at that place. -/
theorem pick_multC {r : Near} {p z : Nat} (h : (z * 10 ^ p ≤ r.amt ∧ heldN r.clo (r.amt - z * 10 ^ p) r.lo = true) ∨ (r.amt ≤ z * 10 ^ p ∧ heldN r.clo (z * 10 ^ p - r.amt) r.hi = true)) (hlo : 0 < r.lo) : pickAt r p ≠ none := by
  have hp : 0 < 10 ^ p := Nat.pow_pos (by omega)
  have hdm := Nat.div_add_mod r.amt (10 ^ p)
  have hlt := Nat.mod_lt r.amt hp
  have less : ∀ {c : Bool} {d d' far : Nat}, heldN c d far = true → d' ≤ d → heldN c d' far = true := by
    intro c d d' far hh hd
    by_cases h1 : d' < far
    · exact heldN_lt h1
    · unfold heldN at hh ⊢
      by_cases h2 : d < far
      · omega
      · simp [h2] at hh
        have : d' = far := by omega
        simp [this, hh.2]
  have two : heldN r.clo (r.amt % 10 ^ p) r.lo = true ∨ heldN r.clo (10 ^ p - r.amt % 10 ^ p) r.hi = true := by
    rcases h with ⟨h1, h2⟩ | ⟨h1, h2⟩
    · left
      have : z ≤ r.amt / 10 ^ p := (Nat.le_div_iff_mul_le hp).2 h1
      have := Nat.mul_le_mul_right (10 ^ p) this
      rw [Nat.mul_comm (r.amt / 10 ^ p)] at this
      exact less h2 (by omega)
    · by_cases h3 : r.amt % 10 ^ p = 0
      · left; rw [h3]; exact heldN_zero hlo
      · right
        have h4 : r.amt / 10 ^ p + 1 ≤ z := by
          have h5 : r.amt / 10 ^ p < z := (Nat.div_lt_iff_lt_mul hp).2 (by
            rcases Nat.lt_or_ge r.amt (z * 10 ^ p) with h6 | h6
            · exact h6
            · exfalso
              have h7 : r.amt = z * 10 ^ p := by omega
              rw [h7, Nat.mul_mod_left] at h3
              exact h3 rfl)
          exact h5
        have := Nat.mul_le_mul_right (10 ^ p) h4
        rw [Nat.add_mul, Nat.one_mul, Nat.mul_comm (r.amt / 10 ^ p)] at this
        exact less h2 (by omega)
  unfold pickAt pickN
  split
  · simp
  · next hc =>
    split
    · simp
    · next hd =>
      rcases two with h1 | h1
      · exact absurd ⟨h1, fun e => absurd e hd⟩ hc
      · exact absurd h1 hd

/-- A float's reach in the units of its neighbours' amounts. -/
theorem units64 {a : Nat} (h : a < 9218868437227405312) (h0 : a ≠ 0) {t : Nat} (ht : t = 10 ^ (p2E (fPow 1074 (a / 2 ^ 52) - 2) + 1100).toNat) :
    (4 * fAmt a + 4 * fAmt (a + 1)) * T0 = 2 * ((nearOf 52 1074 (a / 2 ^ 52) (a % 2 ^ 52)).amt * t) + 2 * ((nearOf 52 1074 (a / 2 ^ 52) (a % 2 ^ 52)).hi * t) ∧
    (4 * fAmt (a - 1) + 4 * fAmt a) * T0 + 2 * ((nearOf 52 1074 (a / 2 ^ 52) (a % 2 ^ 52)).lo * t) = 2 * ((nearOf 52 1074 (a / 2 ^ 52) (a % 2 ^ 52)).amt * t) := by
  obtain ⟨T, hTe⟩ : ∃ T, T = T0 := ⟨_, rfl⟩
  rw [← hTe]
  have e1 : (2 : Nat) ^ 52 = 4503599627370496 := by decide
  have hb := fPow_bounds h
  obtain ⟨x, hx⟩ : ∃ x, x = a / 2 ^ 52 := ⟨_, rfl⟩
  obtain ⟨m, hm⟩ : ∃ m, m = a % 2 ^ 52 := ⟨_, rfl⟩
  have hs := fAmt_succ a
  have hs' := fAmt_succ (a - 1)
  rw [show a - 1 + 1 = a by omega] at hs'
  have hAm : fAmt a = fNum 52 x m * 2 ^ (x - 1) := by rw [hx, hm]; rfl
  rw [← hx] at hb hs ht
  rw [← hx, ← hm]
  have hq : p2N (fPow 1074 x - 2) * t = 2 ^ (x - 1) * T := by
    have h1 : Tn (fPow 1074 x - 2) = 2 ^ (x - 1) * Tn (-1076) := by rw [← Tn_pow]; congr 1; have := fPow_nat x; omega
    rw [ht, hTe]; exact h1
  obtain ⟨Q, hQ⟩ : ∃ Q, Q = 2 ^ (x - 1) := ⟨_, rfl⟩
  rw [← hQ] at hs hAm hq
  have A1 : (nearOf 52 1074 x m).amt * t = 4 * fAmt a * T := by
    show p2N (fPow 1074 x - 2) * (fNum 52 x m * 4) * t = _
    rw [Nat.mul_right_comm, hq, hAm]
    simp only [Nat.mul_comm, Nat.mul_left_comm, Nat.mul_assoc]
  have H1 : (nearOf 52 1074 x m).hi * t = 2 * Q * T := by
    show p2N (fPow 1074 x - 2) * 2 * t = _
    rw [Nat.mul_right_comm, hq]
    simp only [Nat.mul_comm, Nat.mul_assoc]
  have L1 : 2 * ((nearOf 52 1074 x m).lo * t) = 4 * 2 ^ ((a - 1) / 2 ^ 52 - 1) * T := by
    show 2 * ((if m = 0 ∧ 1 < x then p2N (fPow 1074 x - 2) else p2N (fPow 1074 x - 2) * 2) * t) = _
    by_cases hc : m = 0 ∧ 1 < x
    · rw [if_pos hc, hq, hQ]
      have h1 : (a - 1) / 2 ^ 52 = x - 1 := by rw [e1] at *; omega
      rw [h1]
      obtain ⟨i, hi⟩ : ∃ i, x = i + 2 := ⟨x - 2, by omega⟩
      rw [hi, show i + 2 - 1 = i + 1 by omega, show i + 1 - 1 = i by omega, Nat.pow_succ]
      generalize 2 ^ i = R
      have i1 : R * 2 * T = 2 * (R * T) := by rw [Nat.mul_comm R 2, Nat.mul_assoc]
      have i2 : 4 * R * T = 4 * (R * T) := Nat.mul_assoc _ _ _
      omega
    · rw [if_neg hc, Nat.mul_right_comm, hq, hQ]
      have h1 : (a - 1) / 2 ^ 52 - 1 = x - 1 := by rw [e1] at *; omega
      rw [h1, Nat.mul_assoc 4]
      generalize 2 ^ (x - 1) * T = R
      omega
  obtain ⟨q', hq'⟩ : ∃ q', q' = 2 ^ ((a - 1) / 2 ^ 52 - 1) := ⟨_, rfl⟩
  rw [← hq'] at hs' L1
  refine ⟨?_, ?_⟩
  · rw [hs, A1, H1, Nat.mul_add 4, Nat.add_mul, Nat.add_mul]
    generalize fAmt a = X
    have i1 : 2 * Q * T = 2 * (Q * T) := Nat.mul_assoc _ _ _
    have i2 : 4 * Q * T = 4 * (Q * T) := Nat.mul_assoc _ _ _
    omega
  · rw [L1, A1, hs', Nat.mul_add 4, Nat.add_mul, Nat.add_mul]
    generalize fAmt (a - 1) = X
    omega

/-- A number of a place above the one where the fewest digits end is not nearest to the float. -/
theorem few_apart {a : Nat} (h : a < 9218868437227405312) (h0 : a ≠ 0) {v p : Nat} (hf : fewN (nearOf 52 1074 (a / 2 ^ 52) (a % 2 ^ 52)) (sizeN (nearOf 52 1074 (a / 2 ^ 52) (a % 2 ^ 52)).amt) = (v, p)) {M k Z : Nat} (hv : v = M * 10 ^ k) (hM : M % 10 ≠ 0) (hM2 : 10 ≤ M) (hZ : Z ≠ 0) :
    ¬ Lies 52 (infN 52 11) a (valD (decA false Z (p2E (fPow 1074 (a / 2 ^ 52) - 2) + (p + k + 1 : Nat)))) (4 * T0) := by
  intro hl
  have e1 : (2 : Nat) ^ 52 = 4503599627370496 := by decide
  have hb := fPow_bounds h
  have hm2 : a % 2 ^ 52 < 2 ^ 52 := Nat.mod_lt _ (by omega)
  have g := nearOf_good (F := 52) (B := 1074) (x := a / 2 ^ 52) (m := a % 2 ^ 52) (by omega) hm2
  have hnum := fNum_pos h0
  have ha0 : (nearOf 52 1074 (a / 2 ^ 52) (a % 2 ^ 52)).amt ≠ 0 := by
    have := p2N_pos (fPow 1074 (a / 2 ^ 52) - 2)
    exact Nat.mul_ne_zero (by omega) (by omega)
  obtain ⟨t, ht⟩ : ∃ t, t = 10 ^ (p2E (fPow 1074 (a / 2 ^ 52) - 2) + 1100).toNat := ⟨_, rfl⟩
  have ht0 : 0 < t := by rw [ht]; exact Nat.pow_pos (by omega)
  obtain ⟨s1, s2⟩ := units64 h h0 ht
  have hE : -1100 ≤ p2E (fPow 1074 (a / 2 ^ 52) - 2) := by unfold p2E; split <;> omega
  have hclo : (nearOf 52 1074 (a / 2 ^ 52) (a % 2 ^ 52)).clo = decide (a % 2 = 0) := by
    show decide (a % 2 ^ 52 % 2 = 0) = _
    have e2 : a % 4503599627370496 % 2 = a % 2 := by omega
    rw [e1, e2]
  have hval : valD (decA false Z (p2E (fPow 1074 (a / 2 ^ 52) - 2) + (p + k + 1 : Nat))) = Z * 10 ^ (p + k + 1) * t := by
    rw [val_decA false hZ (by omega), ht, Nat.mul_assoc, ← Nat.pow_add, show (p2E (fPow 1074 (a / 2 ^ 52) - 2) + (p + k + 1 : Nat) + 1100).toNat = p + k + 1 + (p2E (fPow 1074 (a / 2 ^ 52) - 2) + 1100).toNat by omega]
  obtain ⟨b1, b2, _, b4, b5, _, _⟩ := few_bound g ha0 hf
  obtain ⟨r, hr⟩ : ∃ r, r = nearOf 52 1074 (a / 2 ^ 52) (a % 2 ^ 52) := ⟨_, rfl⟩
  rw [← hr] at s1 s2 g ha0 hf b1 b4 b5 hclo
  rw [hval] at hl
  obtain ⟨l1, l2⟩ := hl.lo h0
  obtain ⟨u1, u2⟩ := hl.hi (by rw [inf64]; omega)
  have c4 : ∀ y z : Nat, (y + z) * (4 * T0) = (4 * y + 4 * z) * T0 := fun y z => by rw [← Nat.mul_add, Nat.mul_comm 4 (y + z), Nat.mul_assoc]
  have l1' : (4 * fAmt (a - 1) + 4 * fAmt a) * T0 ≤ 2 * (Z * 10 ^ (p + k + 1) * t) := by rw [← c4]; exact l1
  have l2' : (4 * fAmt (a - 1) + 4 * fAmt a) * T0 = 2 * (Z * 10 ^ (p + k + 1) * t) → a % 2 = 0 := by rw [← c4]; exact l2
  have u1' : 2 * (Z * 10 ^ (p + k + 1) * t) ≤ (4 * fAmt a + 4 * fAmt (a + 1)) * T0 := by rw [← c4]; exact u1
  have u2' : 2 * (Z * 10 ^ (p + k + 1) * t) = (4 * fAmt a + 4 * fAmt (a + 1)) * T0 → a % 2 = 0 := by rw [← c4]; exact u2
  clear l1 l2 u1 u2 hl hval
  generalize hV : Z * 10 ^ (p + k + 1) = V at *
  have q1 : r.amt ≤ V + r.lo := by
    apply Nat.le_of_mul_le_mul_right (c := t) _ ht0
    rw [Nat.add_mul]; omega
  have q2 : V ≤ r.amt + r.hi := by
    apply Nat.le_of_mul_le_mul_right (c := t) _ ht0
    rw [Nat.add_mul]; omega
  have q3 : r.amt = V + r.lo → a % 2 = 0 := fun e => l2' (by
    have := congrArg (· * t) e
    simp only [Nat.add_mul] at this
    omega)
  have q4 : V = r.amt + r.hi → a % 2 = 0 := fun e => u2' (by
    have := congrArg (· * t) e
    simp only [Nat.add_mul] at this
    omega)
  have held : ∀ {d far : Nat}, d ≤ far → (d = far → a % 2 = 0) → heldN r.clo d far = true := by
    intro d far h1 h2
    by_cases h3 : d < far
    · exact heldN_lt h3
    · have h4 : d = far := by omega
      unfold heldN
      rw [hclo]
      simp [h4, h2 h4]
  have hpick : pickAt r (p + k + 1) ≠ none := by
    apply pick_multC (z := Z) _ g.pos
    rw [hV]
    rcases Nat.le_total V r.amt with h1 | h1
    · exact .inl ⟨h1, held (by omega) (fun e => q3 (by omega))⟩
    · exact .inr ⟨h1, held (by omega) (fun e => q4 (by omega))⟩
  have hlt : p + k + 1 < sizeN r.amt := by
    rcases Nat.lt_or_ge (p + k + 1) (sizeN r.amt) with h1 | h1
    · exact h1
    · exfalso
      have hp : 0 < 10 ^ p := Nat.pow_pos (by omega)
      have h2 : r.amt < 10 ^ (k + 1) * 10 ^ p := by
        rw [← Nat.pow_add]
        exact Nat.lt_of_lt_of_le (sizeN_lt _) (Nat.pow_le_pow_right (by omega) (by omega))
      have h3 : r.amt / 10 ^ p < 10 ^ (k + 1) := (Nat.div_lt_iff_lt_mul hp).2 h2
      have h4 := pick_or b4
      have h5 : M * 10 ^ k ≤ 10 * 10 ^ k := by
        rw [← hv, Nat.mul_comm, ← Nat.pow_succ]; omega
      have h6 := Nat.le_of_mul_le_mul_right h5 (Nat.pow_pos (by omega))
      omega
  have := few_ge g ha0 hf hlt hpick
  omega

end Go.Proofs.YtlhekeifffofjaaGreatDoor

namespace Go.Proofs.YtlhekeifffofjaaGreatDoor

theorem may_decA (neg : Bool) {N j : Nat} {e : Int} (h : N ≠ 0) (hj : N < 10 ^ j) (h1 : j ≤ 1000) (h2 : -2001 ≤ e) (h3 : e + j ≤ 2000) : May (decA neg N e) := by
  obtain ⟨M, k, e1, e2, e3⟩ := decA_form neg e h
  have hM : M ≠ 0 := fun e => by rw [e] at e2; exact e2 rfl
  rw [e3]
  have hk : k < j := by
    rcases Nat.lt_or_ge k j with h4 | h4
    · exact h4
    · exfalso
      have h5 := Nat.pow_le_pow_right (show 0 < 10 by omega) h4
      have h6 : 1 * 10 ^ k ≤ M * 10 ^ k := Nat.mul_le_mul_right _ (by omega)
      omega
  have hl : sizeN M ≤ j - k := by
    refine sizeN_le ?_ (by omega)
    have h5 : M * 10 ^ k < 10 ^ (j - k) * 10 ^ k := by rw [← Nat.pow_add, show j - k + k = j by omega, ← e1]; exact hj
    exact Nat.lt_of_mul_lt_mul_right h5
  have hp := sizeN_pos M
  unfold sizeN at hl hp
  refine .inl ⟨rfl, .inr ⟨dd_ne M, ?_, ?_, ?_, dd_first hM, dd_last e2, (dd_okT M).2.2⟩⟩
  · show (Lib.decDigits M).length ≤ 1000
    omega
  · show -2000 ≤ e + k + ((Lib.decDigits M).length : Int)
    omega
  · show e + k + ((Lib.decDigits M).length : Int) ≤ 2000
    omega

theorem strN_cut1 {M : Nat} (h : 10 ≤ M) : (strN M).extract 0 (sizeN (M / 10)) = strN (M / 10) ∧ (strN M).size = sizeN (M / 10) + 1 := by
  have hd : Lib.decDigits M = Lib.decDigits (M / 10) ++ [UInt8.ofNat (48 + M % 10)] := dd_big (by omega)
  constructor
  · unfold strN sizeN
    rw [hd]
    apply ByteArray.ext
    rw [ByteArray.data_extract]
    apply Array.toList_inj.1
    simp
  · rw [strN_size]
    unfold sizeN
    rw [hd, List.length_append, List.length_singleton]

theorem lies_val {F I b B T : Nat} {d : DecT} (hT : powT 2 B * (4 * T) = powT 10 1100) (hT0 : 0 < T) (he : -1100 ≤ d.exp) (h : Lies F I b (dOver d * 2 ^ B) (dUnder d)) : Lies F I b (valD d) (4 * T) :=
  h.ratio (Nat.pos_of_ne_zero (dUnder_ne _)) (by omega) (dec_ratio hT he)

theorem fewest_data {b : Nat} (hcls : (of64D b).cls = 0) (hlen : 2 ≤ (of64D b).dig.length) :
    ∃ (neg : Bool) (M : Nat) (ex : Int), of64D b = ⟨0, neg, Lib.decDigits M, ex⟩ ∧ 10 ≤ M ∧ M ≤ 10 ^ 17 ∧ -1100 ≤ ex ∧ ex ≤ 1500 ∧
      ∀ Z, Z ≠ 0 → Z < 10 ^ 18 → May (decA neg Z (ex + 1)) ∧ (b < 18446744073709551616 → toD 52 11 1074 (decA neg Z (ex + 1)) ≠ b) := by
  have e1 : (2 : Nat) ^ 52 = 4503599627370496 := by decide
  have e2 : (2 : Nat) ^ 11 = 2048 := by decide
  by_cases hx : b / 4503599627370496 % 2048 = 2047
  · exfalso
    have : (of64D b).cls ≠ 0 := by
      show (decOf 52 11 _ b).cls ≠ 0
      unfold decOf; rw [e1, e2, if_pos hx]; split <;> simp
    exact this hcls
  · obtain ⟨a, ha⟩ : ∃ a, a = b % 9223372036854775808 := ⟨_, rfl⟩
    have ha2 : a < 9218868437227405312 := by omega
    have h0 : a ≠ 0 := by
      intro h0
      have : of64D b = ⟨0, decide (b / 4503599627370496 / 2048 ≠ 0), [], 0⟩ := by
        show decOf 52 11 _ b = _
        unfold decOf; rw [e1, e2, if_neg (by omega), if_pos (by omega)]
      rw [this] at hlen
      simp at hlen
    obtain ⟨neg, hneg⟩ : ∃ n, n = decide (b / 4503599627370496 / 2048 ≠ 0) := ⟨_, rfl⟩
    have hd : of64D b = decA neg (fewD 52 1074 (a / 2 ^ 52) (a % 2 ^ 52)).1 (fewD 52 1074 (a / 2 ^ 52) (a % 2 ^ 52)).2 := by
      show decOf 52 11 _ b = _
      unfold decOf
      rw [hneg, e1, e2, if_neg (by omega), if_neg (by omega), show b / 4503599627370496 % 2048 = a / 4503599627370496 by omega, show b % 4503599627370496 = a % 4503599627370496 by omega]
    have hm2 : a % 2 ^ 52 < 2 ^ 52 := Nat.mod_lt _ (by omega)
    have g := nearOf_good (F := 52) (B := 1074) (x := a / 2 ^ 52) (m := a % 2 ^ 52) (by omega) hm2
    have hnum := fNum_pos h0
    have hb1 := fPow_bounds ha2
    have hA0 : (nearOf 52 1074 (a / 2 ^ 52) (a % 2 ^ 52)).amt ≠ 0 := by
      have := p2N_pos (fPow 1074 (a / 2 ^ 52) - 2)
      exact Nat.mul_ne_zero (by omega) (by omega)
    rcases hf : fewN (nearOf 52 1074 (a / 2 ^ 52) (a % 2 ^ 52)) (sizeN (nearOf 52 1074 (a / 2 ^ 52) (a % 2 ^ 52)).amt) with ⟨v, p⟩
    have hfd : fewD 52 1074 (a / 2 ^ 52) (a % 2 ^ 52) = (v, p2E (fPow 1074 (a / 2 ^ 52) - 2) + (p : Nat)) := by unfold fewD; rw [hf]
    obtain ⟨f1, f2, f3, _, _, _, _⟩ := few_bound g hA0 hf
    rw [hfd] at hd
    obtain ⟨M, k, m1, m2, m3⟩ := decA_form neg (N := v) (p2E (fPow 1074 (a / 2 ^ 52) - 2) + (p : Nat)) (by omega)
    rw [m3] at hd
    have h17 : (10 : Nat) ^ 17 = 100000000000000000 := by decide
    have hk10 : 0 < 10 ^ k := Nat.pow_pos (by omega)
    have hMv : M ≤ v := by rw [m1]; exact Nat.le_mul_of_pos_right _ hk10
    have hM10 : 10 ≤ M := by
      rcases Nat.lt_or_ge M 10 with h3 | h3
      · exfalso
        rw [hd] at hlen
        simp only [Lib.decDigits_one h3] at hlen
        simp at hlen
      · exact h3
    have hk17 : k ≤ 17 := by
      rcases Nat.lt_or_ge 17 k with h3 | h3
      · exfalso
        have h4 := Nat.pow_le_pow_right (show 0 < 10 by omega) (show 18 ≤ k from h3)
        have h5 : 1 * 10 ^ k ≤ M * 10 ^ k := Nat.mul_le_mul_right _ (by omega)
        have h18 : (10 : Nat) ^ 18 = 1000000000000000000 := by decide
        omega
      · exact h3
    have hsz : sizeN (nearOf 52 1074 (a / 2 ^ 52) (a % 2 ^ 52)).amt ≤ 1200 := by
      obtain ⟨j, hj⟩ : ∃ j : Nat, j = 1081 := ⟨_, rfl⟩
      exact size_bound (j := j + 17) (mul_lt10 (p2N_lt (by omega) (by omega)) (fNum_lt17 (by omega) hm2)) (by omega) (by omega)
    have hE1 : -1076 ≤ p2E (fPow 1074 (a / 2 ^ 52) - 2) := by unfold p2E; split <;> omega
    have hE2 : p2E (fPow 1074 (a / 2 ^ 52) - 2) ≤ 0 := by unfold p2E; split <;> omega
    refine ⟨neg, M, _, hd, hM10, by omega, by omega, by omega, fun Z hZ hZ2 => ⟨may_decA neg (j := 18) hZ hZ2 (by omega) (by omega) (by omega), fun hb64 heq => ?_⟩⟩
    have hex : p2E (fPow 1074 (a / 2 ^ 52) - 2) + (p : Nat) + (k : Nat) + 1 = p2E (fPow 1074 (a / 2 ^ 52) - 2) + (p + k + 1 : Nat) := by omega
    rw [hex] at heq
    refine few_apart ha2 h0 hf m1 m2 hM10 hZ ?_
    obtain ⟨d1, d2, d3, d4, d5⟩ := decA_dig (neg := neg) (e := p2E (fPow 1074 (a / 2 ^ 52) - 2) + (p + k + 1 : Nat)) hZ
    have hv : valD (decA neg Z (p2E (fPow 1074 (a / 2 ^ 52) - 2) + (p + k + 1 : Nat))) = valD (decA false Z (p2E (fPow 1074 (a / 2 ^ 52) - 2) + (p + k + 1 : Nat))) := rfl
    have hto : toD 52 11 1074 (decA neg Z (p2E (fPow 1074 (a / 2 ^ 52) - 2) + (p + k + 1 : Nat))) = bitsOf 52 1074 (infN 52 11) (dOver (decA neg Z (p2E (fPow 1074 (a / 2 ^ 52) - 2) + (p + k + 1 : Nat)))) (dUnder (decA neg Z (p2E (fPow 1074 (a / 2 ^ 52) - 2) + (p + k + 1 : Nat)))) + sigN 52 11 neg := by
      unfold toD
      rw [if_neg (by omega), if_neg (by omega), if_neg d1, d5]
    have hs : sigN 52 11 neg = b / 9223372036854775808 * 9223372036854775808 := by
      unfold sigN
      by_cases hz : b / 4503599627370496 / 2048 = 0
      · rw [hneg, decide_eq_false (by omega)]; simp; omega
      · rw [hneg, decide_eq_true hz, if_pos rfl, show (2 : Nat) ^ (11 + 52) = 9223372036854775808 by decide]; omega
    rw [hto, hs] at heq
    have hba : bitsOf 52 1074 (infN 52 11) (dOver (decA neg Z (p2E (fPow 1074 (a / 2 ^ 52) - 2) + (p + k + 1 : Nat)))) (dUnder (decA neg Z (p2E (fPow 1074 (a / 2 ^ 52) - 2) + (p + k + 1 : Nat)))) = a := by omega
    have hl := bitsOf_lies (F := 52) (B := 1074) (I := infN 52 11) (by omega) (by rw [inf64]) d2 (dUnder_ne (decA neg Z (p2E (fPow 1074 (a / 2 ^ 52) - 2) + (p + k + 1 : Nat))))
    rw [hba] at hl
    rw [← hv]
    exact lies_val t0_ten T0_pos (by omega) hl

end Go.Proofs.YtlhekeifffofjaaGreatDoor
