/-
  Plain mathematics: what NearestFewest asks of the fewest digits, cut by one.
-/
import Derived.Test.YtpiloigpncbccacGreatDoorZNM
import Derived.Test.YtpiloigpncbccacGreatDoorZNT
import Derived.Test.YtpiloigpncbccacGreatDoorZSC
import Derived.Test.YtpiloigpncbccacGreatDoorZSR
namespace Go.Proofs.YtpiloigpncbccacGreatDoor

theorem may_decA (neg : Bool) {N j : Nat} {e : Int} (h : N ≠ 0) (hj : N < 10 ^ j) (h1 : j ≤ 1000) (h2 : -2001 ≤ e) (h3 : e + j ≤ 2000) : May (decA neg N e) := by
  obtain ⟨M, k, e1, e2, e3⟩ := decA_form neg e h
  have hM : M ≠ 0 := fun e => by rw [e] at e2; exact e2 rfl
  rw [e3]
  have hk : k < j := by
    rcases Nat.lt_or_ge k j with h4 | h4
    · exact h4
    · exfalso
      have h5 := Nat.pow_le_pow_right (show 0 < 10 by omega) h4
      have h6 : 1 * 10 ^ k ≤ M * 10 ^ k := Nat.mul_le_mul_right _ (by omega)
      omega
  have hl : sizeN M ≤ j - k := by
    refine sizeN_le ?_ (by omega)
    have h5 : M * 10 ^ k < 10 ^ (j - k) * 10 ^ k := by rw [← Nat.pow_add, show j - k + k = j by omega, ← e1]; exact hj
    exact Nat.lt_of_mul_lt_mul_right h5
  have hp := sizeN_pos M
  unfold sizeN at hl hp
  refine .inl ⟨rfl, .inr ⟨dd_ne M, ?_, ?_, ?_, dd_first hM, dd_last e2, (dd_okT M).2.2⟩⟩
  · show (Lib.decDigits M).length ≤ 1000
    omega
  · show -2000 ≤ e + k + ((Lib.decDigits M).length : Int)
    omega
  · show e + k + ((Lib.decDigits M).length : Int) ≤ 2000
    omega

theorem strN_cut1 {M : Nat} (h : 10 ≤ M) : (strN M).extract 0 (sizeN (M / 10)) = strN (M / 10) ∧ (strN M).size = sizeN (M / 10) + 1 := by
  have hd : Lib.decDigits M = Lib.decDigits (M / 10) ++ [UInt8.ofNat (48 + M % 10)] := dd_big (by omega)
  constructor
  · unfold strN sizeN
    rw [hd]
    apply ByteArray.ext
    rw [ByteArray.data_extract]
    apply Array.toList_inj.1
    simp
  · rw [strN_size]
    unfold sizeN
    rw [hd, List.length_append, List.length_singleton]

theorem lies_val {F I b B T : Nat} {d : DecT} (hT : powT 2 B * (4 * T) = powT 10 1100) (hT0 : 0 < T) (he : -1100 ≤ d.exp) (h : Lies F I b (dOver d * 2 ^ B) (dUnder d)) : Lies F I b (valD d) (4 * T) :=
  h.ratio (Nat.pos_of_ne_zero (dUnder_ne _)) (by omega) (dec_ratio hT he)

theorem fewest_data {b : Nat} (hcls : (of64D b).cls = 0) (hlen : 2 ≤ (of64D b).dig.length) :
    ∃ (neg : Bool) (M : Nat) (ex : Int), of64D b = ⟨0, neg, Lib.decDigits M, ex⟩ ∧ 10 ≤ M ∧ M ≤ 10 ^ 17 ∧ -1100 ≤ ex ∧ ex ≤ 1500 ∧
      ∀ Z, Z ≠ 0 → Z < 10 ^ 18 → May (decA neg Z (ex + 1)) ∧ (b < 18446744073709551616 → toD 52 11 1074 (decA neg Z (ex + 1)) ≠ b) := by
  have e1 : (2 : Nat) ^ 52 = 4503599627370496 := by decide
  have e2 : (2 : Nat) ^ 11 = 2048 := by decide
  by_cases hx : b / 4503599627370496 % 2048 = 2047
  · exfalso
    have : (of64D b).cls ≠ 0 := by
      show (decOf 52 11 _ b).cls ≠ 0
      unfold decOf; rw [e1, e2, if_pos hx]; split <;> simp
    exact this hcls
  · obtain ⟨a, ha⟩ : ∃ a, a = b % 9223372036854775808 := ⟨_, rfl⟩
    have ha2 : a < 9218868437227405312 := by omega
    have h0 : a ≠ 0 := by
      intro h0
      have : of64D b = ⟨0, decide (b / 4503599627370496 / 2048 ≠ 0), [], 0⟩ := by
        show decOf 52 11 _ b = _
        unfold decOf; rw [e1, e2, if_neg (by omega), if_pos (by omega)]
      rw [this] at hlen
      simp at hlen
    obtain ⟨neg, hneg⟩ : ∃ n, n = decide (b / 4503599627370496 / 2048 ≠ 0) := ⟨_, rfl⟩
    have hd : of64D b = decA neg (fewD 52 1074 (a / 2 ^ 52) (a % 2 ^ 52)).1 (fewD 52 1074 (a / 2 ^ 52) (a % 2 ^ 52)).2 := by
      show decOf 52 11 _ b = _
      unfold decOf
      rw [hneg, e1, e2, if_neg (by omega), if_neg (by omega), show b / 4503599627370496 % 2048 = a / 4503599627370496 by omega, show b % 4503599627370496 = a % 4503599627370496 by omega]
    have hm2 : a % 2 ^ 52 < 2 ^ 52 := Nat.mod_lt _ (by omega)
    have g := nearOf_good (F := 52) (B := 1074) (x := a / 2 ^ 52) (m := a % 2 ^ 52) (by omega) hm2
    have hnum := fNum_pos h0
    have hb1 := fPow_bounds ha2
    have hA0 : (nearOf 52 1074 (a / 2 ^ 52) (a % 2 ^ 52)).amt ≠ 0 := by
      have := p2N_pos (fPow 1074 (a / 2 ^ 52) - 2)
      exact Nat.mul_ne_zero (by omega) (by omega)
    rcases hf : fewN (nearOf 52 1074 (a / 2 ^ 52) (a % 2 ^ 52)) (sizeN (nearOf 52 1074 (a / 2 ^ 52) (a % 2 ^ 52)).amt) with ⟨v, p⟩
    have hfd : fewD 52 1074 (a / 2 ^ 52) (a % 2 ^ 52) = (v, p2E (fPow 1074 (a / 2 ^ 52) - 2) + (p : Nat)) := by unfold fewD; rw [hf]
    obtain ⟨f1, f2, f3, _, _, _, _⟩ := few_bound g hA0 hf
    rw [hfd] at hd
    obtain ⟨M, k, m1, m2, m3⟩ := decA_form neg (N := v) (p2E (fPow 1074 (a / 2 ^ 52) - 2) + (p : Nat)) (by omega)
    rw [m3] at hd
    have h17 : (10 : Nat) ^ 17 = 100000000000000000 := by decide
    have hk10 : 0 < 10 ^ k := Nat.pow_pos (by omega)
    have hMv : M ≤ v := by rw [m1]; exact Nat.le_mul_of_pos_right _ hk10
    have hM10 : 10 ≤ M := by
      rcases Nat.lt_or_ge M 10 with h3 | h3
      · exfalso
        rw [hd] at hlen
        simp only [Lib.decDigits_one h3] at hlen
        simp at hlen
      · exact h3
    have hk17 : k ≤ 17 := by
      rcases Nat.lt_or_ge 17 k with h3 | h3
      · exfalso
        have h4 := Nat.pow_le_pow_right (show 0 < 10 by omega) (show 18 ≤ k from h3)
        have h5 : 1 * 10 ^ k ≤ M * 10 ^ k := Nat.mul_le_mul_right _ (by omega)
        have h18 : (10 : Nat) ^ 18 = 1000000000000000000 := by decide
        omega
      · exact h3
    have hsz : sizeN (nearOf 52 1074 (a / 2 ^ 52) (a % 2 ^ 52)).amt ≤ 1200 := by
      obtain ⟨j, hj⟩ : ∃ j : Nat, j = 1081 := ⟨_, rfl⟩
      exact size_bound (j := j + 17) (mul_lt10 (p2N_lt (by omega) (by omega)) (fNum_lt17 (by omega) hm2)) (by omega) (by omega)
    have hE1 : -1076 ≤ p2E (fPow 1074 (a / 2 ^ 52) - 2) := by unfold p2E; split <;> omega
    have hE2 : p2E (fPow 1074 (a / 2 ^ 52) - 2) ≤ 0 := by unfold p2E; split <;> omega
    refine ⟨neg, M, _, hd, hM10, by omega, by omega, by omega, fun Z hZ hZ2 => ⟨may_decA neg (j := 18) hZ hZ2 (by omega) (by omega) (by omega), fun hb64 heq => ?_⟩⟩
    have hex : p2E (fPow 1074 (a / 2 ^ 52) - 2) + (p : Nat) + (k : Nat) + 1 = p2E (fPow 1074 (a / 2 ^ 52) - 2) + (p + k + 1 : Nat) := by omega
    rw [hex] at heq
    refine few_apart ha2 h0 hf m1 m2 hM10 hZ ?_
    obtain ⟨d1, d2, d3, d4, d5⟩ := decA_dig (neg := neg) (e := p2E (fPow 1074 (a / 2 ^ 52) - 2) + (p + k + 1 : Nat)) hZ
    have hv : valD (decA neg Z (p2E (fPow 1074 (a / 2 ^ 52) - 2) + (p + k + 1 : Nat))) = valD (decA false Z (p2E (fPow 1074 (a / 2 ^ 52) - 2) + (p + k + 1 : Nat))) := rfl
    have hto : toD 52 11 1074 (decA neg Z (p2E (fPow 1074 (a / 2 ^ 52) - 2) + (p + k + 1 : Nat))) = bitsOf 52 1074 (infN 52 11) (dOver (decA neg Z (p2E (fPow 1074 (a / 2 ^ 52) - 2) + (p + k + 1 : Nat)))) (dUnder (decA neg Z (p2E (fPow 1074 (a / 2 ^ 52) - 2) + (p + k + 1 : Nat)))) + sigN 52 11 neg := by
      unfold toD
      rw [if_neg (by omega), if_neg (by omega), if_neg d1, d5]
    have hs : sigN 52 11 neg = b / 9223372036854775808 * 9223372036854775808 := by
      unfold sigN
      by_cases hz : b / 4503599627370496 / 2048 = 0
      · rw [hneg, decide_eq_false (by omega)]; simp; omega
      · rw [hneg, decide_eq_true hz, if_pos rfl, show (2 : Nat) ^ (11 + 52) = 9223372036854775808 by decide]; omega
    rw [hto, hs] at heq
    have hba : bitsOf 52 1074 (infN 52 11) (dOver (decA neg Z (p2E (fPow 1074 (a / 2 ^ 52) - 2) + (p + k + 1 : Nat)))) (dUnder (decA neg Z (p2E (fPow 1074 (a / 2 ^ 52) - 2) + (p + k + 1 : Nat)))) = a := by omega
    have hl := bitsOf_lies (F := 52) (B := 1074) (I := infN 52 11) (by omega) (by rw [inf64]) d2 (dUnder_ne (decA neg Z (p2E (fPow 1074 (a / 2 ^ 52) - 2) + (p + k + 1 : Nat))))
    rw [hba] at hl
    rw [← hv]
    exact lies_val t0_ten T0_pos (by omega) hl

end Go.Proofs.YtpiloigpncbccacGreatDoor
