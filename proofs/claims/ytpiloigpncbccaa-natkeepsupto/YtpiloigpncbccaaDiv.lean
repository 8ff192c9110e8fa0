/-
  What math/bits.Div64 does, walked through the library's own text.
-/
import Derived.Test.YtpiloigpncbccaaBits
import Derived.Test.YtpiloigpncbccaaDivM
import Derived.Deep.QuietTactic
import Derived.BigQuiet
namespace Go.Proofs.Ytpiloigpncbccaa
open Go.RowKit

set_option maxHeartbeats 2000000 in
theorem div64_short (lo y : Nat) (w : World) (hy : 0 < y) (hlo : lo < B64) :
    Calls Try.prog 29 #[.int .u64 0, .int .u64 (lo : Int), .int .u64 (y : Int)] w fun e w' => e = .returned (.tuple #[.int .u64 ((lo / y : Nat) : Int), .int .u64 ((lo % y : Nat) : Int)]) ∧ Like w' w := by
  have h1 : ((y : Int) == 0) = false := by rw [beq_eq_false_iff_ne]; omega
  have h2 : ¬ (y : Int) ≤ 0 := by omega
  have h3 : ¬ (y : Int) = 0 := by omega
  go_enter Try.func29, Try.ntmps29
  go_wp2
  go_quiet (fail)
  go_wp2
  go_ret2
  refine ⟨?_, rfl, rfl, rfl, rfl⟩
  show Ending.returned (.tuple #[.int .u64 (IntKind.u64.wrap ((lo : Int) / (y : Int))), .int .u64 ((lo : Int) % (y : Int))]) = _
  rw [← Int.natCast_ediv, ← Int.natCast_emod, wrapLt _ (Nat.lt_of_le_of_lt (Nat.div_le_self _ _) hlo)]


/-- What holds at the head of Div64's loops: q digits are guessed, rh is what is left of them; the guess is not too low. -/
def HalfInv (U Y y1 u1 q rh : Nat) : Prop := q * y1 + rh = U ∧ (U * 4294967296 + u1) / Y ≤ q ∧ rh < 4294967296 ∧ q ≤ 4294967297

/-- What is known of the divisor and of the digits that are divided. -/
def HalfFits (U Y y1 y0 u1 : Nat) : Prop := Y = y1 * 4294967296 + y0 ∧ 0 < Y ∧ y0 < 4294967296 ∧ y1 < 4294967296 ∧ U < Y ∧ u1 < 4294967296

theorem half_test {U Y y1 y0 u1 q rh : Nat} (f : HalfFits U Y y1 y0 u1) (h : HalfInv U Y y1 u1 q rh) (hq : ¬ 4294967296 ≤ q) :
    ∃ pp T : Nat, IntKind.u64.wrap ((q : Int) * (y0 : Int)) = (pp : Int) ∧ IntKind.u64.wrap (IntKind.u64.wrap (4294967296 * (rh : Int)) + (u1 : Int)) = (T : Int) ∧
      ((T < pp → 4294967296 * rh + u1 < q * y0) ∧ (¬ T < pp → q * y0 ≤ 4294967296 * rh + u1)) := by
  obtain ⟨_, _, hy0, _, _, hu⟩ := f
  obtain ⟨_, _, hr, _⟩ := h
  have hp : q * y0 ≤ 4294967295 * 4294967295 := Nat.mul_le_mul (by omega) (by omega)
  refine ⟨q * y0, 4294967296 * rh + u1, ?_, ?_, id, by omega⟩
  · rw [natMul, wrapLt _ (by omega)]
  · rw [show (4294967296 : Int) * (rh : Int) = ((4294967296 * rh : Nat) : Int) from (Int.natCast_mul 4294967296 rh).symm, wrapLt _ (by omega), natAdd, wrapLt _ (by omega)]

theorem half_down {U Y y1 y0 u1 q rh : Nat} (f : HalfFits U Y y1 y0 u1) (h : HalfInv U Y y1 u1 q rh) (hc : 4294967296 ≤ q ∨ 4294967296 * rh + u1 < q * y0) :
    ∃ q' r' : Nat, IntKind.u64.wrap ((q : Int) - 1) = (q' : Int) ∧ IntKind.u64.wrap ((rh : Int) + (y1 : Int)) = (r' : Int) ∧
      (r' < 4294967296 → HalfInv U Y y1 u1 q' r') ∧ (4294967296 ≤ r' → q' = (U * 4294967296 + u1) / Y) ∧ q' < q := by
  obtain ⟨hY, h0, hy0, hy1, hU, hu⟩ := f
  obtain ⟨hi, hg, hr, hq⟩ := h
  have hd := half_dec hY h0 hU hu hi hc
  obtain ⟨q', rfl⟩ : ∃ q', q = q' + 1 := ⟨q - 1, by have := Nat.le_trans (Nat.le_add_left 1 _) hd; omega⟩
  have hd' : (U * 4294967296 + u1) / Y ≤ q' := Nat.le_of_succ_le_succ hd
  refine ⟨q', rh + y1, ?_, ?_, fun h => ⟨?_, hd', h, by omega⟩, fun h => half_break hY h0 hy0 hi hd' (by omega) h, by omega⟩
  · rw [show ((q' + 1 : Nat) : Int) - 1 = (q' : Int) by omega, wrapLt _ (by omega)]
  · rw [natAdd, wrapLt _ (by omega)]
  · rw [Nat.add_mul, Nat.one_mul] at hi; omega

theorem half_out {U Y y1 y0 u1 q rh : Nat} (f : HalfFits U Y y1 y0 u1) (h : HalfInv U Y y1 u1 q rh) (hc : q * y0 ≤ 4294967296 * rh + u1) : q = (U * 4294967296 + u1) / Y :=
  half_exit f.1 f.2.1 h.1 h.2.1 hc

theorem half_begin {U Y y1 y0 u1 : Nat} (f : HalfFits U Y y1 y0 u1) (hk : 4294967296 ≤ 2 * y1) : HalfInv U Y y1 u1 (U / y1) (U % y1) := by
  obtain ⟨hY, h0, hy0, hy1, hU, hu⟩ := f
  have hm : U % y1 < y1 := Nat.mod_lt _ (by omega)
  refine ⟨by rw [Nat.mul_comm]; exact Nat.div_add_mod U y1, half_ge hY (by omega) hu, by omega, half_start hY hU (by omega) hy0 hk⟩

set_option maxHeartbeats 8000000 in
/-- Div64 behind its shift: all the numbers are given, with what the walk needs of them. -/
theorem div64_core (hi lo y s t Y y1 y0 A C U L u1 u0 q0 r0 R p rg : Nat) (w : World) (v1' v2' : Nat)
    (c1 : ∀ w, Calls Try.prog 30 #[.int .u64 (y : Int)] w fun e w' => e = .returned (.int .i64 (s : Int)) ∧ w = w')
    (n1 : ((y : Int) == 0) = false) (n2 : ¬ (y : Int) ≤ (hi : Int)) (n3 : ((hi : Int) == 0) = false) (n4 : ¬ (y1 : Int) = 0) (hs : s ≤ 63) (ht : t ≤ 64)
    (ws : IntKind.u64.wrap (s : Int) = (s : Int)) (wY : IntKind.u64.wrap ((y : Int) * 2 ^ s) = (Y : Int)) (w1 : (Y : Int) / 4294967296 = (y1 : Int)) (w0 : bits .and .u64 (Y : Int) 4294967295 = (y0 : Int))
    (wA : IntKind.u64.wrap ((hi : Int) * 2 ^ s) = (A : Int)) (wt : IntKind.u64.wrap (64 - (s : Int)) = (t : Int)) (wC : (lo : Int) / 2 ^ t = (C : Int)) (wU : bits .or .u64 (A : Int) (C : Int) = (U : Int))
    (wL : IntKind.u64.wrap ((lo : Int) * 2 ^ s) = (L : Int)) (v1 : (L : Int) / 4294967296 = (u1 : Int)) (v0 : bits .and .u64 (L : Int) 4294967295 = (u0 : Int))
    (wq : (U : Int) / (y1 : Int) = (q0 : Int)) (wq' : IntKind.u64.wrap (q0 : Int) = (q0 : Int)) (wr : IntKind.u64.wrap ((U : Int) - IntKind.u64.wrap ((q0 : Int) * (y1 : Int))) = (r0 : Int))
    (f1 : HalfFits U Y y1 y0 u1) (i1 : HalfInv U Y y1 u1 q0 r0) (f2 : HalfFits R Y y1 y0 u0) (i2 : HalfInv R Y y1 u0 p rg)
    (Q1 Q2 : Nat) (hQ1 : (U * 4294967296 + u1) / Y = Q1) (hQ2 : (R * 4294967296 + u0) / Y = Q2)
    (wR : IntKind.u64.wrap (IntKind.u64.wrap (IntKind.u64.wrap ((U : Int) * 4294967296) + (u1 : Int)) - IntKind.u64.wrap ((Q1 : Int) * (Y : Int))) = (R : Int))
    (wp : (R : Int) / (y1 : Int) = (p : Int)) (wp' : IntKind.u64.wrap (p : Int) = (p : Int)) (wg : IntKind.u64.wrap ((R : Int) - IntKind.u64.wrap ((p : Int) * (y1 : Int))) = (rg : Int))
    (e1 : IntKind.u64.wrap (IntKind.u64.wrap ((Q1 : Int) * 4294967296) + (Q2 : Int)) = (v1' : Int))
    (e2 : IntKind.u64.wrap (IntKind.u64.wrap (IntKind.u64.wrap ((R : Int) * 4294967296) + (u0 : Int)) - IntKind.u64.wrap ((Q2 : Int) * (Y : Int))) / 2 ^ s = (v2' : Int)) :
    Calls Try.prog 29 #[.int .u64 (hi : Int), .int .u64 (lo : Int), .int .u64 (y : Int)] w fun e w' => e = .returned (.tuple #[.int .u64 (v1' : Int), .int .u64 (v2' : Int)]) ∧ w' = w := by
  have C1 : Hid (∀ w, Calls Try.prog 30 #[.int .u64 (y : Int)] w fun e w' => e = .returned (.int .i64 (s : Int)) ∧ w = w') := c1
  have F1 : Hid (HalfFits U Y y1 y0 u1) := f1
  have F2 : Hid (HalfFits R Y y1 y0 u0) := f2
  have I1 : Hid (HalfInv U Y y1 u1 q0 r0) := i1
  have I2 : Hid (HalfInv R Y y1 u0 p rg) := i2
  have E1 : Hid ((U * 4294967296 + u1) / Y = Q1) := hQ1
  have E2 : Hid ((R * 4294967296 + u0) / Y = Q2) := hQ2
  clear c1 f1 f2 i1 i2 hQ1 hQ2
  go_enter Try.func29, Try.ntmps29
  go_wp2_with fail
  refine (C1.out _).mono ?_
  rintro e w' ⟨rfl, rfl⟩
  go_wp2
  clear n1 n2 n3 ws wY w1 w0 wA wt wC wU wL v1 v0 wq wq' wr
  go_loop [15, 16] (fun a b => ∃ q rh : Nat, a = .int .u64 (q : Int) ∧ b = .int .u64 (rh : Int) ∧ HalfInv U Y y1 u1 q rh) (fun a _ => (intOf a).toNat)
  case atStart => exact ⟨q0, r0, rfl, rfl, I1.out⟩
  case round =>
    obtain ⟨q, rh, rfl, rfl, hinv⟩ := hrel
    have HI : Hid (HalfInv U Y y1 u1 q rh) := hinv
    clear hinv
    by_cases hA : 4294967296 ≤ q
    · have hA' : (4294967296 : Int) ≤ (q : Int) := by omega
      have hdec := half_down F1.out HI.out (.inl hA)
      obtain ⟨q', r', wq1, wr1, hnx, hbk, hq1⟩ := hdec
      by_cases hC : 4294967296 ≤ r'
      · have hC' : (4294967296 : Int) ≤ (r' : Int) := by omega
        have he := (hbk hC).trans E1.out
        subst he
        clear hA hC hnx hbk hq1
        clear HI
        go_wp2
        go_loop [18, 16] (fun a b => ∃ q rh : Nat, a = .int .u64 (q : Int) ∧ b = .int .u64 (rh : Int) ∧ HalfInv R Y y1 u0 q rh) (fun a _ => (intOf a).toNat)
        case atStart => exact ⟨p, rg, rfl, rfl, I2.out⟩
        case round =>
          obtain ⟨q, rh, rfl, rfl, hinv⟩ := hrel
          have HI : Hid (HalfInv R Y y1 u0 q rh) := hinv
          clear hinv
          by_cases hA : 4294967296 ≤ q
          · have hA' : (4294967296 : Int) ≤ (q : Int) := by omega
            have hdec := half_down F2.out HI.out (.inl hA)
            obtain ⟨q', r', wq1, wr1, hnx, hbk, hq1⟩ := hdec
            by_cases hC : 4294967296 ≤ r'
            · have hC' : (4294967296 : Int) ≤ (r' : Int) := by omega
              have he := (hbk hC).trans E2.out
              subst he
              clear hA hC hnx hbk hq1
              go_wp2
              go_ret2
              exact ⟨rfl, rfl⟩
            · have hC' : decide ((4294967296 : Int) ≤ (r' : Int)) = false := decide_eq_false (by omega)
              have HN : Hid (HalfInv R Y y1 u0 q' r') := hnx (by omega)
              have HQ : Hid (q' < q) := hq1
              clear hnx hbk hq1 hA hC
              go_wp2
              go_round
              case rel => exact ⟨q', r', rfl, rfl, HN.out⟩
              case measure => have := HQ.out; simp [intOf]; omega
          · obtain ⟨pp, T, hp, hT, hcmp⟩ := half_test F2.out HI.out hA
            have hA' : decide ((4294967296 : Int) ≤ (q : Int)) = false := decide_eq_false (by omega)
            by_cases hB : T < pp
            · have hB' : (T : Int) < (pp : Int) := by omega
              have hdec := half_down F2.out HI.out (.inr (hcmp.1 hB))
              clear hcmp hB
              obtain ⟨q', r', wq1, wr1, hnx, hbk, hq1⟩ := hdec
              by_cases hC : 4294967296 ≤ r'
              · have hC' : (4294967296 : Int) ≤ (r' : Int) := by omega
                have he := (hbk hC).trans E2.out
                subst he
                clear hA hC hnx hbk hq1
                go_wp2
                go_ret2
                exact ⟨rfl, rfl⟩
              · have hC' : decide ((4294967296 : Int) ≤ (r' : Int)) = false := decide_eq_false (by omega)
                have HN : Hid (HalfInv R Y y1 u0 q' r') := hnx (by omega)
                have HQ : Hid (q' < q) := hq1
                clear hnx hbk hq1 hA hC
                go_wp2
                go_round
                case rel => exact ⟨q', r', rfl, rfl, HN.out⟩
                case measure => have := HQ.out; simp [intOf]; omega
            · have hB' : ¬ (T : Int) < (pp : Int) := by omega
              have he := (half_out F2.out HI.out (hcmp.2 hB)).trans E2.out
              subst he
              clear hA hB hcmp
              go_wp2
              go_ret2
              exact ⟨rfl, rfl⟩
      · have hC' : decide ((4294967296 : Int) ≤ (r' : Int)) = false := decide_eq_false (by omega)
        have HN : Hid (HalfInv U Y y1 u1 q' r') := hnx (by omega)
        have HQ : Hid (q' < q) := hq1
        clear hnx hbk hq1 hA hC
        go_wp2
        go_round
        case rel => exact ⟨q', r', rfl, rfl, HN.out⟩
        case measure => have := HQ.out; simp [intOf]; omega
    · obtain ⟨pp, T, hp, hT, hcmp⟩ := half_test F1.out HI.out hA
      have hA' : decide ((4294967296 : Int) ≤ (q : Int)) = false := decide_eq_false (by omega)
      by_cases hB : T < pp
      · have hB' : (T : Int) < (pp : Int) := by omega
        have hdec := half_down F1.out HI.out (.inr (hcmp.1 hB))
        clear hcmp hB
        obtain ⟨q', r', wq1, wr1, hnx, hbk, hq1⟩ := hdec
        by_cases hC : 4294967296 ≤ r'
        · have hC' : (4294967296 : Int) ≤ (r' : Int) := by omega
          have he := (hbk hC).trans E1.out
          subst he
          clear hA hC hnx hbk hq1
          clear HI
          go_wp2
          go_loop [18, 16] (fun a b => ∃ q rh : Nat, a = .int .u64 (q : Int) ∧ b = .int .u64 (rh : Int) ∧ HalfInv R Y y1 u0 q rh) (fun a _ => (intOf a).toNat)
          case atStart => exact ⟨p, rg, rfl, rfl, I2.out⟩
          case round =>
            obtain ⟨q, rh, rfl, rfl, hinv⟩ := hrel
            have HI : Hid (HalfInv R Y y1 u0 q rh) := hinv
            clear hinv
            by_cases hA : 4294967296 ≤ q
            · have hA' : (4294967296 : Int) ≤ (q : Int) := by omega
              have hdec := half_down F2.out HI.out (.inl hA)
              obtain ⟨q', r', wq1, wr1, hnx, hbk, hq1⟩ := hdec
              by_cases hC : 4294967296 ≤ r'
              · have hC' : (4294967296 : Int) ≤ (r' : Int) := by omega
                have he := (hbk hC).trans E2.out
                subst he
                clear hA hC hnx hbk hq1
                go_wp2
                go_ret2
                exact ⟨rfl, rfl⟩
              · have hC' : decide ((4294967296 : Int) ≤ (r' : Int)) = false := decide_eq_false (by omega)
                have HN : Hid (HalfInv R Y y1 u0 q' r') := hnx (by omega)
                have HQ : Hid (q' < q) := hq1
                clear hnx hbk hq1 hA hC
                go_wp2
                go_round
                case rel => exact ⟨q', r', rfl, rfl, HN.out⟩
                case measure => have := HQ.out; simp [intOf]; omega
            · obtain ⟨pp, T, hp, hT, hcmp⟩ := half_test F2.out HI.out hA
              have hA' : decide ((4294967296 : Int) ≤ (q : Int)) = false := decide_eq_false (by omega)
              by_cases hB : T < pp
              · have hB' : (T : Int) < (pp : Int) := by omega
                have hdec := half_down F2.out HI.out (.inr (hcmp.1 hB))
                clear hcmp hB
                obtain ⟨q', r', wq1, wr1, hnx, hbk, hq1⟩ := hdec
                by_cases hC : 4294967296 ≤ r'
                · have hC' : (4294967296 : Int) ≤ (r' : Int) := by omega
                  have he := (hbk hC).trans E2.out
                  subst he
                  clear hA hC hnx hbk hq1
                  go_wp2
                  go_ret2
                  exact ⟨rfl, rfl⟩
                · have hC' : decide ((4294967296 : Int) ≤ (r' : Int)) = false := decide_eq_false (by omega)
                  have HN : Hid (HalfInv R Y y1 u0 q' r') := hnx (by omega)
                  have HQ : Hid (q' < q) := hq1
                  clear hnx hbk hq1 hA hC
                  go_wp2
                  go_round
                  case rel => exact ⟨q', r', rfl, rfl, HN.out⟩
                  case measure => have := HQ.out; simp [intOf]; omega
              · have hB' : ¬ (T : Int) < (pp : Int) := by omega
                have he := (half_out F2.out HI.out (hcmp.2 hB)).trans E2.out
                subst he
                clear hA hB hcmp
                go_wp2
                go_ret2
                exact ⟨rfl, rfl⟩
        · have hC' : decide ((4294967296 : Int) ≤ (r' : Int)) = false := decide_eq_false (by omega)
          have HN : Hid (HalfInv U Y y1 u1 q' r') := hnx (by omega)
          have HQ : Hid (q' < q) := hq1
          clear hnx hbk hq1 hA hC
          go_wp2
          go_round
          case rel => exact ⟨q', r', rfl, rfl, HN.out⟩
          case measure => have := HQ.out; simp [intOf]; omega
      · have hB' : ¬ (T : Int) < (pp : Int) := by omega
        have he := (half_out F1.out HI.out (hcmp.2 hB)).trans E1.out
        subst he
        clear hA hB hcmp
        clear HI
        go_wp2
        go_loop [18, 16] (fun a b => ∃ q rh : Nat, a = .int .u64 (q : Int) ∧ b = .int .u64 (rh : Int) ∧ HalfInv R Y y1 u0 q rh) (fun a _ => (intOf a).toNat)
        case atStart => exact ⟨p, rg, rfl, rfl, I2.out⟩
        case round =>
          obtain ⟨q, rh, rfl, rfl, hinv⟩ := hrel
          have HI : Hid (HalfInv R Y y1 u0 q rh) := hinv
          clear hinv
          by_cases hA : 4294967296 ≤ q
          · have hA' : (4294967296 : Int) ≤ (q : Int) := by omega
            have hdec := half_down F2.out HI.out (.inl hA)
            obtain ⟨q', r', wq1, wr1, hnx, hbk, hq1⟩ := hdec
            by_cases hC : 4294967296 ≤ r'
            · have hC' : (4294967296 : Int) ≤ (r' : Int) := by omega
              have he := (hbk hC).trans E2.out
              subst he
              clear hA hC hnx hbk hq1
              go_wp2
              go_ret2
              exact ⟨rfl, rfl⟩
            · have hC' : decide ((4294967296 : Int) ≤ (r' : Int)) = false := decide_eq_false (by omega)
              have HN : Hid (HalfInv R Y y1 u0 q' r') := hnx (by omega)
              have HQ : Hid (q' < q) := hq1
              clear hnx hbk hq1 hA hC
              go_wp2
              go_round
              case rel => exact ⟨q', r', rfl, rfl, HN.out⟩
              case measure => have := HQ.out; simp [intOf]; omega
          · obtain ⟨pp, T, hp, hT, hcmp⟩ := half_test F2.out HI.out hA
            have hA' : decide ((4294967296 : Int) ≤ (q : Int)) = false := decide_eq_false (by omega)
            by_cases hB : T < pp
            · have hB' : (T : Int) < (pp : Int) := by omega
              have hdec := half_down F2.out HI.out (.inr (hcmp.1 hB))
              clear hcmp hB
              obtain ⟨q', r', wq1, wr1, hnx, hbk, hq1⟩ := hdec
              by_cases hC : 4294967296 ≤ r'
              · have hC' : (4294967296 : Int) ≤ (r' : Int) := by omega
                have he := (hbk hC).trans E2.out
                subst he
                clear hA hC hnx hbk hq1
                go_wp2
                go_ret2
                exact ⟨rfl, rfl⟩
              · have hC' : decide ((4294967296 : Int) ≤ (r' : Int)) = false := decide_eq_false (by omega)
                have HN : Hid (HalfInv R Y y1 u0 q' r') := hnx (by omega)
                have HQ : Hid (q' < q) := hq1
                clear hnx hbk hq1 hA hC
                go_wp2
                go_round
                case rel => exact ⟨q', r', rfl, rfl, HN.out⟩
                case measure => have := HQ.out; simp [intOf]; omega
            · have hB' : ¬ (T : Int) < (pp : Int) := by omega
              have he := (half_out F2.out HI.out (hcmp.2 hB)).trans E2.out
              subst he
              clear hA hB hcmp
              go_wp2
              go_ret2
              exact ⟨rfl, rfl⟩

end Go.Proofs.Ytpiloigpncbccaa
