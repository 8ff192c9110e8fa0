/-
  What math/bits.Div64 does, walked through the library's own text.
  What math/bits.Div64 does: the quotient and the rest of two limbs by one.
  What nat.divLimb does: a list divided by one limb.
  What nat.DivMod does where the divisor is nought, longer than the dividend, or one limb long.
-/
import Derived.Test.YtifpacgacbpalaaGreatDoorBits
import Derived.Test.YtifpacgacbpalaaGreatDoorZQ21
import Derived.Deep.QuietTactic
import Derived.BigQuiet
import Derived.Test.YtifpacgacbpalaaGreatDoorUint
import Derived.Test.YtifpacgacbpalaaGreatDoorShift
import Derived.Test.YtifpacgacbpalaaGreatDoorZMul
namespace Go.Proofs.YtifpacgacbpalaaGreatDoor
open Go.RowKit

set_option maxHeartbeats 2000000 in
theorem div64_short (lo y : Nat) (w : World) (hy : 0 < y) (hlo : lo < B64) :
    Calls Tryz.prog 167 #[.int .u64 0, .int .u64 (lo : Int), .int .u64 (y : Int)] w fun e w' => e = .returned (.tuple #[.int .u64 ((lo / y : Nat) : Int), .int .u64 ((lo % y : Nat) : Int)]) ∧ Like w' w := by
  have h1 : ((y : Int) == 0) = false := by rw [beq_eq_false_iff_ne]; omega
  have h2 : ¬ (y : Int) ≤ 0 := by omega
  have h3 : ¬ (y : Int) = 0 := by omega
  go_enter Tryz.func167, Tryz.ntmps167
  go_wp2
  go_quiet (fail)
  go_wp2
  go_ret2
  refine ⟨?_, rfl, rfl, rfl, rfl⟩
  show Ending.returned (.tuple #[.int .u64 (IntKind.u64.wrap ((lo : Int) / (y : Int))), .int .u64 ((lo : Int) % (y : Int))]) = _
  rw [← Int.natCast_ediv, ← Int.natCast_emod, wrapLt _ (Nat.lt_of_le_of_lt (Nat.div_le_self _ _) hlo)]


/-- What holds at the head of Div64's loops: q digits are guessed, rh is what is left of them; the guess is not too low. -/
def HalfInv (U Y y1 u1 q rh : Nat) : Prop := q * y1 + rh = U ∧ (U * 4294967296 + u1) / Y ≤ q ∧ rh < 4294967296 ∧ q ≤ 4294967297

/-- What is known of the divisor and of the digits that are divided. -/
def HalfFits (U Y y1 y0 u1 : Nat) : Prop := Y = y1 * 4294967296 + y0 ∧ 0 < Y ∧ y0 < 4294967296 ∧ y1 < 4294967296 ∧ U < Y ∧ u1 < 4294967296

theorem half_test {U Y y1 y0 u1 q rh : Nat} (f : HalfFits U Y y1 y0 u1) (h : HalfInv U Y y1 u1 q rh) (hq : ¬ 4294967296 ≤ q) :
    ∃ pp T : Nat, IntKind.u64.wrap ((q : Int) * (y0 : Int)) = (pp : Int) ∧ IntKind.u64.wrap (IntKind.u64.wrap (4294967296 * (rh : Int)) + (u1 : Int)) = (T : Int) ∧
      ((T < pp → 4294967296 * rh + u1 < q * y0) ∧ (¬ T < pp → q * y0 ≤ 4294967296 * rh + u1)) := by
  obtain ⟨_, _, hy0, _, _, hu⟩ := f
  obtain ⟨_, _, hr, _⟩ := h
  have hp : q * y0 ≤ 4294967295 * 4294967295 := Nat.mul_le_mul (by omega) (by omega)
  refine ⟨q * y0, 4294967296 * rh + u1, ?_, ?_, id, by omega⟩
  · rw [natMul, wrapLt _ (by omega)]
  · rw [show (4294967296 : Int) * (rh : Int) = ((4294967296 * rh : Nat) : Int) from (Int.natCast_mul 4294967296 rh).symm, wrapLt _ (by omega), natAdd, wrapLt _ (by omega)]

theorem half_down {U Y y1 y0 u1 q rh : Nat} (f : HalfFits U Y y1 y0 u1) (h : HalfInv U Y y1 u1 q rh) (hc : 4294967296 ≤ q ∨ 4294967296 * rh + u1 < q * y0) :
    ∃ q' r' : Nat, IntKind.u64.wrap ((q : Int) - 1) = (q' : Int) ∧ IntKind.u64.wrap ((rh : Int) + (y1 : Int)) = (r' : Int) ∧
      (r' < 4294967296 → HalfInv U Y y1 u1 q' r') ∧ (4294967296 ≤ r' → q' = (U * 4294967296 + u1) / Y) ∧ q' < q := by
  obtain ⟨hY, h0, hy0, hy1, hU, hu⟩ := f
  obtain ⟨hi, hg, hr, hq⟩ := h
  have hd := half_dec hY h0 hU hu hi hc
  obtain ⟨q', rfl⟩ : ∃ q', q = q' + 1 := ⟨q - 1, by have := Nat.le_trans (Nat.le_add_left 1 _) hd; omega⟩
  have hd' : (U * 4294967296 + u1) / Y ≤ q' := Nat.le_of_succ_le_succ hd
  refine ⟨q', rh + y1, ?_, ?_, fun h => ⟨?_, hd', h, by omega⟩, fun h => half_break hY h0 hy0 hi hd' (by omega) h, by omega⟩
  · rw [show ((q' + 1 : Nat) : Int) - 1 = (q' : Int) by omega, wrapLt _ (by omega)]
  · rw [natAdd, wrapLt _ (by omega)]
  · rw [Nat.add_mul, Nat.one_mul] at hi; omega

theorem half_out {U Y y1 y0 u1 q rh : Nat} (f : HalfFits U Y y1 y0 u1) (h : HalfInv U Y y1 u1 q rh) (hc : q * y0 ≤ 4294967296 * rh + u1) : q = (U * 4294967296 + u1) / Y :=
  half_exit f.1 f.2.1 h.1 h.2.1 hc

theorem half_begin {U Y y1 y0 u1 : Nat} (f : HalfFits U Y y1 y0 u1) (hk : 4294967296 ≤ 2 * y1) : HalfInv U Y y1 u1 (U / y1) (U % y1) := by
  obtain ⟨hY, h0, hy0, hy1, hU, hu⟩ := f
  have hm : U % y1 < y1 := Nat.mod_lt _ (by omega)
  refine ⟨by rw [Nat.mul_comm]; exact Nat.div_add_mod U y1, half_ge hY (by omega) hu, by omega, half_start hY hU (by omega) hy0 hk⟩

set_option maxHeartbeats 8000000 in
/-- Div64 behind its shift: all the numbers are given, with what the walk needs of them. -/
theorem div64_core (hi lo y s t Y y1 y0 A C U L u1 u0 q0 r0 R p rg : Nat) (w : World) (v1' v2' : Nat)
    (c1 : ∀ w, Calls Tryz.prog 168 #[.int .u64 (y : Int)] w fun e w' => e = .returned (.int .i64 (s : Int)) ∧ w = w')
    (n1 : ((y : Int) == 0) = false) (n2 : ¬ (y : Int) ≤ (hi : Int)) (n3 : ((hi : Int) == 0) = false) (n4 : ¬ (y1 : Int) = 0) (hs : s ≤ 63) (ht : t ≤ 64)
    (ws : IntKind.u64.wrap (s : Int) = (s : Int)) (wY : IntKind.u64.wrap ((y : Int) * 2 ^ s) = (Y : Int)) (w1 : (Y : Int) / 4294967296 = (y1 : Int)) (w0 : bits .and .u64 (Y : Int) 4294967295 = (y0 : Int))
    (wA : IntKind.u64.wrap ((hi : Int) * 2 ^ s) = (A : Int)) (wt : IntKind.u64.wrap (64 - (s : Int)) = (t : Int)) (wC : (lo : Int) / 2 ^ t = (C : Int)) (wU : bits .or .u64 (A : Int) (C : Int) = (U : Int))
    (wL : IntKind.u64.wrap ((lo : Int) * 2 ^ s) = (L : Int)) (v1 : (L : Int) / 4294967296 = (u1 : Int)) (v0 : bits .and .u64 (L : Int) 4294967295 = (u0 : Int))
    (wq : (U : Int) / (y1 : Int) = (q0 : Int)) (wq' : IntKind.u64.wrap (q0 : Int) = (q0 : Int)) (wr : IntKind.u64.wrap ((U : Int) - IntKind.u64.wrap ((q0 : Int) * (y1 : Int))) = (r0 : Int))
    (f1 : HalfFits U Y y1 y0 u1) (i1 : HalfInv U Y y1 u1 q0 r0) (f2 : HalfFits R Y y1 y0 u0) (i2 : HalfInv R Y y1 u0 p rg)
    (Q1 Q2 : Nat) (hQ1 : (U * 4294967296 + u1) / Y = Q1) (hQ2 : (R * 4294967296 + u0) / Y = Q2)
    (wR : IntKind.u64.wrap (IntKind.u64.wrap (IntKind.u64.wrap ((U : Int) * 4294967296) + (u1 : Int)) - IntKind.u64.wrap ((Q1 : Int) * (Y : Int))) = (R : Int))
    (wp : (R : Int) / (y1 : Int) = (p : Int)) (wp' : IntKind.u64.wrap (p : Int) = (p : Int)) (wg : IntKind.u64.wrap ((R : Int) - IntKind.u64.wrap ((p : Int) * (y1 : Int))) = (rg : Int))
    (e1 : IntKind.u64.wrap (IntKind.u64.wrap ((Q1 : Int) * 4294967296) + (Q2 : Int)) = (v1' : Int))
    (e2 : IntKind.u64.wrap (IntKind.u64.wrap (IntKind.u64.wrap ((R : Int) * 4294967296) + (u0 : Int)) - IntKind.u64.wrap ((Q2 : Int) * (Y : Int))) / 2 ^ s = (v2' : Int)) :
    Calls Tryz.prog 167 #[.int .u64 (hi : Int), .int .u64 (lo : Int), .int .u64 (y : Int)] w fun e w' => e = .returned (.tuple #[.int .u64 (v1' : Int), .int .u64 (v2' : Int)]) ∧ w' = w := by
  have C1 : Hid (∀ w, Calls Tryz.prog 168 #[.int .u64 (y : Int)] w fun e w' => e = .returned (.int .i64 (s : Int)) ∧ w = w') := c1
  have F1 : Hid (HalfFits U Y y1 y0 u1) := f1
  have F2 : Hid (HalfFits R Y y1 y0 u0) := f2
  have I1 : Hid (HalfInv U Y y1 u1 q0 r0) := i1
  have I2 : Hid (HalfInv R Y y1 u0 p rg) := i2
  have E1 : Hid ((U * 4294967296 + u1) / Y = Q1) := hQ1
  have E2 : Hid ((R * 4294967296 + u0) / Y = Q2) := hQ2
  clear c1 f1 f2 i1 i2 hQ1 hQ2
  go_enter Tryz.func167, Tryz.ntmps167
  go_wp2_with fail
  refine (C1.out _).mono ?_
  rintro e w' ⟨rfl, rfl⟩
  go_wp2
  clear n1 n2 n3 ws wY w1 w0 wA wt wC wU wL v1 v0 wq wq' wr
  go_loop [15, 16] (fun a b => ∃ q rh : Nat, a = .int .u64 (q : Int) ∧ b = .int .u64 (rh : Int) ∧ HalfInv U Y y1 u1 q rh) (fun a _ => (intOf a).toNat)
  case atStart => exact ⟨q0, r0, rfl, rfl, I1.out⟩
  case round =>
    obtain ⟨q, rh, rfl, rfl, hinv⟩ := hrel
    have HI : Hid (HalfInv U Y y1 u1 q rh) := hinv
    clear hinv
    by_cases hA : 4294967296 ≤ q
    · have hA' : (4294967296 : Int) ≤ (q : Int) := by omega
      have hdec := half_down F1.out HI.out (.inl hA)
      obtain ⟨q', r', wq1, wr1, hnx, hbk, hq1⟩ := hdec
      by_cases hC : 4294967296 ≤ r'
      · have hC' : (4294967296 : Int) ≤ (r' : Int) := by omega
        have he := (hbk hC).trans E1.out
        subst he
        clear hA hC hnx hbk hq1
        clear HI
        go_wp2
        go_loop [18, 16] (fun a b => ∃ q rh : Nat, a = .int .u64 (q : Int) ∧ b = .int .u64 (rh : Int) ∧ HalfInv R Y y1 u0 q rh) (fun a _ => (intOf a).toNat)
        case atStart => exact ⟨p, rg, rfl, rfl, I2.out⟩
        case round =>
          obtain ⟨q, rh, rfl, rfl, hinv⟩ := hrel
          have HI : Hid (HalfInv R Y y1 u0 q rh) := hinv
          clear hinv
          by_cases hA : 4294967296 ≤ q
          · have hA' : (4294967296 : Int) ≤ (q : Int) := by omega
            have hdec := half_down F2.out HI.out (.inl hA)
            obtain ⟨q', r', wq1, wr1, hnx, hbk, hq1⟩ := hdec
            by_cases hC : 4294967296 ≤ r'
            · have hC' : (4294967296 : Int) ≤ (r' : Int) := by omega
              have he := (hbk hC).trans E2.out
              subst he
              clear hA hC hnx hbk hq1
              go_wp2
              go_ret2
              exact ⟨rfl, rfl⟩
            · have hC' : decide ((4294967296 : Int) ≤ (r' : Int)) = false := decide_eq_false (by omega)
              have HN : Hid (HalfInv R Y y1 u0 q' r') := hnx (by omega)
              have HQ : Hid (q' < q) := hq1
              clear hnx hbk hq1 hA hC
              go_wp2
              go_round
              case rel => exact ⟨q', r', rfl, rfl, HN.out⟩
              case measure => have := HQ.out; simp [intOf]; omega
          · obtain ⟨pp, T, hp, hT, hcmp⟩ := half_test F2.out HI.out hA
            have hA' : decide ((4294967296 : Int) ≤ (q : Int)) = false := decide_eq_false (by omega)
            by_cases hB : T < pp
            · have hB' : (T : Int) < (pp : Int) := by omega
              have hdec := half_down F2.out HI.out (.inr (hcmp.1 hB))
              clear hcmp hB
              obtain ⟨q', r', wq1, wr1, hnx, hbk, hq1⟩ := hdec
              by_cases hC : 4294967296 ≤ r'
              · have hC' : (4294967296 : Int) ≤ (r' : Int) := by omega
                have he := (hbk hC).trans E2.out
                subst he
                clear hA hC hnx hbk hq1
                go_wp2
                go_ret2
                exact ⟨rfl, rfl⟩
              · have hC' : decide ((4294967296 : Int) ≤ (r' : Int)) = false := decide_eq_false (by omega)
                have HN : Hid (HalfInv R Y y1 u0 q' r') := hnx (by omega)
                have HQ : Hid (q' < q) := hq1
                clear hnx hbk hq1 hA hC
                go_wp2
                go_round
                case rel => exact ⟨q', r', rfl, rfl, HN.out⟩
                case measure => have := HQ.out; simp [intOf]; omega
            · have hB' : ¬ (T : Int) < (pp : Int) := by omega
              have he := (half_out F2.out HI.out (hcmp.2 hB)).trans E2.out
              subst he
              clear hA hB hcmp
              go_wp2
              go_ret2
              exact ⟨rfl, rfl⟩
      · have hC' : decide ((4294967296 : Int) ≤ (r' : Int)) = false := decide_eq_false (by omega)
        have HN : Hid (HalfInv U Y y1 u1 q' r') := hnx (by omega)
        have HQ : Hid (q' < q) := hq1
        clear hnx hbk hq1 hA hC
        go_wp2
        go_round
        case rel => exact ⟨q', r', rfl, rfl, HN.out⟩
        case measure => have := HQ.out; simp [intOf]; omega
    · obtain ⟨pp, T, hp, hT, hcmp⟩ := half_test F1.out HI.out hA
      have hA' : decide ((4294967296 : Int) ≤ (q : Int)) = false := decide_eq_false (by omega)
      by_cases hB : T < pp
      · have hB' : (T : Int) < (pp : Int) := by omega
        have hdec := half_down F1.out HI.out (.inr (hcmp.1 hB))
        clear hcmp hB
        obtain ⟨q', r', wq1, wr1, hnx, hbk, hq1⟩ := hdec
        by_cases hC : 4294967296 ≤ r'
        · have hC' : (4294967296 : Int) ≤ (r' : Int) := by omega
          have he := (hbk hC).trans E1.out
          subst he
          clear hA hC hnx hbk hq1
          clear HI
          go_wp2
          go_loop [18, 16] (fun a b => ∃ q rh : Nat, a = .int .u64 (q : Int) ∧ b = .int .u64 (rh : Int) ∧ HalfInv R Y y1 u0 q rh) (fun a _ => (intOf a).toNat)
          case atStart => exact ⟨p, rg, rfl, rfl, I2.out⟩
          case round =>
            obtain ⟨q, rh, rfl, rfl, hinv⟩ := hrel
            have HI : Hid (HalfInv R Y y1 u0 q rh) := hinv
            clear hinv
            by_cases hA : 4294967296 ≤ q
            · have hA' : (4294967296 : Int) ≤ (q : Int) := by omega
              have hdec := half_down F2.out HI.out (.inl hA)
              obtain ⟨q', r', wq1, wr1, hnx, hbk, hq1⟩ := hdec
              by_cases hC : 4294967296 ≤ r'
              · have hC' : (4294967296 : Int) ≤ (r' : Int) := by omega
                have he := (hbk hC).trans E2.out
                subst he
                clear hA hC hnx hbk hq1
                go_wp2
                go_ret2
                exact ⟨rfl, rfl⟩
              · have hC' : decide ((4294967296 : Int) ≤ (r' : Int)) = false := decide_eq_false (by omega)
                have HN : Hid (HalfInv R Y y1 u0 q' r') := hnx (by omega)
                have HQ : Hid (q' < q) := hq1
                clear hnx hbk hq1 hA hC
                go_wp2
                go_round
                case rel => exact ⟨q', r', rfl, rfl, HN.out⟩
                case measure => have := HQ.out; simp [intOf]; omega
            · obtain ⟨pp, T, hp, hT, hcmp⟩ := half_test F2.out HI.out hA
              have hA' : decide ((4294967296 : Int) ≤ (q : Int)) = false := decide_eq_false (by omega)
              by_cases hB : T < pp
              · have hB' : (T : Int) < (pp : Int) := by omega
                have hdec := half_down F2.out HI.out (.inr (hcmp.1 hB))
                clear hcmp hB
                obtain ⟨q', r', wq1, wr1, hnx, hbk, hq1⟩ := hdec
                by_cases hC : 4294967296 ≤ r'
                · have hC' : (4294967296 : Int) ≤ (r' : Int) := by omega
                  have he := (hbk hC).trans E2.out
                  subst he
                  clear hA hC hnx hbk hq1
                  go_wp2
                  go_ret2
                  exact ⟨rfl, rfl⟩
                · have hC' : decide ((4294967296 : Int) ≤ (r' : Int)) = false := decide_eq_false (by omega)
                  have HN : Hid (HalfInv R Y y1 u0 q' r') := hnx (by omega)
                  have HQ : Hid (q' < q) := hq1
                  clear hnx hbk hq1 hA hC
                  go_wp2
                  go_round
                  case rel => exact ⟨q', r', rfl, rfl, HN.out⟩
                  case measure => have := HQ.out; simp [intOf]; omega
              · have hB' : ¬ (T : Int) < (pp : Int) := by omega
                have he := (half_out F2.out HI.out (hcmp.2 hB)).trans E2.out
                subst he
                clear hA hB hcmp
                go_wp2
                go_ret2
                exact ⟨rfl, rfl⟩
        · have hC' : decide ((4294967296 : Int) ≤ (r' : Int)) = false := decide_eq_false (by omega)
          have HN : Hid (HalfInv U Y y1 u1 q' r') := hnx (by omega)
          have HQ : Hid (q' < q) := hq1
          clear hnx hbk hq1 hA hC
          go_wp2
          go_round
          case rel => exact ⟨q', r', rfl, rfl, HN.out⟩
          case measure => have := HQ.out; simp [intOf]; omega
      · have hB' : ¬ (T : Int) < (pp : Int) := by omega
        have he := (half_out F1.out HI.out (hcmp.2 hB)).trans E1.out
        subst he
        clear hA hB hcmp
        clear HI
        go_wp2
        go_loop [18, 16] (fun a b => ∃ q rh : Nat, a = .int .u64 (q : Int) ∧ b = .int .u64 (rh : Int) ∧ HalfInv R Y y1 u0 q rh) (fun a _ => (intOf a).toNat)
        case atStart => exact ⟨p, rg, rfl, rfl, I2.out⟩
        case round =>
          obtain ⟨q, rh, rfl, rfl, hinv⟩ := hrel
          have HI : Hid (HalfInv R Y y1 u0 q rh) := hinv
          clear hinv
          by_cases hA : 4294967296 ≤ q
          · have hA' : (4294967296 : Int) ≤ (q : Int) := by omega
            have hdec := half_down F2.out HI.out (.inl hA)
            obtain ⟨q', r', wq1, wr1, hnx, hbk, hq1⟩ := hdec
            by_cases hC : 4294967296 ≤ r'
            · have hC' : (4294967296 : Int) ≤ (r' : Int) := by omega
              have he := (hbk hC).trans E2.out
              subst he
              clear hA hC hnx hbk hq1
              go_wp2
              go_ret2
              exact ⟨rfl, rfl⟩
            · have hC' : decide ((4294967296 : Int) ≤ (r' : Int)) = false := decide_eq_false (by omega)
              have HN : Hid (HalfInv R Y y1 u0 q' r') := hnx (by omega)
              have HQ : Hid (q' < q) := hq1
              clear hnx hbk hq1 hA hC
              go_wp2
              go_round
              case rel => exact ⟨q', r', rfl, rfl, HN.out⟩
              case measure => have := HQ.out; simp [intOf]; omega
          · obtain ⟨pp, T, hp, hT, hcmp⟩ := half_test F2.out HI.out hA
            have hA' : decide ((4294967296 : Int) ≤ (q : Int)) = false := decide_eq_false (by omega)
            by_cases hB : T < pp
            · have hB' : (T : Int) < (pp : Int) := by omega
              have hdec := half_down F2.out HI.out (.inr (hcmp.1 hB))
              clear hcmp hB
              obtain ⟨q', r', wq1, wr1, hnx, hbk, hq1⟩ := hdec
              by_cases hC : 4294967296 ≤ r'
              · have hC' : (4294967296 : Int) ≤ (r' : Int) := by omega
                have he := (hbk hC).trans E2.out
                subst he
                clear hA hC hnx hbk hq1
                go_wp2
                go_ret2
                exact ⟨rfl, rfl⟩
              · have hC' : decide ((4294967296 : Int) ≤ (r' : Int)) = false := decide_eq_false (by omega)
                have HN : Hid (HalfInv R Y y1 u0 q' r') := hnx (by omega)
                have HQ : Hid (q' < q) := hq1
                clear hnx hbk hq1 hA hC
                go_wp2
                go_round
                case rel => exact ⟨q', r', rfl, rfl, HN.out⟩
                case measure => have := HQ.out; simp [intOf]; omega
            · have hB' : ¬ (T : Int) < (pp : Int) := by omega
              have he := (half_out F2.out HI.out (hcmp.2 hB)).trans E2.out
              subst he
              clear hA hB hcmp
              go_wp2
              go_ret2
              exact ⟨rfl, rfl⟩

end Go.Proofs.YtifpacgacbpalaaGreatDoor

namespace Go.Proofs.YtifpacgacbpalaaGreatDoor
open Go.RowKit

theorem wrap_sub3 (a u b r : Nat) (h : a + u = b + r) (hr : r < 18446744073709551616) :
    IntKind.u64.wrap (IntKind.u64.wrap (IntKind.u64.wrap (a : Int) + (u : Int)) - IntKind.u64.wrap (b : Int)) = (r : Int) := by
  simp only [IntKind.wrap_u64]; omega

theorem wrap_sub2 (a b r : Nat) (h : a = b + r) (hr : r < 18446744073709551616) (_ha : a < 18446744073709551616) :
    IntKind.u64.wrap ((a : Int) - IntKind.u64.wrap (b : Int)) = (r : Int) := by
  simp only [IntKind.wrap_u64]; omega

theorem natMulK (a : Nat) : (a : Int) * 4294967296 = ((a * 4294967296 : Nat) : Int) := (Int.natCast_mul a 4294967296).symm

/-- Two limbs, shifted up by s so that the divisor's highest bit is set. -/
theorem norm_shift {hi lo y s : Nat} (hlo : lo < 2 ^ 64) (hy : hi < y) (hs : s ≤ 64) (hY : y * 2 ^ s < 2 ^ 64) :
    hi * 2 ^ s % 2 ^ 64 = hi * 2 ^ s ∧ (hi * 2 ^ s ||| lo / 2 ^ (64 - s)) = hi * 2 ^ s + lo / 2 ^ (64 - s) ∧ hi * 2 ^ s + lo / 2 ^ (64 - s) < y * 2 ^ s ∧
    (hi * 2 ^ s + lo / 2 ^ (64 - s)) * 2 ^ 64 + lo * 2 ^ s % 2 ^ 64 = (hi * 2 ^ 64 + lo) * 2 ^ s := by
  have h1 : lo / 2 ^ (64 - s) < 2 ^ s := high_lt hs hlo
  have h2 : (hi + 1) * 2 ^ s ≤ y * 2 ^ s := Nat.mul_le_mul_right _ hy
  rw [Nat.add_mul, Nat.one_mul] at h2
  have h3 := Nat.two_pow_pos s
  refine ⟨Nat.mod_eq_of_lt (by omega), ?_, by omega, ?_⟩
  · rw [Nat.or_comm, or_low h1]; omega
  · have e := Nat.div_add_mod (lo * 2 ^ s) (2 ^ 64)
    rw [high_eq hs] at e
    rw [Nat.add_mul, Nat.add_mul, Nat.mul_right_comm hi, Nat.mul_comm (lo / 2 ^ (64 - s))]
    omega

theorem div64_any (hi lo y : Nat) (w : World) (hy : y < B64) (hlo : lo < B64) (hlt : hi < y) :
    Calls Tryz.prog 167 #[.int .u64 (hi : Int), .int .u64 (lo : Int), .int .u64 (y : Int)] w fun e w' =>
      e = .returned (.tuple #[.int .u64 (((hi * B64 + lo) / y : Nat) : Int), .int .u64 (((hi * B64 + lo) % y : Nat) : Int)]) ∧ Like w' w := by
  by_cases h0 : hi = 0
  · subst h0
    have := div64_short lo y w hlt hlo
    rw [Nat.zero_mul, Nat.zero_add]
    exact this
  · have hM : (2 : Nat) ^ 64 = 18446744073709551616 := by decide +kernel
    obtain ⟨n, hn, hn1, hn2⟩ := bitsN_spec (show y ≠ 0 by omega)
    have hbl := bitLen_bits y (by rw [← B64_pow]; exact hy)
    have hle := bitsN_le hy
    obtain ⟨s, hs⟩ : ∃ s, s = 63 - n := ⟨_, rfl⟩
    have hp : 2 ^ (n + 1) * 2 ^ s = (2 : Nat) ^ 64 := by rw [← Nat.pow_add]; congr 1; omega
    have hp2 : 2 ^ n * 2 ^ s = (2 : Nat) ^ 63 := by rw [← Nat.pow_add]; congr 1; omega
    have h63 : (2 : Nat) ^ 63 = 9223372036854775808 := by decide +kernel
    have hY : y * 2 ^ s < 2 ^ 64 := by rw [← hp]; exact Nat.mul_lt_mul_of_pos_right hn2 (Nat.two_pow_pos s)
    have hYl : 2 ^ 63 ≤ y * 2 ^ s := by rw [← hp2]; exact Nat.mul_le_mul_right _ hn1
    obtain ⟨a1, a2, a3, a4⟩ := norm_shift (hi := hi) (lo := lo) (y := y) (s := s) (by rw [← B64_pow]; exact hlo) hlt (by omega) hY
    have hdN : ((hi * B64 + lo) * 2 ^ s) / (y * 2 ^ s) = (hi * B64 + lo) / y := Nat.mul_div_mul_right _ _ (Nat.two_pow_pos s)
    have hmN : ((hi * B64 + lo) * 2 ^ s) % (y * 2 ^ s) / 2 ^ s = (hi * B64 + lo) % y := by
      rw [Nat.mul_mod_mul_right, Nat.mul_div_cancel _ (Nat.two_pow_pos s)]
    rw [← B64_pow] at a4
    rw [← a4] at hdN hmN
    have wA := wrap_shl hi s
    have wL := wrap_shl lo s
    have wY := wrap_shl y s
    rw [a1] at wA
    rw [Nat.mod_eq_of_lt hY] at wY
    have hLlt : lo * 2 ^ s % 2 ^ 64 < 2 ^ 64 := Nat.mod_lt _ (Nat.two_pow_pos _)
    rw [B64_pow] at hdN hmN
    generalize lo * 2 ^ s % 2 ^ 64 = L at *
    have hC : (lo : Int) / 2 ^ (64 - s) = ((lo / 2 ^ (64 - s) : Nat) : Int) := shr_nat lo (64 - s)
    have hClt : lo / 2 ^ (64 - s) ≤ lo := Nat.div_le_self _ _
    generalize lo / 2 ^ (64 - s) = C at *
    have hAlt : hi * 2 ^ s < 2 ^ 64 := by omega
    generalize hi * 2 ^ s = A at *
    have hU : bits .or .u64 (A : Int) (C : Int) = ((A + C : Nat) : Int) := by
      rw [or_nat A C (by rw [B64_pow]; exact hAlt) (Nat.lt_of_le_of_lt hClt hlo), a2]
    generalize A + C = U at *
    generalize hYY : y * 2 ^ s = Y at *
    have hK1 : L / 4294967296 < 4294967296 := by omega
    have hK0 : L % 4294967296 < 4294967296 := Nat.mod_lt _ (by omega)
    have hy0 : Y % 4294967296 < 4294967296 := Nat.mod_lt _ (by omega)
    have hy1 : Y / 4294967296 < 4294967296 := by omega
    have hYe : Y = Y / 4294967296 * 4294967296 + Y % 4294967296 := by omega
    have hK2 : 4294967296 ≤ 2 * (Y / 4294967296) := by omega
    have hYpos : 0 < Y := by omega
    have hLe : U * 2 ^ 64 + L = (U * 4294967296 + L / 4294967296) * 4294967296 + L % 4294967296 := by rw [hM]; omega
    have hh := halves (K := 4294967296) (U := U) (u1 := L / 4294967296) (u0 := L % 4294967296) (Y := Y) hYpos
    rw [← hLe, hdN] at hh
    obtain ⟨u1, hu1⟩ : ∃ z, z = L / 4294967296 := ⟨_, rfl⟩
    obtain ⟨u0, hu0⟩ : ∃ z, z = L % 4294967296 := ⟨_, rfl⟩
    obtain ⟨y1, hy1e⟩ : ∃ z, z = Y / 4294967296 := ⟨_, rfl⟩
    obtain ⟨y0, hy0e⟩ : ∃ z, z = Y % 4294967296 := ⟨_, rfl⟩
    have v1 : (L : Int) / 4294967296 = (u1 : Int) := by rw [hu1]; exact div32 L
    have v0 : bits .and .u64 (L : Int) 4294967295 = (u0 : Int) := by rw [hu0]; exact and32 L (by omega)
    have z1 : (Y : Int) / 4294967296 = (y1 : Int) := by rw [hy1e]; exact div32 Y
    have z0 : bits .and .u64 (Y : Int) 4294967295 = (y0 : Int) := by rw [hy0e]; exact and32 Y (by omega)
    rw [← hu1, ← hu0] at hh
    rw [← hu1] at hK1
    rw [← hu0] at hK0
    rw [← hy0e] at hy0
    rw [← hy1e] at hy1 hK2
    rw [← hy1e, ← hy0e] at hYe
    have f1 : HalfFits U Y y1 y0 u1 := ⟨hYe, hYpos, hy0, hy1, a3, hK1⟩
    have hR : (U * 4294967296 + u1) % Y < Y := Nat.mod_lt _ hYpos
    have f2 : HalfFits ((U * 4294967296 + u1) % Y) Y y1 y0 u0 := ⟨hYe, hYpos, hy0, hy1, hR, hK0⟩
    have q1l : (U * 4294967296 + u1) / Y < 4294967296 := (Nat.div_lt_iff_lt_mul hYpos).2 (by rw [Nat.mul_comm 4294967296]; exact half_lt a3 hK1)
    have q2l : ((U * 4294967296 + u1) % Y * 4294967296 + u0) / Y < 4294967296 := (Nat.div_lt_iff_lt_mul hYpos).2 (by rw [Nat.mul_comm 4294967296]; exact half_lt hR hK0)
    have e1 := Nat.div_add_mod (U * 4294967296 + u1) Y
    have e2 := Nat.div_add_mod ((U * 4294967296 + u1) % Y * 4294967296 + u0) Y
    have hR2 : ((U * 4294967296 + u1) % Y * 4294967296 + u0) % Y < Y := Nat.mod_lt _ hYpos
    rw [hh.2] at hmN
    obtain ⟨Q1, hQ1⟩ : ∃ z, (U * 4294967296 + u1) / Y = z := ⟨_, rfl⟩
    obtain ⟨R, hRR⟩ : ∃ z, (U * 4294967296 + u1) % Y = z := ⟨_, rfl⟩
    rw [hQ1] at q1l e1 hh
    rw [hRR] at e1 e2 f2 hR q2l hR2 hmN hh
    obtain ⟨Q2, hQ2⟩ : ∃ z, (R * 4294967296 + u0) / Y = z := ⟨_, rfl⟩
    rw [hQ2] at q2l e2 hh
    have q0e := Nat.div_add_mod U y1
    have p0e := Nat.div_add_mod R y1
    have hc : ∀ w, Calls Tryz.prog 168 #[.int .u64 (y : Int)] w fun e w' => e = .returned (.int .i64 (s : Int)) ∧ w = w' := by
      intro w
      have := lead64 y w (by rw [← hM, ← B64_pow]; exact hy)
      rw [hbl, hn, show 64 - (n + 1) = s by omega] at this
      exact this
    have b1 : U / y1 ≤ U := Nat.div_le_self _ _
    have b2 : U % y1 ≤ U := Nat.mod_le _ _
    have b3 : R / y1 ≤ R := Nat.div_le_self _ _
    have b4 : R % y1 ≤ R := Nat.mod_le _ _
    have core := div64_core hi lo y s (64 - s) Y y1 y0 A C U L u1 u0 (U / y1) (U % y1) R (R / y1) (R % y1) w (Q1 * 4294967296 + Q2) ((R * 4294967296 + u0) % Y / 2 ^ s) hc
      (by rw [beq_eq_false_iff_ne]; omega) (by omega) (by rw [beq_eq_false_iff_ne]; omega) (by omega) (by omega) (by omega) (wrapLt s (by omega)) wY z1 z0 wA
      (by rw [show (64 : Int) - (s : Int) = ((64 - s : Nat) : Int) by omega]; exact wrapLt _ (by omega)) hC hU wL v1 v0 (Int.natCast_ediv U y1).symm (wrapLt _ (by omega))
      (by rw [natMul]; exact wrap_sub2 U _ _ (by rw [Nat.mul_comm]; exact q0e.symm) (by omega) (by omega)) f1 (half_begin f1 hK2) f2 (half_begin f2 hK2) Q1 Q2 hQ1 hQ2
      (by rw [natMulK, natMul]; exact wrap_sub3 _ _ _ _ (by rw [Nat.mul_comm Q1]; exact e1.symm) (by omega)) (Int.natCast_ediv R y1).symm (wrapLt _ (by omega))
      (by rw [natMul]; exact wrap_sub2 R _ _ (by rw [Nat.mul_comm]; exact p0e.symm) (by omega) (by omega))
      (by rw [natMulK, wrapLt _ (by omega), natAdd, wrapLt _ (by omega)])
      (by rw [natMulK, natMul, wrap_sub3 _ _ _ ((R * 4294967296 + u0) % Y) (by rw [Nat.mul_comm Q2]; exact e2.symm) (by omega)]; exact shr_nat _ s)
    refine core.mono ?_
    rintro e w' ⟨rfl, rfl⟩
    rw [hmN, ← hh.1]
    exact ⟨rfl, rfl, rfl, rfl, rfl⟩

end Go.Proofs.YtifpacgacbpalaaGreatDoor

namespace Go.Proofs.YtifpacgacbpalaaGreatDoor
open Go.RowKit

theorem like_set {w w' : World} (h : Like w' w) (a : Addr) (u : Value) : Like (w'.setCell a u) (w.setCell a u) :=
  ⟨by simp only [World.setCell]; rw [h.1], h.2.1, h.2.2.1, h.2.2.2⟩

theorem limb_step {b : Nat} {r : List Nat} {x : Nat → Nat} {n k rest N : Nat} (hk : k < r.length) (h0 : dg r k = 0)
    (h : num b r * n + rest * b ^ (k + 1) + V b x (k + 1) = N) : num b (r.set k ((rest * b + x k) / n)) * n + (rest * b + x k) % n * b ^ k + V b x k = N := by
  have e1 := num_set b r k ((rest * b + x k) / n) hk
  rw [h0, Nat.zero_mul, Nat.add_zero] at e1
  have e2 := Nat.div_add_mod (rest * b + x k) n
  rw [e1]
  generalize (rest * b + x k) / n = d at *
  generalize (rest * b + x k) % n = m at *
  simp only [V] at h
  have e3 : (n * d + m) * b ^ k = (rest * b + x k) * b ^ k := by rw [e2]
  rw [Nat.add_mul, Nat.add_mul] at e3
  have e4 : rest * b ^ (k + 1) = rest * b * b ^ k := by rw [Nat.pow_succ, Nat.mul_comm (b ^ k), Nat.mul_assoc]
  have e5 : d * b ^ k * n = n * d * b ^ k := by rw [Nat.mul_comm, Nat.mul_assoc]
  rw [Nat.add_mul, e5]
  omega

/-- At the head of divLimb's loop, k limbs being left. -/
structure LimbInv (w : World) (m n N : Nat) (x : Nat → Nat) (k rest : Nat) (wr : World) : Prop where
  bel : Below w.heap.size w wr
  rl : rest < n
  row : ∃ r, Row .u64 76 wr w.heap.size r ∧ r.length = m ∧ Ok B64 r ∧ (∀ j, j < k → dg r j = 0) ∧ num B64 r * n + rest * B64 ^ k + V B64 x k = N

theorem LimbInv.step {w wr wr' : World} {m n N k rest : Nat} {x : Nat → Nat} {r : List Nat} (hb : Below w.heap.size w wr) (hrl : rest < n) (hr : Row .u64 76 wr w.heap.size r) (hl : r.length = m) (ho : Ok B64 r)
    (hz : ∀ j, j < k + 1 → dg r j = 0) (hN : num B64 r * n + rest * B64 ^ (k + 1) + V B64 x (k + 1) = N) (hk : k < m) (hx : x k < B64)
    (hw : Like wr' (wr.setCell ⟨w.heap.size, k, none⟩ (.int .u64 (((rest * B64 + x k) / n : Nat) : Int)))) : LimbInv w m n N x k ((rest * B64 + x k) % n) wr' := by
  have hn : 0 < n := by omega
  refine ⟨hw.below (hb.setCell (Nat.le_refl _) _), Nat.mod_lt _ hn, _, (hr.set k _).alike hw, by simp [hl], ho.set (by omega) ?_, ?_, limb_step (by omega) (hz k (by omega)) hN⟩
  · exact (Nat.div_lt_iff_lt_mul hn).2 (by rw [Nat.mul_comm B64 n]; exact half_lt hrl hx)
  · intro j hj
    rw [dg_set _ _ _ _ (by omega), if_neg (by omega)]
    exact hz j (by omega)

/-- What divLimb answers. -/
def LimbPost (w : World) (m q rest : Nat) (e : Ending) (w' : World) : Prop :=
  ∃ v r, e = .returned (.tuple #[v, .int .u64 (rest : Int)]) ∧ Own .u64 76 w' w.heap.size m v r ∧ Is B64 r q ∧ Below w.heap.size w w'

set_option maxHeartbeats 4000000 in
theorem divLimb_at (b o m cap n : Nat) (xs : List Nat) (w : World) (hm : m ≤ 10000000000) (hn : 0 < n) (hnb : n < B64) (hx : xs.length = m) (hb : b < w.heap.size)
    (hcell : ∀ i, i < xs.length → w.cell? ⟨b, o + i, none⟩ = some (.int .u64 ((dg xs i : Nat) : Int))) (ox : Ok B64 xs) :
    Calls Tryz.prog 153 #[.slice (some ⟨b, o, none⟩) m cap, .int .u64 (n : Int)] w (LimbPost w m (num B64 xs / n) (num B64 xs % n)) := by
  obtain ⟨i0, hi, hz0, hz1, hz2⟩ := info_parts Tryz.infoU
  go_enter Tryz.func153, Tryz.ntmps153
  go_wp2_with (at_make; refine wpList_make_full _ rfl _ _ 77 rfl w.heap.size 76 i0 (.int .u64 0) 1 Tryz.underlying77 hi hz0 hz1 _ _ _ _ m rfl rfl (by omega) (by omega) (by rw [hz2]; omega) (by unfold maxLen; omega) (Nat.le_refl _) ?_)
  intro w1 hown hgrow
  have hr1 : Row .u64 76 w1 w.heap.size (List.replicate m 0) := Row.made hown
  have hb1 : Below w.heap.size w w1 := (Below.refl _ _).grown hgrow (Nat.le_refl _) (fun k hk => by cases hk)
  clear hown hgrow
  go_wp2
  go_loopw [7, 8] (fun a i wr => ∃ k rest : Nat, k ≤ m ∧ a = .int .u64 (rest : Int) ∧ i = .int .i64 ((k : Int) - 1) ∧ LimbInv w m n (num B64 xs) (dg xs) k rest wr) (fun _ i _ => (intOf i + 1).toNat)
  case atStart =>
    refine ⟨m, 0, Nat.le_refl _, rfl, rfl, hb1, hn, _, hr1, by simp, Ok.replicate (by decide) _, fun j _ => dg_replicate _ j, ?_⟩
    rw [num_replicate, ← hx]; simp [num]
  case round =>
    obtain ⟨k, rest, hk, rfl, rfl, hinv⟩ := hrel
    rcases k with _ | k
    · obtain ⟨r, hr, hrl, hro, _, hrN⟩ := hinv.row
      have hbel := hinv.bel
      have hlt := hinv.rl
      simp only [V, Nat.pow_zero, Nat.mul_one, Nat.add_zero] at hrN
      have q1 : num B64 xs / n = num B64 r := by rw [← hrN, Nat.mul_comm, Nat.mul_add_div hn, Nat.div_eq_of_lt hlt, Nat.add_zero]
      have q2 : num B64 xs % n = rest := by rw [← hrN, Nat.mul_comm, Nat.mul_add_mod, Nat.mod_eq_of_lt hlt]
      obtain ⟨q, hq⟩ : ∃ q, q = (trimmed r).length := ⟨_, rfl⟩
      have HQ : Hid ((trimmed r).length = q) := hq.symm
      have HL : Hid (r.length = m) := hrl
      have H1 : Hid (num B64 xs / n = num B64 r) := q1
      have H2 : Hid (num B64 xs % n = rest) := q2
      clear hq hrl hrN hinv q1 q2 hcell
      go_wp2_with fail
      refine (trim_to _ _ _ q r _ (Nat.le_refl _) (by omega) HL.out hr.at HQ.out).mono ?_
      rintro e w' ⟨rfl, rfl⟩
      go_wp2
      go_ret2
      refine ⟨.slice (some ⟨w.heap.size, 0, none⟩) q m, trimmed r, ?_, .inr ⟨w.heap.size, r, ?_, Nat.le_refl _, hr, ?_, ?_⟩, ?_, hbel⟩
      · rw [H2.out]; rfl
      · rw [HL.out, HQ.out]
      · rw [length_trimmed]; rfl
      · rw [HL.out]; exact Nat.le_refl _
      · rw [H1.out]; exact Is.trimmed hro
    · obtain ⟨r, hr, hrl, hro, hrz, hrN⟩ := hinv.row
      have hbr := hinv.bel
      have hlt := hinv.rl
      have c0 : wr.cell? ⟨b, o + k, none⟩ = some (.int .u64 ((dg xs k : Nat) : Int)) := (hbr.cell hb).trans (hcell k (by omega))
      have c1 := hr.cell k (by omega)
      have f1 := hr.free k
      have e0 : (k : Int) < (m : Int) := by omega
      have hst := fun wr' hw => LimbInv.step (wr' := wr') hbr hlt hr hrl hro hrz hrN (by omega) (ox k) hw
      have dv := fun w => div64_any rest (dg xs k) n w hnb (ox k) hlt
      obtain ⟨x, hxk⟩ : ∃ x, x = dg xs k := ⟨_, rfl⟩
      rw [← hxk] at c0 hst dv
      obtain ⟨q, hq⟩ : ∃ q, q = (rest * B64 + x) / n := ⟨_, rfl⟩
      obtain ⟨t, ht⟩ : ∃ t, t = (rest * B64 + x) % n := ⟨_, rfl⟩
      rw [← hq, ← ht] at hst dv
      have HS : Hid (∀ wr', Like wr' (wr.setCell ⟨w.heap.size, k, none⟩ (.int .u64 (q : Int))) → LimbInv w m n (num B64 xs) (dg xs) k t wr') := hst
      have HD : Hid (∀ w, Calls Tryz.prog 167 #[.int .u64 (rest : Int), .int .u64 (x : Int), .int .u64 (n : Int)] w fun e w' => e = .returned (.tuple #[.int .u64 (q : Int), .int .u64 (t : Int)]) ∧ Like w' w) := dv
      clear hxk hq ht hst dv hinv hr hrl hro hrz hrN hcell ox hlt
      go_wp2_with fail
      refine (HD.out _).mono ?_
      rintro e w2 ⟨rfl, hlike⟩
      have c1' : w2.cell? ⟨w.heap.size, k, none⟩ = some (.int .u64 ((dg r k : Nat) : Int)) := (World.cell?_of_block (w := wr) (by rw [hlike.1])).trans c1
      have f1' : w2.frozen? ⟨w.heap.size, k, none⟩ = false := (World.frozen?_of_block (w := wr) (by rw [hlike.1])).trans f1
      have HK : Hid (Like w2 wr) := hlike
      clear hlike
      go_wp2
      go_roundw
      case rel => exact ⟨k, t, by omega, rfl, by go_num, HS.out _ (like_set HK.out _ _)⟩
      case measure => simp [intOf]

end Go.Proofs.YtifpacgacbpalaaGreatDoor

namespace Go.Proofs.YtifpacgacbpalaaGreatDoor
open Go.RowKit

/-- What nat.DivMod answers: quotient and rest, each in memory of its own. -/
def DivPost (w : World) (m q r : Nat) (err : Int) (e : Ending) (w' : World) : Prop :=
  ∃ v1 r1 v2 r2, e = .returned (.tuple #[v1, v2, .int .i64 err]) ∧ Own .u64 76 w' w.heap.size m v1 r1 ∧ Own .u64 76 w' w.heap.size m v2 r2 ∧ Is B64 r1 q ∧ Is B64 r2 r ∧ Below w.heap.size w w' ∧
    (v1.ownBlock = none ∨ v1.ownBlock ≠ v2.ownBlock)

set_option maxHeartbeats 4000000 in
theorem divmod_zero (ao bo : Option Addr) (la ca lb cb m : Nat) (w : World)
    (c1 : ∀ w' : World, w'.heap = w.heap → Calls Tryz.prog 100 #[.slice ao la ca] w' fun e w'' => e = .returned (.slice ao m ca) ∧ w' = w'')
    (c2 : ∀ w' : World, w'.heap = w.heap → Calls Tryz.prog 100 #[.slice bo lb cb] w' fun e w'' => e = .returned (.slice bo 0 cb) ∧ w' = w'') :
    Calls Tryz.prog 129 #[.slice ao la ca, .slice bo lb cb] w (DivPost w 0 0 0 11) := by
  have C1 : Hid (∀ w' : World, w'.heap = w.heap → Calls Tryz.prog 100 #[.slice ao la ca] w' fun e w'' => e = .returned (.slice ao m ca) ∧ w' = w'') := c1
  have C2 : Hid (∀ w' : World, w'.heap = w.heap → Calls Tryz.prog 100 #[.slice bo lb cb] w' fun e w'' => e = .returned (.slice bo 0 cb) ∧ w' = w'') := c2
  clear c1 c2
  go_enter Tryz.func129, Tryz.ntmps129
  go_wp2_with fail
  refine (C1.out _ rfl).mono ?_
  rintro e w' ⟨rfl, rfl⟩
  go_wp2_with fail
  refine (C2.out _ rfl).mono ?_
  rintro e w' ⟨rfl, rfl⟩
  go_wp2
  go_ret3
  exact ⟨_, [], _, [], rfl, .inl ⟨rfl, rfl⟩, .inl ⟨rfl, rfl⟩, Is.none (by decide), Is.none (by decide), Below.refl _ _, .inl rfl⟩

set_option maxHeartbeats 4000000 in
theorem divmod_less (ao bo : Option Addr) (la ca lb cb m p n : Nat) (w : World) (hmp : m < p) (_hp : p ≤ 10000000000)
    (c1 : ∀ w' : World, w'.heap = w.heap → Calls Tryz.prog 100 #[.slice ao la ca] w' fun e w'' => e = .returned (.slice ao m ca) ∧ w' = w'')
    (c2 : ∀ w' : World, w'.heap = w.heap → Calls Tryz.prog 100 #[.slice bo lb cb] w' fun e w'' => e = .returned (.slice bo p cb) ∧ w' = w'')
    (c3 : Calls Tryz.prog 127 #[.slice ao m ca] w (NatPost w m n)) :
    Calls Tryz.prog 129 #[.slice ao la ca, .slice bo lb cb] w (DivPost w m 0 n 0) := by
  have C1 : Hid (∀ w' : World, w'.heap = w.heap → Calls Tryz.prog 100 #[.slice ao la ca] w' fun e w'' => e = .returned (.slice ao m ca) ∧ w' = w'') := c1
  have C2 : Hid (∀ w' : World, w'.heap = w.heap → Calls Tryz.prog 100 #[.slice bo lb cb] w' fun e w'' => e = .returned (.slice bo p cb) ∧ w' = w'') := c2
  have C3 : Hid (Calls Tryz.prog 127 #[.slice ao m ca] w (NatPost w m n)) := c3
  have n1 : ((p : Int) == 0) = false := by rw [beq_eq_false_iff_ne]; omega
  have n2 : (m : Int) < (p : Int) := by omega
  clear c1 c2 c3
  go_enter Tryz.func129, Tryz.ntmps129
  go_wp2_with fail
  refine (C1.out _ rfl).mono ?_
  rintro e w' ⟨rfl, rfl⟩
  go_wp2_with fail
  refine (C2.out _ rfl).mono ?_
  rintro e w' ⟨rfl, rfl⟩
  go_wp2_with fail
  refine C3.out.mono ?_
  rintro e w1 ⟨v, r, rfl, hown, his, hbel⟩
  go_wp2
  go_ret3
  exact ⟨_, [], _, r, rfl, .inl ⟨rfl, rfl⟩, hown, Is.none (by decide), his, hbel, .inl rfl⟩

set_option maxHeartbeats 4000000 in
theorem divmod_limb (ao : Option Addr) (b o la ca lb cb m q n d : Nat) (w : World) (hm : 1 ≤ m) (hml : m ≤ 10000000000)
    (c1 : ∀ w' : World, w'.heap = w.heap → Calls Tryz.prog 100 #[.slice ao la ca] w' fun e w'' => e = .returned (.slice ao m ca) ∧ w' = w'')
    (c2 : ∀ w' : World, w'.heap = w.heap → Calls Tryz.prog 100 #[.slice (some ⟨b, o, none⟩) lb cb] w' fun e w'' => e = .returned (.slice (some ⟨b, o, none⟩) 1 cb) ∧ w' = w'')
    (hc : w.cell? ⟨b, o, none⟩ = some (.int .u64 (d : Int)))
    (c3 : Calls Tryz.prog 153 #[.slice ao m ca, .int .u64 (d : Int)] w (LimbPost w m q n)) (hn : n < B64) :
    Calls Tryz.prog 129 #[.slice ao la ca, .slice (some ⟨b, o, none⟩) lb cb] w (DivPost w m q n 0) := by
  have C1 : Hid (∀ w' : World, w'.heap = w.heap → Calls Tryz.prog 100 #[.slice ao la ca] w' fun e w'' => e = .returned (.slice ao m ca) ∧ w' = w'') := c1
  have C2 : Hid (∀ w' : World, w'.heap = w.heap → Calls Tryz.prog 100 #[.slice (some ⟨b, o, none⟩) lb cb] w' fun e w'' => e = .returned (.slice (some ⟨b, o, none⟩) 1 cb) ∧ w' = w'') := c2
  have C3 : Hid (Calls Tryz.prog 153 #[.slice ao m ca, .int .u64 (d : Int)] w (LimbPost w m q n)) := c3
  have n2 : ¬ (m : Int) < 1 := by omega
  have HN : Hid (n < B64) := hn
  clear c1 c2 c3 hn
  go_enter Tryz.func129, Tryz.ntmps129
  go_wp2_with fail
  refine (C1.out _ rfl).mono ?_
  rintro e w' ⟨rfl, rfl⟩
  go_wp2_with fail
  refine (C2.out _ rfl).mono ?_
  rintro e w' ⟨rfl, rfl⟩
  go_wp2_with fail
  refine C3.out.mono ?_
  rintro e w1 ⟨v, r, rfl, hown, his, hbel⟩
  go_wp2_with fail
  refine (of_any n _ HN.out).mono ?_
  rintro e w2 ⟨v2, r2, rfl, hown2, his2, hbel2⟩
  go_wp2
  go_ret3
  refine ⟨v, r, v2, r2, rfl, hown.below hbel2, hown2.mono hbel.size hm, his, his2, hbel.trans (hbel2.mono hbel.size), ?_⟩
  rcases hown with ⟨rfl, _⟩ | ⟨g, full, rfl, _, hr, _⟩
  · exact .inl rfl
  · refine .inr ?_
    have := hr.lt
    rcases hown2 with ⟨rfl, _⟩ | ⟨g2, full2, rfl, hg2, _⟩
    · simp [Value.ownBlock]
    · simp [Value.ownBlock]; omega

end Go.Proofs.YtifpacgacbpalaaGreatDoor
