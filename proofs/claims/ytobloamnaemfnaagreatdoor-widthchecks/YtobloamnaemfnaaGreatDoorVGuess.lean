/-
  What nat.guessLimb does.
-/
import Derived.Test.YtobloamnaemfnaaGreatDoorVB4
import Derived.Deep.RegionHeld3
namespace Go.Proofs.YtobloamnaemfnaaGreatDoor
open Go.RowKit

def GuessInv (u2 u1 u0 d1 d2 q r : Nat) : Prop := q * d1 + r = u2 * B64 + u1 ∧ g3 B64 u2 u1 u0 d1 d2 ≤ q ∧ r < B64 ∧ q < B64

theorem guess_begin {u2 u1 u0 d1 d2 : Nat} (hd : 0 < d1) (hd1 : d1 < B64) (h1 : u1 < B64) (h0 : u0 < B64) (h : u2 < d1) : GuessInv u2 u1 u0 d1 d2 ((u2 * B64 + u1) / d1) ((u2 * B64 + u1) % d1) := by
  have hm := Nat.mod_lt (u2 * B64 + u1) hd
  refine ⟨by rw [Nat.mul_comm]; exact Nat.div_add_mod _ _, g3_start hd (by decide) h0, by omega, ?_⟩
  rw [Nat.div_lt_iff_lt_mul hd, Nat.mul_comm B64]
  have : (u2 + 1) * B64 ≤ d1 * B64 := Nat.mul_le_mul_right _ h
  rw [Nat.add_mul] at this
  omega

theorem guess_test {u2 u1 u0 d1 d2 q r : Nat} (hd : 0 < d1) (h0 : u0 < B64) (hi : GuessInv u2 u1 u0 d1 d2 q r) (h : q * d2 / B64 < r ∨ q * d2 / B64 = r ∧ q * d2 % B64 ≤ u0) : q = g3 B64 u2 u1 u0 d1 d2 := by
  refine g3_stop hd (by decide) hi.1 hi.2.1 ?_
  have := (pair_le (h := q * d2 / B64) (r := r) (Nat.mod_lt (q * d2) (by decide)) h0).2 h
  have e := Nat.div_add_mod (q * d2) B64
  rw [Nat.mul_comm] at e
  rw [e] at this
  exact this

theorem guess_down {u2 u1 u0 d1 d2 q r : Nat} (hd : 0 < d1) (hd1 : d1 < B64) (h0 : u0 < B64) (hd2 : d2 < B64) (hi : GuessInv u2 u1 u0 d1 d2 q r) (h : ¬ (q * d2 / B64 < r ∨ q * d2 / B64 = r ∧ q * d2 % B64 ≤ u0)) :
    ∃ q' r' : Nat, IntKind.u64.wrap ((q : Int) - 1) = (q' : Int) ∧ IntKind.u64.wrap ((r : Int) + (d1 : Int)) = (r' : Int) ∧ (¬ r' < d1 → GuessInv u2 u1 u0 d1 d2 q' r') ∧ (r' < d1 → q' = g3 B64 u2 u1 u0 d1 d2) ∧ q' < q := by
  have hB : B64 = 18446744073709551616 := rfl
  have hlt : r * B64 + u0 < q * d2 := by
    have := mt (pair_le (h := q * d2 / B64) (r := r) (Nat.mod_lt (q * d2) (by decide)) h0).1 h
    have e := Nat.div_add_mod (q * d2) B64
    rw [Nat.mul_comm] at e
    rw [e] at this
    omega
  obtain ⟨a1, a2, a3⟩ := g3_on hd (by decide) hi.1 hlt
  obtain ⟨_, _, hr, hq⟩ := hi
  by_cases hw : r + d1 < B64
  · refine ⟨q - 1, r + d1, ?_, ?_, fun _ => ⟨a3, a2, hw, by omega⟩, fun h => by omega, by omega⟩
    · rw [show (q : Int) - 1 = ((q - 1 : Nat) : Int) by omega, wrapLt _ (by omega)]
    · rw [natAdd, wrapLt _ (by omega)]
  · refine ⟨q - 1, r + d1 - B64, ?_, ?_, fun h => by omega, fun _ => g3_wrap hd (by decide) a3 a2 (by omega) hd2 (by omega), by omega⟩
    · rw [show (q : Int) - 1 = ((q - 1 : Nat) : Int) by omega, wrapLt _ (by omega)]
    · have hmod : (r + d1) % 18446744073709551616 = r + d1 - B64 := by omega
      rw [natAdd, wrapMod, hmod]

set_option maxHeartbeats 4000000 in
theorem guessLimb_high (g off n n1 n2 nl cp h o cd u2 d1 d2 : Nat) (w : World) (_hn : n ≤ 10000000000) (e1 : (n : Int) - 1 = (n1 : Int)) (e2 : (n : Int) - 2 = (n2 : Int)) (l1 : (n1 : Int) < (n : Int)) (l2 : (n2 : Int) < (n : Int)) (k0 : (n : Int) < (nl : Int))
    (c2 : w.cell? ⟨g, off + n, none⟩ = some (.int .u64 (u2 : Int))) (c4 : w.cell? ⟨h, o + n1, none⟩ = some (.int .u64 (d1 : Int))) (c5 : w.cell? ⟨h, o + n2, none⟩ = some (.int .u64 (d2 : Int))) (hle : d1 ≤ u2) :
    Calls Tryz.prog 247 #[.slice (some ⟨g, off, none⟩) nl cp, .slice (some ⟨h, o, none⟩) n cd] w fun e w' => e = .returned (.int .u64 18446744073709551615) ∧ Like w' w := by
  have hle' : (d1 : Int) ≤ (u2 : Int) := by omega
  go_enter Tryz.func247, Tryz.ntmps247
  go_wp2
  go_region
  go_wp2
  go_ret
  exact ⟨rfl, rfl, rfl, rfl, rfl⟩

set_option maxHeartbeats 8000000 in
theorem guessLimb_low (g off n n1 n2 nl cp h o cd u2 u1 u0 d1 d2 : Nat) (w : World) (_hn : n ≤ 10000000000) (e1 : (n : Int) - 1 = (n1 : Int)) (e2 : (n : Int) - 2 = (n2 : Int)) (l1 : (n1 : Int) < (n : Int)) (l2 : (n2 : Int) < (n : Int)) (k0 : (n : Int) < (nl : Int)) (k1 : (n1 : Int) < (nl : Int)) (k2 : (n2 : Int) < (nl : Int))
    (c2 : w.cell? ⟨g, off + n, none⟩ = some (.int .u64 (u2 : Int))) (c1 : w.cell? ⟨g, off + n1, none⟩ = some (.int .u64 (u1 : Int))) (c0 : w.cell? ⟨g, off + n2, none⟩ = some (.int .u64 (u0 : Int)))
    (c4 : w.cell? ⟨h, o + n1, none⟩ = some (.int .u64 (d1 : Int))) (c5 : w.cell? ⟨h, o + n2, none⟩ = some (.int .u64 (d2 : Int)))
    (h1 : u1 < B64) (h0 : u0 < B64) (hd1 : d1 < B64) (hd2 : d2 < B64) (hlt : u2 < d1) :
    Calls Tryz.prog 247 #[.slice (some ⟨g, off, none⟩) nl cp, .slice (some ⟨h, o, none⟩) n cd] w fun e w' => e = .returned (.int .u64 ((g3 B64 u2 u1 u0 d1 d2 : Nat) : Int)) ∧ Like w' w := by
  have hlt' : ¬ (d1 : Int) ≤ (u2 : Int) := by omega
  have v1 : IntKind.i64.wrap (n1 : Int) = (n1 : Int) := by simp [IntKind.wrap, IntKind.bits, IntKind.signed]; omega
  have v2 : IntKind.i64.wrap (n2 : Int) = (n2 : Int) := by simp [IntKind.wrap, IntKind.bits, IntKind.signed]; omega
  have v3 : IntKind.i64.wrap ((n : Int) - 1) = (n1 : Int) := by rw [e1]; exact v1
  have v4 : IntKind.i64.wrap ((n : Int) - 2) = (n2 : Int) := by rw [e2]; exact v2
  have hd : 0 < d1 := by omega
  have dv := fun w => div64_any u2 u1 d1 w hd1 h1 hlt
  have gi := guess_begin (d2 := d2) hd hd1 h1 h0 hlt
  obtain ⟨q0, hq0⟩ : ∃ q, q = (u2 * B64 + u1) / d1 := ⟨_, rfl⟩
  obtain ⟨t0, ht0⟩ : ∃ t, t = (u2 * B64 + u1) % d1 := ⟨_, rfl⟩
  rw [← hq0, ← ht0] at dv gi
  obtain ⟨G, hG⟩ : ∃ G, G = g3 B64 u2 u1 u0 d1 d2 := ⟨_, rfl⟩
  have HG : Hid (G = g3 B64 u2 u1 u0 d1 d2) := hG
  have GI : Hid (GuessInv u2 u1 u0 d1 d2 q0 t0) := gi
  have HD : Hid (∀ w1, Like w1 w → Calls Tryz.prog 244 #[.int .u64 (u2 : Int), .int .u64 (u1 : Int), .int .u64 (d1 : Int)] w1 fun e w' => e = .returned (.tuple #[.int .u64 (q0 : Int), .int .u64 (t0 : Int)]) ∧ Hid (Like w' w) ∧
      w'.cell? ⟨g, off + n, none⟩ = some (.int .u64 (u2 : Int)) ∧ w'.cell? ⟨g, off + n1, none⟩ = some (.int .u64 (u1 : Int)) ∧ w'.cell? ⟨g, off + n2, none⟩ = some (.int .u64 (u0 : Int))) := by
    intro w1 hw1
    refine (dv w1).mono ?_
    rintro e w' ⟨rfl, hl⟩
    have hh : w'.heap = w.heap := hl.1.trans hw1.1
    exact ⟨rfl, ⟨hl.1.trans hw1.1, hl.2.1.trans hw1.2.1, hl.2.2.1.trans hw1.2.2.1, hl.2.2.2.trans hw1.2.2.2⟩, (World.cell?_of_block (w := w) (by rw [hh])).trans c2, (World.cell?_of_block (w := w) (by rw [hh])).trans c1, (World.cell?_of_block (w := w) (by rw [hh])).trans c0⟩
  have X1 : Hid (d1 < B64) := hd1
  have X2 : Hid (d2 < B64) := hd2
  have X0 : Hid (u0 < B64) := h0
  rw [← hG]
  clear hq0 ht0 hG gi dv hd1 hd2 h0 h1 hlt
  go_enter Tryz.func247, Tryz.ntmps247
  go_wp2
  go_region
  go_wp2
  clear c4 c5 l1 l2
  go_region_held3 (fun w' => w'.cell? ⟨g, off + n, none⟩ = some (.int .u64 (u2 : Int)) ∧ w'.cell? ⟨g, off + n1, none⟩ = some (.int .u64 (u1 : Int))) (go_keep) (first | (go_at_call 244; refine (HD.out _ (by exact ⟨rfl, rfl, rfl, rfl⟩)).mono ?_; rintro e w2 ⟨rfl, HK, z2, z1, z0⟩))
  clear c0 c1 c2 HD hlt' z2 z1
  go_wp2
  go_loop [8, 9, 10, 11] (fun a b _ _ => ∃ q r : Nat, a = .int .u64 (q : Int) ∧ b = .int .u64 (r : Int) ∧ GuessInv u2 u1 u0 d1 d2 q r) (fun a _ _ _ => (intOf a).toNat)
  case atStart => exact ⟨q0, t0, rfl, rfl, GI.out⟩
  case round =>
    obtain ⟨q, r, rfl, rfl, hinv⟩ := hrel
    have HI : Hid (GuessInv u2 u1 u0 d1 d2 q r) := hinv
    have ml := fun w => mul64 q d2 w hinv.2.2.2 X2.out
    have tst := guess_test hd X0.out hinv
    have dwn := guess_down hd X1.out X0.out X2.out hinv
    obtain ⟨hi, hhi⟩ : ∃ hi, hi = q * d2 / B64 := ⟨_, rfl⟩
    obtain ⟨lo, hlo⟩ : ∃ lo, lo = q * d2 % B64 := ⟨_, rfl⟩
    rw [← hhi, ← hlo] at ml tst dwn
    have HM : Hid (∀ w, Calls Tryz.prog 200 #[.int .u64 (q : Int), .int .u64 (d2 : Int)] w fun e w' => e = .returned (.tuple #[.int .u64 (hi : Int), .int .u64 (lo : Int)]) ∧ w = w') := ml
    clear hinv ml hhi hlo
    by_cases hA : hi < r
    · have he : G = q := HG.out.trans (tst (.inl hA)).symm
      have hA' : (hi : Int) < (r : Int) := by omega
      clear tst dwn
      subst he
      go_wp2_with fail
      refine (HM.out _).mono ?_
      rintro e w' ⟨rfl, rfl⟩
      go_wp2
      go_ret
      exact ⟨rfl, HK.out⟩
    · have hA' : ¬ (hi : Int) < (r : Int) := by omega
      by_cases hB : hi = r ∧ lo ≤ u0
      · have he : G = q := HG.out.trans (tst (.inr hB)).symm
        have hB1 : ((hi : Int) == (r : Int)) = true := by rw [beq_iff_eq]; omega
        have hB2 : (lo : Int) ≤ (u0 : Int) := by omega
        clear tst dwn hB
        subst he
        go_wp2_with fail
        refine (HM.out _).mono ?_
        rintro e w' ⟨rfl, rfl⟩
        go_wp2
        go_ret
        exact ⟨rfl, HK.out⟩
      · obtain ⟨q', r', wq, wr', hnx, hst, hq⟩ := dwn (by rintro (h | h); exact hA h; exact hB h)
        have HN : Hid (¬ r' < d1 → GuessInv u2 u1 u0 d1 d2 q' r') := hnx
        have HS : Hid (r' < d1 → q' = g3 B64 u2 u1 u0 d1 d2) := hst
        have HQ : Hid (q' < q) := hq
        have hB2 : ((hi : Int) == (r : Int)) = false ∨ ((hi : Int) == (r : Int)) = true ∧ ¬ (lo : Int) ≤ (u0 : Int) := by
          by_cases h : hi = r
          · right; exact ⟨by rw [beq_iff_eq]; omega, by have : ¬ lo ≤ u0 := fun h' => hB ⟨h, h'⟩; omega⟩
          · left; rw [beq_eq_false_iff_ne]; omega
        clear tst hnx hst hq hB
        by_cases hC : r' < d1
        · have hC' : (r' : Int) < (d1 : Int) := by omega
          have he : G = q' := HG.out.trans (HS.out hC).symm
          subst he
          rcases hB2 with hB2 | ⟨hB2, hB3⟩
          · go_wp2_with fail
            refine (HM.out _).mono ?_
            rintro e w' ⟨rfl, rfl⟩
            go_wp2
            go_ret
            exact ⟨rfl, HK.out⟩
          · go_wp2_with fail
            refine (HM.out _).mono ?_
            rintro e w' ⟨rfl, rfl⟩
            go_wp2
            go_ret
            exact ⟨rfl, HK.out⟩
        · have hC' : ¬ (r' : Int) < (d1 : Int) := by omega
          rcases hB2 with hB2 | ⟨hB2, hB3⟩
          · go_wp2_with fail
            refine (HM.out _).mono ?_
            rintro e w' ⟨rfl, rfl⟩
            go_wp2
            go_round
            case rel => exact ⟨q', r', rfl, rfl, HN.out hC⟩
            case measure => have := HQ.out; simp [intOf]; omega
          · go_wp2_with fail
            refine (HM.out _).mono ?_
            rintro e w' ⟨rfl, rfl⟩
            go_wp2
            go_round
            case rel => exact ⟨q', r', rfl, rfl, HN.out hC⟩
            case measure => have := HQ.out; simp [intOf]; omega

theorem guessLimb_any (g off m cp h o cd u2 u1 u0 d1 d2 : Nat) (w : World) (hm : m ≤ 1000000000)
    (c2 : w.cell? ⟨g, off + (m + 2), none⟩ = some (.int .u64 (u2 : Int))) (c1 : w.cell? ⟨g, off + (m + 1), none⟩ = some (.int .u64 (u1 : Int))) (c0 : w.cell? ⟨g, off + m, none⟩ = some (.int .u64 (u0 : Int)))
    (c4 : w.cell? ⟨h, o + (m + 1), none⟩ = some (.int .u64 (d1 : Int))) (c5 : w.cell? ⟨h, o + m, none⟩ = some (.int .u64 (d2 : Int)))
    (h1 : u1 < B64) (h0 : u0 < B64) (hd1 : d1 < B64) (hd2 : d2 < B64) :
    Calls Tryz.prog 247 #[.slice (some ⟨g, off, none⟩) (m + 3) cp, .slice (some ⟨h, o, none⟩) (m + 2) cd] w fun e w' => e = .returned (.int .u64 ((guessOf B64 u2 u1 u0 d1 d2 : Nat) : Int)) ∧ Like w' w := by
  by_cases h : d1 ≤ u2
  · refine (guessLimb_high g off (m + 2) (m + 1) m (m + 3) cp _ o cd u2 d1 d2 w (by omega) (by omega) (by omega) (by omega) (by omega) (by omega) c2 c4 c5 h).mono ?_
    rintro e w' ⟨rfl, hl⟩
    refine ⟨?_, hl⟩
    unfold guessOf
    rw [if_pos h]
    rfl
  · refine (guessLimb_low g off (m + 2) (m + 1) m (m + 3) cp _ o cd u2 u1 u0 d1 d2 w (by omega) (by omega) (by omega) (by omega) (by omega) (by omega) (by omega) (by omega) c2 c1 c0 c4 c5 h1 h0 hd1 hd2 (by omega)).mono ?_
    rintro e w' ⟨rfl, hl⟩
    refine ⟨?_, hl⟩
    unfold guessOf
    rw [if_neg h]

end Go.Proofs.YtobloamnaemfnaaGreatDoor
