/-
  What the reference's Bits does.
  What quipuref04's rounded does, and the calls of the reference's lower layers that it and To make.
  What quipuref04's To does: the bits of the nearest float.
-/
import Derived.Test.YtlhekeifffofjaaGreatDoorZOut
import Derived.Test.YtlhekeifffofjaaGreatDoorZB9
import Derived.Test.YtlhekeifffofjaaGreatDoorZB5
import Derived.Deep.QuietTactic
import Derived.BigQuiet
namespace Go.Proofs.YtlhekeifffofjaaGreatDoor
open Go.RowKit

theorem bitsN_half {x : Nat} (h : 0 < x) : bitsN x = bitsN (x / 2) + 1 := by
  by_cases h1 : x = 1
  · subst h1; decide
  · obtain ⟨k, hk, a1, a2⟩ := bitsN_spec (show x / 2 ≠ 0 by omega)
    rw [hk]
    refine bitsN_eq (k := k + 1) ?_ ?_
    · rw [Nat.pow_succ]; omega
    · rw [Nat.pow_succ] at a2 ⊢; omega


theorem rbits_num {ys : List Nat} {t : Nat} (oy : Ok 65536 ys) (ht : (trimmed ys).length = t + 1) : bitsN (num 65536 ys) = 16 * t + bitsN (dg (trimmed ys) t) := by
  have h := bits_top pow16 (f := dg (trimmed ys)) (n := t) (fun i _ => trimmed_ok oy i) (trimmed_top ys t ht)
  rw [← num_trimmed]
  unfold num
  rw [ht, h]

set_option maxRecDepth 100000 in
set_option maxHeartbeats 1000000 in
theorem rbits_any (ao : Option Addr) (la ca : Nat) (ys : List Nat) (w : World) (hla : la ≤ ca) (hl : la ≤ 1000000000) (hx : ys.length = la) (hat : At .u32 w ao ys) (oy : Ok 65536 ys) :
    Calls Tryz.prog 37 #[.slice ao la ca] w fun e w' => e = .returned (.int .i64 (bitsN (num 65536 ys) : Int)) ∧ w = w' := by
  obtain ⟨m, hm⟩ : ∃ m, m = (trimmed ys).length := ⟨_, rfl⟩
  have hml : m ≤ la := by rw [hm, ← hx]; exact length_trimmed_le ys
  have T1 : Hid ((trimmed ys).length = m) := hm.symm
  rcases m with _ | t
  · have hz : num 65536 ys = 0 := by
      rw [← num_trimmed, List.length_eq_zero_iff.1 hm.symm]; rfl
    have HZ : Hid (num 65536 ys = 0) := hz
    clear hm hz
    go_enter Tryz.func37, Tryz.ntmps37
    go_wp2_with fail
    refine (rtrim_to ao la ca 0 ys _ hla (by omega) hx hat T1.out).mono ?_
    rintro e w' ⟨rfl, rfl⟩
    go_wp2
    go_ret
    refine ⟨?_, rfl⟩
    rw [HZ.out]; rfl
  · rcases hat.trimmed with h | ⟨b, o, rfl, _, h3⟩
    · rw [h] at hm; simp at hm
    · obtain ⟨d, hd⟩ : ∃ d, d = dg (trimmed ys) t := ⟨_, rfl⟩
      have hcell : w.cell? ⟨b, o + t, none⟩ = some (.int .u32 (d : Int)) := by rw [hd]; exact h3 t (by omega)
      have hb := rbits_num oy hm.symm
      have hdl : d < 65536 := by rw [hd]; exact trimmed_ok oy t
      rw [← hd] at hb
      have HB : Hid (bitsN (num 65536 ys) = 16 * t + bitsN d) := hb
      have hne : (((t + 1 : Nat) : Int) == 0) = false := by rw [beq_eq_false_iff_ne]; omega
      clear hm hb hd h3
      go_enter Tryz.func37, Tryz.ntmps37
      go_wp2_with fail
      refine (rtrim_to _ la ca (t + 1) ys _ hla (by omega) hx hat T1.out).mono ?_
      rintro e w' ⟨rfl, rfl⟩
      go_wp2
      go_loop [3, 4] (fun a x => ∃ n y : Nat, a = .int .i64 (n : Int) ∧ x = .int .u32 (y : Int) ∧ n + bitsN y = 16 * t + bitsN d ∧ y < 65536 ∧ n ≤ 16 * t + 16) (fun _ x => (intOf x).toNat)
      case atStart =>
        refine ⟨16 * t, d, ?_, rfl, rfl, hdl, by omega⟩
        exact congrArg (Value.int IntKind.i64) (by omega)
      case round =>
        obtain ⟨n, y, rfl, rfl, hn, hy, hnl⟩ := hrel
        have HN : Hid (n + bitsN y = 16 * t + bitsN d) := hn
        clear hn
        rcases y with _ | y
        · go_wp2
          go_ret
          refine ⟨?_, rfl⟩
          rw [HB.out, ← HN.out]; rfl
        · have hpos : (0 : Int) < ((y + 1 : Nat) : Int) := by omega
          have hh := bitsN_half (x := y + 1) (by omega)
          have hb16 : bitsN d ≤ 16 := by
            have := bitLen_bits d (Nat.lt_of_lt_of_le hdl (by decide +kernel))
            rw [← this]; exact Lib.bitLen_le d 16 (by omega) (by simpa using hdl)
          have hnl' : n + 1 ≤ 16 * t + 16 := by have := HN.out; omega
          have HH : Hid (n + 1 + bitsN ((y + 1) / 2) = 16 * t + bitsN d) := by have := HN.out; show _ = _; omega
          clear hh hb16
          go_wp2
          go_round
          case rel => exact ⟨n + 1, (y + 1) / 2, by go_num, congrArg (Value.int IntKind.u32) (by omega), HH.out, by omega, hnl'⟩
          case measure => simp [intOf]; omega

end Go.Proofs.YtlhekeifffofjaaGreatDoor

namespace Go.Proofs.YtlhekeifffofjaaGreatDoor
open Go.RowKit

theorem nr_bits (a : Value) (x : Nat) (w : World) (ha : Nr w a x) (hx : Sm x) : Calls Tryz.prog 37 #[a] w fun e w' => e = .returned (.int .i64 (bitsN x : Int)) ∧ w = w' := by
  obtain ⟨o, c, xs, rfl, h1, h3, h4⟩ := ha
  have l1 := nr_len h4 hx
  have h := rbits_any o _ c xs w h1 (by omega) rfl h3 h4.1
  rw [h4.2.2] at h
  exact h

/-- The limbs of a number below 2^64: none, or itself. -/
theorem nr_out (a : Value) (x : Nat) (w : World) (ha : Nr w a x) (hx : x < B64) : Calls Tryz.prog 40 #[a] w fun e w' => ∃ o l c, e = .returned (.slice o l c) ∧ Below w.heap.size w w' ∧ ((x = 0 ∧ l = 0) ∨ (x ≠ 0 ∧ 0 < l ∧ ∃ g f, o = some ⟨g, f, none⟩ ∧ g < w'.heap.size ∧ w'.cell? ⟨g, f, none⟩ = some (.int .u64 (x : Int)))) := by
  obtain ⟨o, c, xs, rfl, h1, h3, h4⟩ := ha
  have hs : Sm x := Nat.lt_of_lt_of_le hx (by
    have := Nat.pow_le_pow_right (show 0 < B64 by decide) (show 1 ≤ 10000 by omega)
    rwa [Nat.pow_one] at this)
  have l1 := nr_len h4 hs
  refine (out_any o _ c xs w (by omega) h1 rfl h3 h4.1).mono ?_
  rintro e w' ⟨ao, cp, os, rfl, a2, a3, a4, a5, a6⟩
  rw [h4.2.2] at a4
  refine ⟨ao, os.length, cp, rfl, a6, ?_⟩
  by_cases h0 : x = 0
  · left
    subst h0
    have := num_zero (b := B64) (by decide) a4.2.1 a4.2.2
    exact ⟨rfl, by rw [this]; rfl⟩
  · right
    have hl : 0 < os.length := by
      rcases hq : os with _ | ⟨z, t⟩
      · rw [hq] at a4; exact absurd a4.2.2.symm h0
      · simp
    have hone : dg os 0 = x := by
      have hle := trimmed_small (xs := os) (t := 1) (by rw [a4.2.2, Nat.pow_one]; exact hx)
      rw [trimmed_of_top a4.2.1] at hle
      have e1 : os.length = 1 := by omega
      have := a4.2.2
      unfold num at this
      rw [e1] at this
      simpa [V] using this
    rcases a3 with h | ⟨b, f, rfl, hb, hc⟩
    · rw [h] at hl; simp at hl
    · refine ⟨h0, hl, b, f, rfl, hb, ?_⟩
      have := hc 0 hl
      rw [Nat.add_zero] at this
      rw [this]
      congr 2
      exact congrArg _ hone

theorem row_one32 (w : World) : Nr (w.alloc (.cells #[.int .u32 1] 34)) (.slice (some ⟨w.heap.size, 0, none⟩) 1 1) 1 := by
  refine ⟨_, _, [1], rfl, Nat.le_refl _, Row.at (k := .u32) (e := 34) (heap_alloc_new w _), ?_, ?_, rfl⟩
  · intro i
    rcases i with _ | i
    · decide
    · simp [dg]
  · intro n hn
    simp at hn
    subst hn; decide

theorem nr_nil {w : World} {o : Option Addr} {l c : Nat} (h : Nr w (.slice o l c) 0) : l = 0 := by
  obtain ⟨o', c', xs, hv, _, _, h4⟩ := h
  have := num_zero (b := 65536) (by omega) h4.2.1 h4.2.2
  cases hv
  rw [this]; rfl

theorem nr_shlz (a : Value) (x n : Nat) (z : Int) (w : World) (hz : z = (n : Int)) (ha : Nr w a x) (hx : Sm x) (hn : n ≤ 65536) : Calls Tryz.prog 50 #[a, .int .i64 z] w (NrPost w (x * 2 ^ n)) := by
  subst hz; exact nr_shl a x n w ha hx hn

set_option maxRecDepth 100000 in
set_option maxHeartbeats 2000000 in
theorem rounded_pos (oo ou : Option Addr) (lo co lu cu o u k : Nat) (w : World) (ho : Nr w (.slice oo lo co) o) (hu : Nr w (.slice ou lu cu) u) (sm : Sm o) (so' : Sm (o * 2 ^ k)) (su' : Sm (u + u)) (hk : k ≤ 65536) (hu0 : u ≠ 0) (h0 : (0 : Int) ≤ (k : Int)) :
    Calls Tryz.prog 39 #[.slice oo lo co, .slice ou lu cu, .int .i64 ((k : Int))] w (NrPost w (rne (o * 2 ^ k) u)) := by
  obtain ⟨o', ho'⟩ : ∃ z, z = (o * 2 ^ k) := ⟨_, rfl⟩
  obtain ⟨u', hu'⟩ : ∃ z, z = u := ⟨_, rfl⟩
  have u0 : u' ≠ 0 := by rw [hu']; exact hu0
  have SH : Hid (Calls Tryz.prog 50 #[.slice oo lo co, .int .i64 (k : Int)] w (NrPost w o')) := by
    rw [ho']; exact nr_shlz _ o k _ w rfl ho sm hk
  have OT : Hid (Nr w (.slice ou lu cu) u') := by rw [hu']; exact hu
  rw [← ho', ← hu']
  rw [← ho'] at so'
  rw [← hu'] at su'
  have rlt := Nat.mod_lt o' (Nat.pos_of_ne_zero u0)
  have qle : o' / u' ≤ o' := Nat.div_le_self _ _
  have SM : Hid (Sm o' ∧ Sm u' ∧ Sm (o' % u') ∧ Sm (o' % u' + o' % u') ∧ Sm (o' / u')) := ⟨so', Nat.lt_of_le_of_lt (by omega) su', Nat.lt_of_le_of_lt (by omega) su', Nat.lt_of_le_of_lt (by omega) su', Nat.lt_of_le_of_lt (by omega) so'⟩
  have U0 := hide u0
  have RL := hide rlt
  clear ho hu sm so' su' hu0 ho' hu' u0 rlt qle
  go_enter Tryz.func39, Tryz.ntmps39
  go_wp2_with fail
  refine SH.out.mono ?_
  rintro e w1 ⟨o1, c1, l1, rfl, n1, b1⟩
  have DV := hide (nr_div _ _ o' u' w1 n1 (OT.out.below b1) SM.out.1 SM.out.2.1 U0.out)
  have NU := hide (OT.out.below b1)
  have HB1 := hide b1
  clear n1 b1 SH OT
  go_wp2_with fail
  refine DV.out.mono ?_
  rintro e w2 ⟨oq, cq, lq, or, cr, lr, rfl, nq, nr, hb2, hdig⟩
  obtain ⟨q, hq⟩ : ∃ q, q = o' / u' := ⟨_, rfl⟩
  obtain ⟨r, hr⟩ : ∃ r, r = o' % u' := ⟨_, rfl⟩
  rw [← hq] at nq hdig
  rw [← hr] at nr
  have NQ := hide nq
  have AD := hide (nr_add _ _ r r w2 nr nr (by rw [hr]; exact SM.out.2.2.1) (by rw [hr]; exact SM.out.2.2.1))
  have NU2 := hide (NU.out.below hb2)
  have HB2 := hide (HB1.out.trans (hb2.mono HB1.out.size))
  have DG : Hid (q ≠ 0 → 0 < lq ∧ ∃ b f d, oq = some ⟨b, f, none⟩ ∧ b < w2.heap.size ∧ w2.cell? ⟨b, f, none⟩ = some (.int .u32 ((d : Nat) : Int)) ∧ d < 65536 ∧ d % 2 = q % 2) := hdig
  clear nq nr hb2 hdig DV NU HB1
  go_wp2_with fail
  refine AD.out.mono ?_
  rintro e w3 ⟨oa, ca, la, rfl, na, hb3⟩
  obtain ⟨z, hz⟩ : ∃ z, cmpN (r + r) u' = z := ⟨_, rfl⟩
  have CM := hide (nr_cmp _ _ (r + r) u' z w3 na (NU2.out.below hb3) (by rw [hr]; exact SM.out.2.2.2.1) SM.out.2.1 hz)
  have T3 := hide hb3
  clear na hb3 AD NU2
  go_wp2_with fail
  refine CM.out.mono ?_
  rintro e w4 ⟨rfl, hb4⟩
  have T4 := hide (T3.out.trans (hb4.mono T3.out.size))
  have HB4 := hide (HB2.out.trans (T4.out.mono HB2.out.size))
  have NQ4 := hide (NQ.out.below T4.out)
  clear hb4 CM T3 HB2
  have ZC : Hid ((z = 1 ∧ rne o' u' = q + 1) ∨ (z = 0 ∧ q % 2 = 1 ∧ rne o' u' = q + 1) ∨ (z = 0 ∧ q % 2 = 0 ∧ rne o' u' = q) ∨ (z = -1 ∧ rne o' u' = q)) := by
    have h2 := RL.out
    rw [← hr] at h2
    rcases cmpN_or (r + r) u' with h1 | h1 | h1
    · have h3 := cmpN_lt h1
      refine .inr (.inr (.inr ⟨by rw [← hz, h1], ?_⟩))
      rw [hq]; exact rne_down (by rw [← hr]; omega)
    · have h3 := cmpN_eq h1
      by_cases hp : q % 2 = 1
      · refine .inr (.inl ⟨by rw [← hz, h1], hp, ?_⟩)
        rw [hq]; exact rne_up (by rw [← hr, ← hq]; omega)
      · refine .inr (.inr (.inl ⟨by rw [← hz, h1], by omega, ?_⟩))
        rw [hq]; exact rne_down (by rw [← hr, ← hq]; omega)
    · have h3 := cmpN_gt h1
      refine .inl ⟨by rw [← hz, h1], ?_⟩
      rw [hq]; exact rne_up (by rw [← hr]; omega)
  have SQ : Hid (Sm q) := by rw [hq]; exact SM.out.2.2.2.2
  have UP : Hid (rne o' u' = q + 1 → Calls Tryz.prog 33 #[.slice oq lq cq, .slice (some ⟨w4.heap.size, 0, none⟩) 1 1] (w4.alloc (.cells #[.int .u32 1] 34)) fun e w' => ∃ o c l, e = .returned (.slice o l c) ∧ Hid (NrPost w (rne o' u') (.returned (.slice o l c)) w')) := by
    intro hN
    have al : Below w4.heap.size w4 (w4.alloc (.cells #[.int .u32 1] 34)) := (Below.refl _ _).alloc (Nat.le_refl _) _
    refine (nr_add _ _ q 1 _ (NQ4.out.below al) (row_one32 w4) SQ.out (Sm.of (k := 1) (by omega) (by omega))).mono ?_
    rintro e w' ⟨o, c, l, rfl, nn, hb⟩
    rw [hN]
    exact ⟨o, c, l, rfl, ⟨o, c, l, rfl, nn, HB4.out.trans ((al.trans (hb.mono al.size)).mono HB4.out.size)⟩⟩
  have DN : Hid (rne o' u' = q → NrPost w (rne o' u') (.returned (.slice oq lq cq)) w4) := fun hN => ⟨oq, cq, lq, rfl, by rw [hN]; exact NQ4.out, HB4.out⟩
  have DG4 : Hid (q ≠ 0 → 0 < lq ∧ ∃ b f d, oq = some ⟨b, f, none⟩ ∧ w4.cell? ⟨b, f, none⟩ = some (.int .u32 ((d : Nat) : Int)) ∧ d % 2 = q % 2) := fun h0 => by
    obtain ⟨h1, b, f, d, h2, h3, h4, h5, h6⟩ := DG.out h0
    exact ⟨h1, b, f, d, h2, by rw [World.cell?_of_block (w := w2) (T4.out.block b h3)]; exact h4, h6⟩
  have NL : Hid (q = 0 → lq = 0) := fun h0 => nr_nil (by have := NQ4.out; rw [h0] at this; exact this)
  clear hz hq hr SM U0 RL NQ NQ4 T4 HB4 DG SQ
  rcases ZC.out with ⟨rfl, hN⟩ | ⟨rfl, hp, hN⟩ | ⟨rfl, hp, hN⟩ | ⟨rfl, hN⟩
  · have U1 := hide (UP.out hN)
    clear UP DN DG4 NL ZC hN
    go_wp2_with fail
    refine U1.out.mono ?_
    rintro e w5 ⟨o5, c5, l5, rfl, FIN⟩
    clear U1
    go_wp2
    go_ret
    exact FIN.out
  · have U1 := hide (UP.out hN)
    obtain ⟨h1, g, f, d, rfl, hc, hpar⟩ := DG4.out (by omega)
    have hl : (0 : Int) < (lq : Int) := by omega
    have hd : ((d : Int) % 2 == 1) = true := by
      have h2 : (d : Int) % 2 = 1 := by omega
      simpa using h2
    clear UP DN DG4 NL ZC hN hp hpar h1
    go_wp2_with fail
    refine U1.out.mono ?_
    rintro e w5 ⟨o5, c5, l5, rfl, FIN⟩
    clear U1
    go_wp2
    go_ret
    exact FIN.out
  · have FIN := hide (DN.out hN)
    by_cases h0 : q = 0
    · obtain rfl := NL.out h0
      clear UP DN DG4 NL ZC hN hp
      go_wp2
      go_ret
      exact FIN.out
    · obtain ⟨h1, g, f, d, rfl, hc, hpar⟩ := DG4.out h0
      have hl : (0 : Int) < (lq : Int) := by omega
      have hd : ((d : Int) % 2 == 1) = false := by
        have h2 : ¬ (d : Int) % 2 = 1 := by omega
        simpa using h2
      clear UP DN DG4 NL ZC hN hp hpar h1 h0
      go_wp2
      go_ret
      exact FIN.out
  · have FIN := hide (DN.out hN)
    clear UP DN DG4 NL ZC hN
    go_wp2
    go_ret
    exact FIN.out

set_option maxRecDepth 100000 in
set_option maxHeartbeats 2000000 in
theorem rounded_neg (oo ou : Option Addr) (lo co lu cu o u k : Nat) (w : World) (ho : Nr w (.slice oo lo co) o) (hu : Nr w (.slice ou lu cu) u) (sm : Sm u) (so' : Sm o) (su' : Sm ((u * 2 ^ k) + (u * 2 ^ k))) (hk : k ≤ 65536) (hu0 : u ≠ 0) (h0 : ¬ (0 : Int) ≤ -(k : Int)) :
    Calls Tryz.prog 39 #[.slice oo lo co, .slice ou lu cu, .int .i64 (-(k : Int))] w (NrPost w (rne o (u * 2 ^ k))) := by
  obtain ⟨o', ho'⟩ : ∃ z, z = o := ⟨_, rfl⟩
  obtain ⟨u', hu'⟩ : ∃ z, z = (u * 2 ^ k) := ⟨_, rfl⟩
  have u0 : u' ≠ 0 := by rw [hu']; exact Nat.mul_ne_zero hu0 (by have : 0 < 2 ^ k := Nat.pow_pos (by omega); omega)
  have SH : Hid (Calls Tryz.prog 50 #[.slice ou lu cu, .int .i64 (k : Int)] w (NrPost w u')) := by
    rw [hu']; exact nr_shlz _ u k _ w rfl hu sm hk
  have OT : Hid (Nr w (.slice oo lo co) o') := by rw [ho']; exact ho
  rw [← ho', ← hu']
  rw [← ho'] at so'
  rw [← hu'] at su'
  have rlt := Nat.mod_lt o' (Nat.pos_of_ne_zero u0)
  have qle : o' / u' ≤ o' := Nat.div_le_self _ _
  have SM : Hid (Sm o' ∧ Sm u' ∧ Sm (o' % u') ∧ Sm (o' % u' + o' % u') ∧ Sm (o' / u')) := ⟨so', Nat.lt_of_le_of_lt (by omega) su', Nat.lt_of_le_of_lt (by omega) su', Nat.lt_of_le_of_lt (by omega) su', Nat.lt_of_le_of_lt (by omega) so'⟩
  have U0 := hide u0
  have RL := hide rlt
  clear ho hu sm so' su' hu0 ho' hu' u0 rlt qle
  go_enter Tryz.func39, Tryz.ntmps39
  go_wp2_with fail
  refine SH.out.mono ?_
  rintro e w1 ⟨o1, c1, l1, rfl, n1, b1⟩
  have DV := hide (nr_div _ _ o' u' w1 (OT.out.below b1) n1 SM.out.1 SM.out.2.1 U0.out)
  have NU := hide (n1)
  have HB1 := hide b1
  clear n1 b1 SH OT
  go_wp2_with fail
  refine DV.out.mono ?_
  rintro e w2 ⟨oq, cq, lq, or, cr, lr, rfl, nq, nr, hb2, hdig⟩
  obtain ⟨q, hq⟩ : ∃ q, q = o' / u' := ⟨_, rfl⟩
  obtain ⟨r, hr⟩ : ∃ r, r = o' % u' := ⟨_, rfl⟩
  rw [← hq] at nq hdig
  rw [← hr] at nr
  have NQ := hide nq
  have AD := hide (nr_add _ _ r r w2 nr nr (by rw [hr]; exact SM.out.2.2.1) (by rw [hr]; exact SM.out.2.2.1))
  have NU2 := hide (NU.out.below hb2)
  have HB2 := hide (HB1.out.trans (hb2.mono HB1.out.size))
  have DG : Hid (q ≠ 0 → 0 < lq ∧ ∃ b f d, oq = some ⟨b, f, none⟩ ∧ b < w2.heap.size ∧ w2.cell? ⟨b, f, none⟩ = some (.int .u32 ((d : Nat) : Int)) ∧ d < 65536 ∧ d % 2 = q % 2) := hdig
  clear nq nr hb2 hdig DV NU HB1
  go_wp2_with fail
  refine AD.out.mono ?_
  rintro e w3 ⟨oa, ca, la, rfl, na, hb3⟩
  obtain ⟨z, hz⟩ : ∃ z, cmpN (r + r) u' = z := ⟨_, rfl⟩
  have CM := hide (nr_cmp _ _ (r + r) u' z w3 na (NU2.out.below hb3) (by rw [hr]; exact SM.out.2.2.2.1) SM.out.2.1 hz)
  have T3 := hide hb3
  clear na hb3 AD NU2
  go_wp2_with fail
  refine CM.out.mono ?_
  rintro e w4 ⟨rfl, hb4⟩
  have T4 := hide (T3.out.trans (hb4.mono T3.out.size))
  have HB4 := hide (HB2.out.trans (T4.out.mono HB2.out.size))
  have NQ4 := hide (NQ.out.below T4.out)
  clear hb4 CM T3 HB2
  have ZC : Hid ((z = 1 ∧ rne o' u' = q + 1) ∨ (z = 0 ∧ q % 2 = 1 ∧ rne o' u' = q + 1) ∨ (z = 0 ∧ q % 2 = 0 ∧ rne o' u' = q) ∨ (z = -1 ∧ rne o' u' = q)) := by
    have h2 := RL.out
    rw [← hr] at h2
    rcases cmpN_or (r + r) u' with h1 | h1 | h1
    · have h3 := cmpN_lt h1
      refine .inr (.inr (.inr ⟨by rw [← hz, h1], ?_⟩))
      rw [hq]; exact rne_down (by rw [← hr]; omega)
    · have h3 := cmpN_eq h1
      by_cases hp : q % 2 = 1
      · refine .inr (.inl ⟨by rw [← hz, h1], hp, ?_⟩)
        rw [hq]; exact rne_up (by rw [← hr, ← hq]; omega)
      · refine .inr (.inr (.inl ⟨by rw [← hz, h1], by omega, ?_⟩))
        rw [hq]; exact rne_down (by rw [← hr, ← hq]; omega)
    · have h3 := cmpN_gt h1
      refine .inl ⟨by rw [← hz, h1], ?_⟩
      rw [hq]; exact rne_up (by rw [← hr]; omega)
  have SQ : Hid (Sm q) := by rw [hq]; exact SM.out.2.2.2.2
  have UP : Hid (rne o' u' = q + 1 → Calls Tryz.prog 33 #[.slice oq lq cq, .slice (some ⟨w4.heap.size, 0, none⟩) 1 1] (w4.alloc (.cells #[.int .u32 1] 34)) fun e w' => ∃ o c l, e = .returned (.slice o l c) ∧ Hid (NrPost w (rne o' u') (.returned (.slice o l c)) w')) := by
    intro hN
    have al : Below w4.heap.size w4 (w4.alloc (.cells #[.int .u32 1] 34)) := (Below.refl _ _).alloc (Nat.le_refl _) _
    refine (nr_add _ _ q 1 _ (NQ4.out.below al) (row_one32 w4) SQ.out (Sm.of (k := 1) (by omega) (by omega))).mono ?_
    rintro e w' ⟨o, c, l, rfl, nn, hb⟩
    rw [hN]
    exact ⟨o, c, l, rfl, ⟨o, c, l, rfl, nn, HB4.out.trans ((al.trans (hb.mono al.size)).mono HB4.out.size)⟩⟩
  have DN : Hid (rne o' u' = q → NrPost w (rne o' u') (.returned (.slice oq lq cq)) w4) := fun hN => ⟨oq, cq, lq, rfl, by rw [hN]; exact NQ4.out, HB4.out⟩
  have DG4 : Hid (q ≠ 0 → 0 < lq ∧ ∃ b f d, oq = some ⟨b, f, none⟩ ∧ w4.cell? ⟨b, f, none⟩ = some (.int .u32 ((d : Nat) : Int)) ∧ d % 2 = q % 2) := fun h0 => by
    obtain ⟨h1, b, f, d, h2, h3, h4, h5, h6⟩ := DG.out h0
    exact ⟨h1, b, f, d, h2, by rw [World.cell?_of_block (w := w2) (T4.out.block b h3)]; exact h4, h6⟩
  have NL : Hid (q = 0 → lq = 0) := fun h0 => nr_nil (by have := NQ4.out; rw [h0] at this; exact this)
  clear hz hq hr SM U0 RL NQ NQ4 T4 HB4 DG SQ
  rcases ZC.out with ⟨rfl, hN⟩ | ⟨rfl, hp, hN⟩ | ⟨rfl, hp, hN⟩ | ⟨rfl, hN⟩
  · have U1 := hide (UP.out hN)
    clear UP DN DG4 NL ZC hN
    go_wp2_with fail
    refine U1.out.mono ?_
    rintro e w5 ⟨o5, c5, l5, rfl, FIN⟩
    clear U1
    go_wp2
    go_ret
    exact FIN.out
  · have U1 := hide (UP.out hN)
    obtain ⟨h1, g, f, d, rfl, hc, hpar⟩ := DG4.out (by omega)
    have hl : (0 : Int) < (lq : Int) := by omega
    have hd : ((d : Int) % 2 == 1) = true := by
      have h2 : (d : Int) % 2 = 1 := by omega
      simpa using h2
    clear UP DN DG4 NL ZC hN hp hpar h1
    go_wp2_with fail
    refine U1.out.mono ?_
    rintro e w5 ⟨o5, c5, l5, rfl, FIN⟩
    clear U1
    go_wp2
    go_ret
    exact FIN.out
  · have FIN := hide (DN.out hN)
    by_cases h0 : q = 0
    · obtain rfl := NL.out h0
      clear UP DN DG4 NL ZC hN hp
      go_wp2
      go_ret
      exact FIN.out
    · obtain ⟨h1, g, f, d, rfl, hc, hpar⟩ := DG4.out h0
      have hl : (0 : Int) < (lq : Int) := by omega
      have hd : ((d : Int) % 2 == 1) = false := by
        have h2 : ¬ (d : Int) % 2 = 1 := by omega
        simpa using h2
      clear UP DN DG4 NL ZC hN hp hpar h1 h0
      go_wp2
      go_ret
      exact FIN.out
  · have FIN := hide (DN.out hN)
    clear UP DN DG4 NL ZC hN
    go_wp2
    go_ret
    exact FIN.out

theorem pow62 : powT 2 30000 * powT 2 32000 * 2 + 1 < B64 ^ 10000 := by decide +kernel

theorem Fit.sm1 {n : Nat} (h : Fit n) {k : Nat} (hk : k ≤ 32000) : Sm (n * 2 ^ k + n * 2 ^ k) ∧ Sm (n * 2 ^ k + 1) := by
  have h1 : 2 ^ k ≤ powT 2 32000 := powT_ge (by omega) hk
  have h2 : n * 2 ^ k ≤ powT 2 30000 * powT 2 32000 := Nat.mul_le_mul (Nat.le_of_lt h) h1
  have h3 := pow62
  exact ⟨Nat.lt_of_le_of_lt (by omega) h3, Nat.lt_of_le_of_lt (by omega) h3⟩

/-- num by den, times 2^-e, to the nearest whole number. -/
theorem rounded_any (oo ou : Option Addr) (lo co lu cu o u : Nat) (e z : Int) (w : World) (hz : z = -e) (ho : Nr w (.slice oo lo co) o) (hu : Nr w (.slice ou lu cu) u) (fo : Fit o) (fu : Fit u) (h1 : -32000 ≤ e) (h2 : e ≤ 32000) (hu0 : u ≠ 0) :
    Calls Tryz.prog 39 #[.slice oo lo co, .slice ou lu cu, .int .i64 z] w (NrPost w (rnd o u e)) := by
  subst hz
  unfold rnd
  by_cases h : 0 ≤ -e
  · obtain ⟨k, hk⟩ : ∃ k : Nat, -e = (k : Int) := ⟨(-e).toNat, by omega⟩
    rw [hk, show ((k : Int)).toNat = k by omega, show e.toNat = 0 by omega, Nat.pow_zero, Nat.mul_one]
    have f0 := fu.sm1 (k := 0) (by omega)
    rw [Nat.pow_zero, Nat.mul_one] at f0
    exact rounded_pos oo ou lo co lu cu o u k w ho hu fo.sm0 (fo.sm (by omega)) f0.1 (by omega) hu0 (by omega)
  · obtain ⟨k, hk⟩ : ∃ k : Nat, e = (k : Int) := ⟨e.toNat, by omega⟩
    subst hk
    rw [show (-(k : Int)).toNat = 0 by omega, show ((k : Int)).toNat = k by omega, Nat.pow_zero, Nat.mul_one]
    exact rounded_neg oo ou lo co lu cu o u k w ho hu fu.sm0 fo.sm0 (fu.sm1 (by omega)).1 (by omega) hu0 h

end Go.Proofs.YtlhekeifffofjaaGreatDoor

namespace Go.Proofs.YtlhekeifffofjaaGreatDoor
open Go.RowKit

theorem or_zero (a : Nat) (ha : a < 18446744073709551616) : bits .or .u64 0 (a : Int) = (a : Int) := by
  have h := bits_or_u64_nat 0 a (by omega) ha
  rw [Nat.zero_or] at h
  exact h

theorem or_sign {a k : Nat} (n : Nat) (hn : n = 2 ^ k) (h : a < n) (hn2 : n < 18446744073709551616) : bits .or .u64 (n : Int) (a : Int) = ((a + n : Nat) : Int) := by
  have h1 := Nat.two_pow_add_eq_or_of_lt (b := a) (i := k) (by rw [← hn]; exact h) 1
  rw [Nat.mul_one, ← hn] at h1
  have h2 := bits_or_u64_nat n a hn2 (by omega)
  rw [h2, ← h1, Nat.add_comm]

theorem bitsN_gt {n k : Nat} (h : k < bitsN n) : 2 ^ k ≤ n := by
  have h0 : n ≠ 0 := fun e => by subst e; simp [bitsN] at h
  obtain ⟨j, e, h1, _⟩ := bitsN_spec h0
  exact Nat.le_trans (Nat.pow_le_pow_right (by omega) (by omega)) h1

theorem bitsN_low {n k : Nat} (h : bitsN n ≤ k) : n < 2 ^ k := by
  by_cases h0 : n = 0
  · subst h0; exact Nat.pow_pos (by omega)
  · obtain ⟨j, e, _, h2⟩ := bitsN_spec h0
    exact Nat.lt_of_lt_of_le h2 (Nat.pow_le_pow_right (by omega) (by omega))

theorem rnd_sm {o u : Nat} {e : Int} (fo : Fit o) (hu : u ≠ 0) (h1 : -32000 ≤ e) : Sm (rnd o u e) := by
  have hq : 0 < u * 2 ^ e.toNat := Nat.mul_pos (by omega) (Nat.pow_pos (by omega))
  have h2 : rnd o u e ≤ o * 2 ^ (-e).toNat := rne_le hq (Nat.le_mul_of_pos_right _ hq)
  exact Nat.lt_of_le_of_lt h2 (fo.sm (by omega))

set_option maxRecDepth 100000 in
set_option maxHeartbeats 1000000 in
theorem rto64_nan (w : World) : Calls Tryz.prog 13 #[k64, dcV 2 false ⟨#[]⟩ 0] w fun e w' => e = .returned (.int .u64 9221120237041090561) ∧ Below w.heap.size w w' := by
  have blkk := (Blk.new w #[.int .i64 52, .int .i64 11] 32).alloc (.cells #[.int .i64 2, .bool false, .string ⟨#[]⟩, .int .i64 0] 23)
  have blkd := Blk.newAt (w.alloc (.cells #[.int .i64 52, .int .i64 11] 32)) (w.heap.size + 1) (by simp) #[.int .i64 2, .bool false, .string ⟨#[]⟩, .int .i64 0] 23
  obtain ⟨W, hW⟩ : ∃ W, W = ((w.alloc (.cells #[.int .i64 52, .int .i64 11] 32)).alloc (.cells #[.int .i64 2, .bool false, .string ⟨#[]⟩, .int .i64 0] 23)) := ⟨_, rfl⟩
  rw [← hW] at blkk blkd
  have HBW : Hid (Below w.heap.size w W) := by rw [hW]; exact ((Below.refl _ _).alloc (Nat.le_refl _) _).alloc (by simp) _
  have BLK := hide blkk
  have BLD := hide blkd
  have x0 : W.cell? ⟨w.heap.size, 0, none⟩ = some (.int .i64 52) := blkk.cell 0
  have x1 : W.cell? ⟨w.heap.size, 1, none⟩ = some (.int .i64 11) := blkk.cell 1
  have y0 : W.cell? ⟨w.heap.size + 1, 0, none⟩ = some (.int .i64 2) := blkd.cell 0
  have y1 : W.cell? ⟨w.heap.size + 1, 1, none⟩ = some (.bool false) := blkd.cell 1
  have y2 : W.cell? ⟨w.heap.size + 1, 2, none⟩ = some (.string ⟨#[]⟩) := blkd.cell 2
  have y3 : W.cell? ⟨w.heap.size + 1, 3, none⟩ = some (.int .i64 0) := blkd.cell 3
  have HW := hide hW
  clear blkk blkd hW
  go_enter Tryz.func13, Tryz.ntmps13
  go_wp2_with fail
  simp only [← HW.out]
  go_quiet (fail)
  go_wp2
  go_ret
  refine ⟨?_, below_drewN HBW.out _⟩
  rw [← show bits .or .u64 (bits .or .u64 9218868437227405312 2251799813685248) 1 = 9221120237041090561 by decide +kernel]
  rfl

set_option maxRecDepth 100000 in
set_option maxHeartbeats 1000000 in
theorem rto64_inf_false (w : World) : Calls Tryz.prog 13 #[k64, dcV 1 false ⟨#[]⟩ 0] w fun e w' => e = .returned (.int .u64 9218868437227405312) ∧ Below w.heap.size w w' := by
  have blkk := (Blk.new w #[.int .i64 52, .int .i64 11] 32).alloc (.cells #[.int .i64 1, .bool false, .string ⟨#[]⟩, .int .i64 0] 23)
  have blkd := Blk.newAt (w.alloc (.cells #[.int .i64 52, .int .i64 11] 32)) (w.heap.size + 1) (by simp) #[.int .i64 1, .bool false, .string ⟨#[]⟩, .int .i64 0] 23
  obtain ⟨W, hW⟩ : ∃ W, W = ((w.alloc (.cells #[.int .i64 52, .int .i64 11] 32)).alloc (.cells #[.int .i64 1, .bool false, .string ⟨#[]⟩, .int .i64 0] 23)) := ⟨_, rfl⟩
  rw [← hW] at blkk blkd
  have HBW : Hid (Below w.heap.size w W) := by rw [hW]; exact ((Below.refl _ _).alloc (Nat.le_refl _) _).alloc (by simp) _
  have BLK := hide blkk
  have BLD := hide blkd
  have x0 : W.cell? ⟨w.heap.size, 0, none⟩ = some (.int .i64 52) := blkk.cell 0
  have x1 : W.cell? ⟨w.heap.size, 1, none⟩ = some (.int .i64 11) := blkk.cell 1
  have y0 : W.cell? ⟨w.heap.size + 1, 0, none⟩ = some (.int .i64 1) := blkd.cell 0
  have y1 : W.cell? ⟨w.heap.size + 1, 1, none⟩ = some (.bool false) := blkd.cell 1
  have y2 : W.cell? ⟨w.heap.size + 1, 2, none⟩ = some (.string ⟨#[]⟩) := blkd.cell 2
  have y3 : W.cell? ⟨w.heap.size + 1, 3, none⟩ = some (.int .i64 0) := blkd.cell 3
  have HW := hide hW
  clear blkk blkd hW
  go_enter Tryz.func13, Tryz.ntmps13
  go_wp2_with fail
  simp only [← HW.out]
  go_quiet (fail)
  go_wp2
  go_ret
  refine ⟨?_, below_drewN HBW.out _⟩
  rw [← show bits .or .u64 0 9218868437227405312 = 9218868437227405312 by decide +kernel]
  rfl

set_option maxRecDepth 100000 in
set_option maxHeartbeats 1000000 in
theorem rto64_zero_false (w : World) : Calls Tryz.prog 13 #[k64, dcV 0 false ⟨#[]⟩ 0] w fun e w' => e = .returned (.int .u64 0) ∧ Below w.heap.size w w' := by
  have blkk := (Blk.new w #[.int .i64 52, .int .i64 11] 32).alloc (.cells #[.int .i64 0, .bool false, .string ⟨#[]⟩, .int .i64 0] 23)
  have blkd := Blk.newAt (w.alloc (.cells #[.int .i64 52, .int .i64 11] 32)) (w.heap.size + 1) (by simp) #[.int .i64 0, .bool false, .string ⟨#[]⟩, .int .i64 0] 23
  obtain ⟨W, hW⟩ : ∃ W, W = ((w.alloc (.cells #[.int .i64 52, .int .i64 11] 32)).alloc (.cells #[.int .i64 0, .bool false, .string ⟨#[]⟩, .int .i64 0] 23)) := ⟨_, rfl⟩
  rw [← hW] at blkk blkd
  have HBW : Hid (Below w.heap.size w W) := by rw [hW]; exact ((Below.refl _ _).alloc (Nat.le_refl _) _).alloc (by simp) _
  have BLK := hide blkk
  have BLD := hide blkd
  have x0 : W.cell? ⟨w.heap.size, 0, none⟩ = some (.int .i64 52) := blkk.cell 0
  have x1 : W.cell? ⟨w.heap.size, 1, none⟩ = some (.int .i64 11) := blkk.cell 1
  have y0 : W.cell? ⟨w.heap.size + 1, 0, none⟩ = some (.int .i64 0) := blkd.cell 0
  have y1 : W.cell? ⟨w.heap.size + 1, 1, none⟩ = some (.bool false) := blkd.cell 1
  have y2 : W.cell? ⟨w.heap.size + 1, 2, none⟩ = some (.string ⟨#[]⟩) := blkd.cell 2
  have y3 : W.cell? ⟨w.heap.size + 1, 3, none⟩ = some (.int .i64 0) := blkd.cell 3
  have HW := hide hW
  clear blkk blkd hW
  go_enter Tryz.func13, Tryz.ntmps13
  go_wp2_with fail
  simp only [← HW.out]
  go_quiet (fail)
  go_wp2
  go_ret
  refine ⟨?_, below_drewN HBW.out _⟩
  rfl

set_option maxRecDepth 100000 in
set_option maxHeartbeats 1000000 in
theorem rto64_inf_true (w : World) : Calls Tryz.prog 13 #[k64, dcV 1 true ⟨#[]⟩ 0] w fun e w' => e = .returned (.int .u64 18442240474082181120) ∧ Below w.heap.size w w' := by
  have blkk := (Blk.new w #[.int .i64 52, .int .i64 11] 32).alloc (.cells #[.int .i64 1, .bool true, .string ⟨#[]⟩, .int .i64 0] 23)
  have blkd := Blk.newAt (w.alloc (.cells #[.int .i64 52, .int .i64 11] 32)) (w.heap.size + 1) (by simp) #[.int .i64 1, .bool true, .string ⟨#[]⟩, .int .i64 0] 23
  obtain ⟨W, hW⟩ : ∃ W, W = ((w.alloc (.cells #[.int .i64 52, .int .i64 11] 32)).alloc (.cells #[.int .i64 1, .bool true, .string ⟨#[]⟩, .int .i64 0] 23)) := ⟨_, rfl⟩
  rw [← hW] at blkk blkd
  have HBW : Hid (Below w.heap.size w W) := by rw [hW]; exact ((Below.refl _ _).alloc (Nat.le_refl _) _).alloc (by simp) _
  have BLK := hide blkk
  have BLD := hide blkd
  have x0 : W.cell? ⟨w.heap.size, 0, none⟩ = some (.int .i64 52) := blkk.cell 0
  have x1 : W.cell? ⟨w.heap.size, 1, none⟩ = some (.int .i64 11) := blkk.cell 1
  have y0 : W.cell? ⟨w.heap.size + 1, 0, none⟩ = some (.int .i64 1) := blkd.cell 0
  have y1 : W.cell? ⟨w.heap.size + 1, 1, none⟩ = some (.bool true) := blkd.cell 1
  have y2 : W.cell? ⟨w.heap.size + 1, 2, none⟩ = some (.string ⟨#[]⟩) := blkd.cell 2
  have y3 : W.cell? ⟨w.heap.size + 1, 3, none⟩ = some (.int .i64 0) := blkd.cell 3
  have HW := hide hW
  clear blkk blkd hW
  go_enter Tryz.func13, Tryz.ntmps13
  go_wp2_with fail
  simp only [← HW.out]
  go_quiet (fail)
  go_wp2
  go_ret
  refine ⟨?_, below_drewN HBW.out _⟩
  rw [← show bits .or .u64 9223372036854775808 9218868437227405312 = 18442240474082181120 by decide +kernel]
  rfl

set_option maxRecDepth 100000 in
set_option maxHeartbeats 1000000 in
theorem rto64_zero_true (w : World) : Calls Tryz.prog 13 #[k64, dcV 0 true ⟨#[]⟩ 0] w fun e w' => e = .returned (.int .u64 9223372036854775808) ∧ Below w.heap.size w w' := by
  have blkk := (Blk.new w #[.int .i64 52, .int .i64 11] 32).alloc (.cells #[.int .i64 0, .bool true, .string ⟨#[]⟩, .int .i64 0] 23)
  have blkd := Blk.newAt (w.alloc (.cells #[.int .i64 52, .int .i64 11] 32)) (w.heap.size + 1) (by simp) #[.int .i64 0, .bool true, .string ⟨#[]⟩, .int .i64 0] 23
  obtain ⟨W, hW⟩ : ∃ W, W = ((w.alloc (.cells #[.int .i64 52, .int .i64 11] 32)).alloc (.cells #[.int .i64 0, .bool true, .string ⟨#[]⟩, .int .i64 0] 23)) := ⟨_, rfl⟩
  rw [← hW] at blkk blkd
  have HBW : Hid (Below w.heap.size w W) := by rw [hW]; exact ((Below.refl _ _).alloc (Nat.le_refl _) _).alloc (by simp) _
  have BLK := hide blkk
  have BLD := hide blkd
  have x0 : W.cell? ⟨w.heap.size, 0, none⟩ = some (.int .i64 52) := blkk.cell 0
  have x1 : W.cell? ⟨w.heap.size, 1, none⟩ = some (.int .i64 11) := blkk.cell 1
  have y0 : W.cell? ⟨w.heap.size + 1, 0, none⟩ = some (.int .i64 0) := blkd.cell 0
  have y1 : W.cell? ⟨w.heap.size + 1, 1, none⟩ = some (.bool true) := blkd.cell 1
  have y2 : W.cell? ⟨w.heap.size + 1, 2, none⟩ = some (.string ⟨#[]⟩) := blkd.cell 2
  have y3 : W.cell? ⟨w.heap.size + 1, 3, none⟩ = some (.int .i64 0) := blkd.cell 3
  have HW := hide hW
  clear blkk blkd hW
  go_enter Tryz.func13, Tryz.ntmps13
  go_wp2_with fail
  simp only [← HW.out]
  go_quiet (fail)
  go_wp2
  go_ret
  refine ⟨?_, below_drewN HBW.out _⟩
  rfl

/-- At the head of To's loop. -/
structure To64Inv (w : World) (o u : Nat) (e : Int) (vo vu vm : Value) (wr : World) : Prop where
  bel : Below w.heap.size w wr
  blk : Blk wr w.heap.size #[.int .i64 52, .int .i64 11] 32
  inv : RInv 52 1074 o u e
  up : e ≤ 31000
  no : Nr wr vo o
  nu : Nr wr vu u
  nm : Nr wr vm (rnd o u e)

/-- What To answers at its loop's end. -/
theorem to64_end {o u : Nat} {e : Int} {wr w : World} {vo vu vm : Value} (h : To64Inv w o u e vo vu vm wr) (ho : o ≠ 0) (hu : u ≠ 0) (hm : rnd o u e < 9007199254740992) : bitsOf 52 1074 (infN 52 11) o u = min ((e + 1074).toNat * 4503599627370496 + rnd o u e) 9218868437227405312 ∧ ((e + 1074).toNat ≠ 0 → 4503599627370496 ≤ rnd o u e) := by
  have e1 : (2 : Nat) ^ 52 = 4503599627370496 := by decide
  obtain ⟨h1, h2⟩ := h.inv.lies (I := infN 52 11) (by omega) (by rw [inf64]) hu (by rw [e1]; omega)
  have h3 := bitsOf_lies (F := 52) (B := 1074) (I := infN 52 11) (by omega) (by rw [inf64]) ho hu
  have h4 := h3.uniq h1 (by omega) (by omega) rfl
  rw [e1] at h4 h2
  rw [inf64] at h4 ⊢
  exact ⟨h4, h2⟩

set_option maxRecDepth 100000 in
set_option maxHeartbeats 4000000 in
theorem rto64_false_neg (t : ByteArray) (ex : Int) (n : Nat) (w : World) (h : DigD (bys t) ex) (hex : ex = -(n : Int)) (hs : ¬ 0 ≤ ex) :
    Calls Tryz.prog 13 #[k64, dcV 0 false t ex] w fun e w' => e = .returned (.int .u64 ((bitsOf 52 1074 (infN 52 11) (decV (bys t) * 10 ^ ex.toNat) (10 ^ (-ex).toNat) : Nat) : Int)) ∧ Below w.heap.size w w' := by
  have NS := Nums.of h
  obtain ⟨h0, h1, h2, h3, h4, h5, h6⟩ := h
  rw [bys_len] at h1 h2 h3
  have hne : t.size ≠ 0 := fun e => h0 (bys_nil.2 e)
  have ht := toList_ne hne
  have hnl : n ≤ 3000 := by omega
  have OFC : Hid (∀ W', Calls Tryz.prog 28 #[.string t] W' (NrPost W' (decV (bys t)))) := fun W' => (rof_any t W' (by omega) h6).mono fun e w' hh => NrPost.of hh
  have PW : Hid (∀ W' z, z = (n : Int) → Calls Tryz.prog 29 #[.int .i64 10, .int .i64 z] W' (NrPost W' (10 ^ n))) := fun W' z hz => nr_pow10 z n W' hz (by omega)
  have s1 : Sm (decV (bys t)) := Sm.of (decV_lt _ _ rfl h6) (by rw [bys_len]; omega)
  have SS : Hid (Sm (decV (bys t)) ∧ Sm (10 ^ n)) := ⟨s1, (fit_pow n hnl).sm0⟩
  obtain ⟨o, ho⟩ : ∃ o, o = decV (bys t) * 10 ^ ex.toNat := ⟨_, rfl⟩
  obtain ⟨u, hu⟩ : ∃ u, u = 10 ^ (-ex).toNat := ⟨_, rfl⟩
  rw [← ho, ← hu] at NS ⊢
  have OU : Hid (decV (bys t) = o ∧ 10 ^ n = u) := by
    refine ⟨by rw [ho, show ex.toNat = 0 by omega, Nat.pow_zero, Nat.mul_one], by rw [hu, show (-ex).toNat = n by omega]⟩
  have bo := NS.fo.bits
  have bu := NS.fu.bits
  obtain ⟨bo', hbo⟩ : ∃ z, z = bitsN o := ⟨_, rfl⟩
  obtain ⟨bu', hbu⟩ : ∃ z, z = bitsN u := ⟨_, rfl⟩
  obtain ⟨e0, he0⟩ : ∃ e : Int, e = max ((bo' : Int) - (bu' : Int) - 52 - 2) (-1074) := ⟨_, rfl⟩
  have ST : Hid (RInv 52 1074 o u e0) := by rw [he0, hbo, hbu]; exact RInv.start NS.o0 NS.u0
  have EN : Hid (∀ e : Int, -1074 ≤ e → 9007199254740992 ≤ rnd o u e → e < (bo' : Int) - (bu' : Int) + 1 - 52) := fun e h1 h2 => by
    rcases Int.lt_or_le e ((bo' : Int) - (bu' : Int) + 1 - 52) with h3 | h3
    · exact h3
    · exfalso
      have := rnd_end (F := 52) (B := 1074) NS.o0 NS.u0 h1 (by rw [← hbo, ← hbu]; exact h3)
      have e1 : (2 : Nat) ^ 52 = 4503599627370496 := by decide
      rw [e1] at this
      omega
  rw [← hbo] at bo
  rw [← hbu] at bu
  have BNO := hide hbo
  have BNU := hide hbu
  have NSH := hide NS
  obtain ⟨r, hr⟩ : ∃ r, r = bitsOf 52 1074 (infN 52 11) o u := ⟨_, rfl⟩
  have HR := hide hr
  have RL : Hid (r ≤ 9218868437227405312) := by show r ≤ 9218868437227405312; rw [hr, ← inf64]; exact bitsOf_le _ _ _ _ _
  rw [← hr]
  obtain ⟨R, hRR⟩ : ∃ R, R = r := ⟨_, rfl⟩
  rw [← hRR]
  have OR : Hid (∀ a : Nat, r = a → bits .or .u64 0 (a : Int) = (R : Int)) := fun a ha => by
    subst ha
    have h1 : r ≤ 9218868437227405312 := RL.out
    rw [hRR]
    exact or_zero r (by omega)
  have R0 : Hid (r = 0 → (R : Int) = 0) := fun h => by rw [hRR, h]; rfl
  clear hRR
  have hex1 : -ex = (n : Int) := by omega
  have HEX := hide hex1
  have hxb : -3000 ≤ ex := by omega
  clear h0 h1 h2 h3 h4 h5 h6 hne s1 ho hu NS hbo hbu hr hex
  have blkk := (Blk.new w #[.int .i64 52, .int .i64 11] 32).alloc (.cells #[.int .i64 0, .bool false, .string t, .int .i64 ex] 23)
  have blkd := Blk.newAt (w.alloc (.cells #[.int .i64 52, .int .i64 11] 32)) (w.heap.size + 1) (by simp) #[.int .i64 0, .bool false, .string t, .int .i64 ex] 23
  obtain ⟨W, hW⟩ : ∃ W, W = ((w.alloc (.cells #[.int .i64 52, .int .i64 11] 32)).alloc (.cells #[.int .i64 0, .bool false, .string t, .int .i64 ex] 23)) := ⟨_, rfl⟩
  rw [← hW] at blkk blkd
  have HBW : Hid (Below w.heap.size w W) := by rw [hW]; exact ((Below.refl _ _).alloc (Nat.le_refl _) _).alloc (by simp) _
  have BLK := hide blkk
  have BLD := hide blkd
  have x0 : W.cell? ⟨w.heap.size, 0, none⟩ = some (.int .i64 52) := blkk.cell 0
  have x1 : W.cell? ⟨w.heap.size, 1, none⟩ = some (.int .i64 11) := blkk.cell 1
  have y0 : W.cell? ⟨w.heap.size + 1, 0, none⟩ = some (.int .i64 0) := blkd.cell 0
  have y1 : W.cell? ⟨w.heap.size + 1, 1, none⟩ = some (.bool false) := blkd.cell 1
  have y2 : W.cell? ⟨w.heap.size + 1, 2, none⟩ = some (.string t) := blkd.cell 2
  have y3 : W.cell? ⟨w.heap.size + 1, 3, none⟩ = some (.int .i64 ex) := blkd.cell 3
  have HW := hide hW
  clear blkk blkd hW
  go_enter Tryz.func13, Tryz.ntmps13
  go_wp2_with fail
  simp only [← HW.out]
  go_quiet (fail)
  go_wp2_with fail
  refine (OFC.out _).mono ?_
  rintro e w1 ⟨o1, c1, l1, rfl, n1, b1⟩
  have AL : Hid (Below w1.heap.size w1 (w1.alloc (.cells #[.int .u32 1] 34))) := (Below.refl _ _).alloc (Nat.le_refl _) _
  have HB1 := hide (HBW.out.trans (((below_drewN (Below.refl _ _) _).trans (b1.mono (Nat.le_refl _)) |>.trans (AL.out.mono b1.size)).mono HBW.out.size))
  have BK1 := hide (BLK.out.below ((below_drewN (Below.refl _ _) _).trans (b1.mono (Nat.le_refl _)) |>.trans (AL.out.mono b1.size)) BLK.out.lt)
  have BD1 := hide (BLD.out.below ((below_drewN (Below.refl _ _) _).trans (b1.mono (Nat.le_refl _)) |>.trans (AL.out.mono b1.size)) BLD.out.lt)
  have N1 := hide (n1.below AL.out)
  have N2 := hide (row_one32 w1)
  obtain ⟨V, hV⟩ : ∃ V, V = w1.alloc (.cells #[.int .u32 1] 34) := ⟨_, rfl⟩
  obtain ⟨g1, hg1⟩ : ∃ g, g = w1.heap.size := ⟨_, rfl⟩
  rw [← hV] at HB1 BK1 BD1 N1 N2
  rw [← hg1] at N2
  have z3 : V.cell? ⟨w.heap.size + 1, 3, none⟩ = some (.int .i64 ex) := BD1.out.cell 3
  have HVH := hide hV
  have HGH := hide hg1
  clear n1 b1 AL OFC HBW BLK BLD x0 x1 y0 y1 y2 y3 HW hV hg1
  go_wp2_with (simp only [← HVH.out, ← HGH.out])
  refine (PW.out _ _ (by first | rfl | exact HEX.out)).mono ?_
  rintro e wz ⟨o2, c2, l2, rfl, n2, b2⟩
  rw [OU.out.2] at n2
  have T3 := hide b2
  have NU := hide n2
  have NO : Hid (Nr wz (.slice o1 l1 c1) o) := by rw [← OU.out.1]; exact N1.out.below b2
  clear n2 b2 N1
  have HBZ := hide (HB1.out.trans (T3.out.mono HB1.out.size))
  have BKZ := hide (BK1.out.below T3.out BK1.out.lt)
  have x0 : wz.cell? ⟨w.heap.size, 0, none⟩ = some (.int .i64 52) := BKZ.out.cell 0
  have x1 : wz.cell? ⟨w.heap.size, 1, none⟩ = some (.int .i64 11) := BKZ.out.cell 1
  have BO : Hid (∀ n, Calls Tryz.prog 37 #[.slice o1 l1 c1] (wz.drewN n) fun e w' => e = .returned (.int .i64 (bo' : Int)) ∧ w' = wz.drewN n) := fun n => by
    refine (nr_bits _ o _ (NO.out.below (below_drewN (Below.refl _ _) n)) NSH.out.fo.sm0).mono ?_
    rintro e w' ⟨rfl, rfl⟩
    rw [BNO.out]; exact ⟨rfl, rfl⟩
  have BU : Hid (∀ n, Calls Tryz.prog 37 #[.slice o2 l2 c2] (wz.drewN n) fun e w' => e = .returned (.int .i64 (bu' : Int)) ∧ w' = wz.drewN n) := fun n => by
    refine (nr_bits _ u _ (NU.out.below (below_drewN (Below.refl _ _) n)) NSH.out.fu.sm0).mono ?_
    rintro e w' ⟨rfl, rfl⟩
    rw [BNU.out]; exact ⟨rfl, rfl⟩
  have RD : Hid (∀ W' z (e : Int), z = -e → -32000 ≤ e → e ≤ 32000 → Below wz.heap.size wz W' → Calls Tryz.prog 39 #[.slice o1 l1 c1, .slice o2 l2 c2, .int .i64 z] W' (NrPost W' (rnd o u e))) := fun W' z e hz h1 h2 hb => rounded_any _ _ _ _ _ _ o u e z W' hz (NO.out.below hb) (NU.out.below hb) NSH.out.fo NSH.out.fu h1 h2 NSH.out.u0
  have HE0 := hide he0
  clear T3 N2 z3 HB1 BK1 BD1 HVH HGH SS OU PW HEX BNO BNU he0
  go_wp2_with fail
  go_quiet (first | (go_at_call 37; with_reducible refine Calls.quiet_of_same (BO.out _)) | (go_at_call 37; with_reducible refine Calls.quiet_of_same (BU.out _)))
  clear BO BU
  go_wp2_with fail
  refine (bias64 _).mono ?_
  rintro e w4 ⟨rfl, b4⟩
  have T4 : Hid (Below wz.heap.size wz w4) := (below_drewN (Below.refl _ _) _).trans (b4.mono (Nat.le_refl _))
  have q4 := BKZ.out.below T4.out BKZ.out.lt
  have x04 : w4.cell? ⟨w.heap.size, 0, none⟩ = some (.int .i64 52) := q4.cell 0
  have x14 : w4.cell? ⟨w.heap.size, 1, none⟩ = some (.int .i64 11) := q4.cell 1
  clear b4 q4 x0 x1
  by_cases hc : (bo' : Int) - (bu' : Int) - 52 - 2 < -1074
  · have he : e0 = -1074 := by have := HE0.out; omega
    have HEE := hide he
    clear he HE0
    go_wp2_with fail
    refine (bias64 _).mono ?_
    rintro e w5 ⟨rfl, b5⟩
    have T5 := hide (T4.out.trans (b5.mono T4.out.size))
    clear b5 T4 x04 x14
    go_wp2_with fail
    refine (RD.out _ _ e0 (by have := HEE.out; omega) (by have := HEE.out; omega) (by have := HEE.out; omega) T5.out).mono ?_
    rintro e w6 ⟨om, cm, lm, rfl, nm, b6⟩
    have START : Hid (To64Inv w o u (-1074) (.slice o1 l1 c1) (.slice o2 l2 c2) (.slice om lm cm) w6) := by
      have t6 := T5.out.trans (b6.mono T5.out.size)
      have := ST.out
      rw [HEE.out] at this nm
      exact ⟨HBZ.out.trans (t6.mono HBZ.out.size), BKZ.out.below t6 BKZ.out.lt, this, by omega, NO.out.below t6, NU.out.below t6, nm⟩
    clear nm b6 T5 ST HBZ BKZ NO NU RD hc
    go_wp2
    go_loopw [9, 10] (fun ve vm wr => ∃ (e : Int) (om : Option Addr) (lm cm : Nat), ve = .int .i64 e ∧ vm = .slice om lm cm ∧ To64Inv w o u e (.slice o1 l1 c1) (.slice o2 l2 c2) (.slice om lm cm) wr) (fun ve _ _ => ((bo' : Int) - (bu' : Int) + 1 - 52 - intOf ve).toNat)
    case atStart => exact ⟨-1074, om, lm, cm, rfl, rfl, START.out⟩
    case round =>
      clear START
      obtain ⟨e, om, lm, cm, rfl, rfl, hinv⟩ := hrel
      have HI := hide hinv
      have heL := hinv.inv.1
      have heU := hinv.up
      clear hinv
      have x0 : wr.cell? ⟨w.heap.size, 0, none⟩ = some (.int .i64 52) := HI.out.blk.cell 0
      obtain ⟨m, hm⟩ : ∃ m, m = rnd o u e := ⟨_, rfl⟩
      obtain ⟨bm, hbm⟩ : ∃ z, z = bitsN m := ⟨_, rfl⟩
      have BM : Hid (∀ n, Calls Tryz.prog 37 #[.slice om lm cm] (wr.drewN n) fun e w' => e = .returned (.int .i64 (bm : Int)) ∧ w' = wr.drewN n) := fun n => by
        refine (nr_bits _ m _ (by rw [hm]; exact HI.out.nm.below (below_drewN (Below.refl _ _) n)) (by rw [hm]; exact rnd_sm NSH.out.fo NSH.out.u0 (by omega))).mono ?_
        rintro e w' ⟨rfl, rfl⟩
        rw [hbm]; exact ⟨rfl, rfl⟩
      have HM := hide hm
      have HBM := hide hbm
      clear hm hbm
      go_wp2_with fail
      go_quiet (first | (go_at_call 37; with_reducible refine Calls.quiet_of_same (BM.out _)))
      clear BM
      by_cases hb : 53 < bm
      · have hb' : (53 : Int) < (bm : Int) := by omega
        have hlt : e < (bo' : Int) - (bu' : Int) + 1 - 52 := EN.out e heL (by
          rw [← HM.out]
          exact bitsN_gt (k := 53) (by rw [← HBM.out]; exact hb))
        have NX : Hid (RInv 52 1074 o u (e + 1)) := HI.out.inv.step NSH.out.u0 (by
          rw [← HM.out]
          have := bitsN_gt (n := m) (k := 53) (by rw [← HBM.out]; exact hb)
          have e1 : 2 * 2 ^ 52 = 2 ^ 53 := by decide
          omega)
        have RD : Hid (∀ n z, z = -(e + 1) → Calls Tryz.prog 39 #[.slice o1 l1 c1, .slice o2 l2 c2, .int .i64 z] (wr.drewN n) (NrPost (wr.drewN n) (rnd o u (e + 1)))) := fun n z hz => rounded_any _ _ _ _ _ _ o u (e + 1) z _ hz (HI.out.no.below (below_drewN (Below.refl _ _) n)) (HI.out.nu.below (below_drewN (Below.refl _ _) n)) NSH.out.fo NSH.out.fu (by omega) (by omega) NSH.out.u0
        clear hb
        go_wp2_with fail
        refine (RD.out _ _ (by omega)).mono ?_
        rintro e2 w7 ⟨om2, cm2, lm2, rfl, nm2, b7⟩
        have T7 : Hid (Below wr.heap.size wr w7) := (below_drewN (Below.refl _ _) _).trans (b7.mono (Nat.le_refl _))
        have NEXT : Hid (To64Inv w o u (e + 1) (.slice o1 l1 c1) (.slice o2 l2 c2) (.slice om2 lm2 cm2) w7) := ⟨HI.out.bel.trans (T7.out.mono HI.out.bel.size), HI.out.blk.below T7.out HI.out.blk.lt, NX.out, by omega, HI.out.no.below T7.out, HI.out.nu.below T7.out, nm2⟩
        clear nm2 b7 T7 NX RD HI
        go_wp2
        go_roundw
        case rel => exact ⟨e + 1, om2, lm2, cm2, by go_num, rfl, NEXT.out⟩
        case measure => simp [intOf]; omega
      · have hb' : ¬ (53 : Int) < (bm : Int) := by omega
        have mlt : m < 9007199254740992 := bitsN_low (k := 53) (by rw [← HBM.out]; omega)
        obtain ⟨s, hse⟩ : ∃ s : Nat, e = (s : Int) - 1074 := ⟨(e + 1074).toNat, by omega⟩
        have hs1 : s ≤ 33000 := by omega
        have ED := to64_end HI.out NSH.out.o0 NSH.out.u0 (by rw [← HM.out]; exact mlt)
        rw [← HM.out, ← HR.out, show (e + 1074).toNat = s by omega] at ED
        have RE := hide ED
        have OUTC : Hid (∀ n, Calls Tryz.prog 40 #[.slice om lm cm] (wr.drewN n) fun e w' => ∃ o l c, e = .returned (.slice o l c) ∧ Hid (Below wr.heap.size wr w') ∧ ((m = 0 ∧ l = 0) ∨ (m ≠ 0 ∧ 0 < l ∧ ∃ g f, o = some ⟨g, f, none⟩ ∧ g < w'.heap.size ∧ w'.cell? ⟨g, f, none⟩ = some (.int .u64 (m : Int))))) := fun n => by
          refine (nr_out _ m _ (by rw [HM.out]; exact HI.out.nm.below (below_drewN (Below.refl _ _) n)) (by unfold B64; omega)).mono ?_
          rintro e w' ⟨oo, ll, cc, rfl, h1, h2⟩
          exact ⟨oo, ll, cc, rfl, (below_drewN (Below.refl _ _) _).trans (h1.mono (Nat.le_refl _)), h2⟩
        have BLR := hide HI.out.blk
        have BEL := hide HI.out.bel
        clear ED HI HM HBM EN heL heU hb
        subst hse
        go_wp2_with fail
        refine (OUTC.out _).mono ?_
        rintro e w5 ⟨ol, ll, cl, rfl, b5, hcase⟩
        have BEL5 := hide (BEL.out.trans (b5.out.mono BEL.out.size))
        have BLR5 := hide (BLR.out.below b5.out BLR.out.lt)
        clear b5 BEL BLR OUTC x0
        rcases hcase with ⟨hm0, rfl⟩ | ⟨hm0, hl, g, f, rfl, hg, hcell⟩
        · have hr0 : r = 0 := by
            obtain ⟨h1, h2⟩ := RE.out
            rcases Nat.eq_zero_or_pos s with h3 | h3
            · rw [h1, h3, hm0]; rfl
            · have := h2 (by omega); omega
          have HR0 := hide (R0.out hr0)
          clear RE RL hm0 hr0 OR R0
          go_wp2
          go_ret
          refine ⟨?_, BEL5.out⟩
          rw [HR0.out]
          rfl
        · have hl' : (0 : Int) < (ll : Int) := by omega
          have hl'' : ¬ (ll : Int) = 0 := by omega
          have x05 : w5.cell? ⟨w.heap.size, 0, none⟩ = some (.int .i64 52) := BLR5.out.cell 0
          have x15 : w5.cell? ⟨w.heap.size, 1, none⟩ = some (.int .i64 11) := BLR5.out.cell 1
          go_wp2_with fail
          refine (bias64 _).mono ?_
          rintro e w6 ⟨rfl, b6⟩
          have BEL6 := hide (BEL5.out.trans (b6.mono BEL5.out.size))
          have q6 := BLR5.out.below b6 BLR5.out.lt
          have x06 : w6.cell? ⟨w.heap.size, 0, none⟩ = some (.int .i64 52) := q6.cell 0
          have x16 : w6.cell? ⟨w.heap.size, 1, none⟩ = some (.int .i64 11) := q6.cell 1
          have hc6 : w6.cell? ⟨g, f, none⟩ = some (.int .u64 (m : Int)) := by rw [World.cell?_of_block (w := w5) (b6.block g hg)]; exact hcell
          clear b6 q6 BEL5 BLR5 x05 x15 hcell hg
          by_cases hx : 2047 ≤ s
          · have hx' : (2047 : Int) ≤ (s : Int) := by omega
            have hrI : r = 9218868437227405312 := by have := RE.out.1; omega
            have FV := hide (OR.out 9218868437227405312 hrI)
            clear RE RL hx hrI OR R0
            go_wp2
            go_ret
            refine ⟨?_, BEL6.out⟩
            rw [← FV.out]
            rfl
          · have hx' : ¬ (2047 : Int) ≤ (s : Int) := by omega
            go_wp2_with fail
            go_quiet (fail)
            by_cases hge : 9218868437227405312 ≤ s * 4503599627370496 + m
            · have hge' : (9218868437227405312 : Int) ≤ (s : Int) * 4503599627370496 + (m : Int) := by omega
              have hrI : r = 9218868437227405312 := by have := RE.out.1; omega
              have FV := hide (OR.out 9218868437227405312 hrI)
              clear RE RL hx hge hrI OR R0
              go_wp2
              go_ret
              refine ⟨?_, below_drewN BEL6.out _⟩
              rw [← FV.out]
              rfl
            · have hge' : ¬ (9218868437227405312 : Int) ≤ (s : Int) * 4503599627370496 + (m : Int) := by omega
              have hrI : r = s * 4503599627370496 + m := by have := RE.out.1; omega
              have FV := hide (OR.out (s * 4503599627370496 + m) hrI)
              clear RE RL hx hge hrI OR R0
              go_wp2
              go_ret
              refine ⟨?_, below_drewN BEL6.out _⟩
              rw [← FV.out, show ((s * 4503599627370496 + m : Nat) : Int) = (s : Int) * 4503599627370496 + (m : Int) by omega]
              rfl

  · have he : e0 = (bo' : Int) - (bu' : Int) - 52 - 2 := by have := HE0.out; omega
    have HEE := hide he
    clear he HE0
    go_wp2_with fail
    refine (RD.out _ _ e0 (by have := HEE.out; omega) (by have := HEE.out; omega) (by have := HEE.out; omega) T4.out).mono ?_
    rintro e w6 ⟨om, cm, lm, rfl, nm, b6⟩
    have START : Hid (To64Inv w o u ((bo' : Int) - (bu' : Int) - 52 - 2) (.slice o1 l1 c1) (.slice o2 l2 c2) (.slice om lm cm) w6) := by
      have t6 := T4.out.trans (b6.mono T4.out.size)
      have := ST.out
      rw [HEE.out] at this nm
      exact ⟨HBZ.out.trans (t6.mono HBZ.out.size), BKZ.out.below t6 BKZ.out.lt, this, by omega, NO.out.below t6, NU.out.below t6, nm⟩
    clear nm b6 T4 ST HBZ BKZ NO NU RD hc x04 x14
    go_wp2
    go_loopw [9, 10] (fun ve vm wr => ∃ (e : Int) (om : Option Addr) (lm cm : Nat), ve = .int .i64 e ∧ vm = .slice om lm cm ∧ To64Inv w o u e (.slice o1 l1 c1) (.slice o2 l2 c2) (.slice om lm cm) wr) (fun ve _ _ => ((bo' : Int) - (bu' : Int) + 1 - 52 - intOf ve).toNat)
    case atStart => exact ⟨(bo' : Int) - (bu' : Int) - 52 - 2, om, lm, cm, rfl, rfl, START.out⟩
    case round =>
      clear START
      obtain ⟨e, om, lm, cm, rfl, rfl, hinv⟩ := hrel
      have HI := hide hinv
      have heL := hinv.inv.1
      have heU := hinv.up
      clear hinv
      have x0 : wr.cell? ⟨w.heap.size, 0, none⟩ = some (.int .i64 52) := HI.out.blk.cell 0
      obtain ⟨m, hm⟩ : ∃ m, m = rnd o u e := ⟨_, rfl⟩
      obtain ⟨bm, hbm⟩ : ∃ z, z = bitsN m := ⟨_, rfl⟩
      have BM : Hid (∀ n, Calls Tryz.prog 37 #[.slice om lm cm] (wr.drewN n) fun e w' => e = .returned (.int .i64 (bm : Int)) ∧ w' = wr.drewN n) := fun n => by
        refine (nr_bits _ m _ (by rw [hm]; exact HI.out.nm.below (below_drewN (Below.refl _ _) n)) (by rw [hm]; exact rnd_sm NSH.out.fo NSH.out.u0 (by omega))).mono ?_
        rintro e w' ⟨rfl, rfl⟩
        rw [hbm]; exact ⟨rfl, rfl⟩
      have HM := hide hm
      have HBM := hide hbm
      clear hm hbm
      go_wp2_with fail
      go_quiet (first | (go_at_call 37; with_reducible refine Calls.quiet_of_same (BM.out _)))
      clear BM
      by_cases hb : 53 < bm
      · have hb' : (53 : Int) < (bm : Int) := by omega
        have hlt : e < (bo' : Int) - (bu' : Int) + 1 - 52 := EN.out e heL (by
          rw [← HM.out]
          exact bitsN_gt (k := 53) (by rw [← HBM.out]; exact hb))
        have NX : Hid (RInv 52 1074 o u (e + 1)) := HI.out.inv.step NSH.out.u0 (by
          rw [← HM.out]
          have := bitsN_gt (n := m) (k := 53) (by rw [← HBM.out]; exact hb)
          have e1 : 2 * 2 ^ 52 = 2 ^ 53 := by decide
          omega)
        have RD : Hid (∀ n z, z = -(e + 1) → Calls Tryz.prog 39 #[.slice o1 l1 c1, .slice o2 l2 c2, .int .i64 z] (wr.drewN n) (NrPost (wr.drewN n) (rnd o u (e + 1)))) := fun n z hz => rounded_any _ _ _ _ _ _ o u (e + 1) z _ hz (HI.out.no.below (below_drewN (Below.refl _ _) n)) (HI.out.nu.below (below_drewN (Below.refl _ _) n)) NSH.out.fo NSH.out.fu (by omega) (by omega) NSH.out.u0
        clear hb
        go_wp2_with fail
        refine (RD.out _ _ (by omega)).mono ?_
        rintro e2 w7 ⟨om2, cm2, lm2, rfl, nm2, b7⟩
        have T7 : Hid (Below wr.heap.size wr w7) := (below_drewN (Below.refl _ _) _).trans (b7.mono (Nat.le_refl _))
        have NEXT : Hid (To64Inv w o u (e + 1) (.slice o1 l1 c1) (.slice o2 l2 c2) (.slice om2 lm2 cm2) w7) := ⟨HI.out.bel.trans (T7.out.mono HI.out.bel.size), HI.out.blk.below T7.out HI.out.blk.lt, NX.out, by omega, HI.out.no.below T7.out, HI.out.nu.below T7.out, nm2⟩
        clear nm2 b7 T7 NX RD HI
        go_wp2
        go_roundw
        case rel => exact ⟨e + 1, om2, lm2, cm2, by go_num, rfl, NEXT.out⟩
        case measure => simp [intOf]; omega
      · have hb' : ¬ (53 : Int) < (bm : Int) := by omega
        have mlt : m < 9007199254740992 := bitsN_low (k := 53) (by rw [← HBM.out]; omega)
        obtain ⟨s, hse⟩ : ∃ s : Nat, e = (s : Int) - 1074 := ⟨(e + 1074).toNat, by omega⟩
        have hs1 : s ≤ 33000 := by omega
        have ED := to64_end HI.out NSH.out.o0 NSH.out.u0 (by rw [← HM.out]; exact mlt)
        rw [← HM.out, ← HR.out, show (e + 1074).toNat = s by omega] at ED
        have RE := hide ED
        have OUTC : Hid (∀ n, Calls Tryz.prog 40 #[.slice om lm cm] (wr.drewN n) fun e w' => ∃ o l c, e = .returned (.slice o l c) ∧ Hid (Below wr.heap.size wr w') ∧ ((m = 0 ∧ l = 0) ∨ (m ≠ 0 ∧ 0 < l ∧ ∃ g f, o = some ⟨g, f, none⟩ ∧ g < w'.heap.size ∧ w'.cell? ⟨g, f, none⟩ = some (.int .u64 (m : Int))))) := fun n => by
          refine (nr_out _ m _ (by rw [HM.out]; exact HI.out.nm.below (below_drewN (Below.refl _ _) n)) (by unfold B64; omega)).mono ?_
          rintro e w' ⟨oo, ll, cc, rfl, h1, h2⟩
          exact ⟨oo, ll, cc, rfl, (below_drewN (Below.refl _ _) _).trans (h1.mono (Nat.le_refl _)), h2⟩
        have BLR := hide HI.out.blk
        have BEL := hide HI.out.bel
        clear ED HI HM HBM EN heL heU hb
        subst hse
        go_wp2_with fail
        refine (OUTC.out _).mono ?_
        rintro e w5 ⟨ol, ll, cl, rfl, b5, hcase⟩
        have BEL5 := hide (BEL.out.trans (b5.out.mono BEL.out.size))
        have BLR5 := hide (BLR.out.below b5.out BLR.out.lt)
        clear b5 BEL BLR OUTC x0
        rcases hcase with ⟨hm0, rfl⟩ | ⟨hm0, hl, g, f, rfl, hg, hcell⟩
        · have hr0 : r = 0 := by
            obtain ⟨h1, h2⟩ := RE.out
            rcases Nat.eq_zero_or_pos s with h3 | h3
            · rw [h1, h3, hm0]; rfl
            · have := h2 (by omega); omega
          have HR0 := hide (R0.out hr0)
          clear RE RL hm0 hr0 OR R0
          go_wp2
          go_ret
          refine ⟨?_, BEL5.out⟩
          rw [HR0.out]
          rfl
        · have hl' : (0 : Int) < (ll : Int) := by omega
          have hl'' : ¬ (ll : Int) = 0 := by omega
          have x05 : w5.cell? ⟨w.heap.size, 0, none⟩ = some (.int .i64 52) := BLR5.out.cell 0
          have x15 : w5.cell? ⟨w.heap.size, 1, none⟩ = some (.int .i64 11) := BLR5.out.cell 1
          go_wp2_with fail
          refine (bias64 _).mono ?_
          rintro e w6 ⟨rfl, b6⟩
          have BEL6 := hide (BEL5.out.trans (b6.mono BEL5.out.size))
          have q6 := BLR5.out.below b6 BLR5.out.lt
          have x06 : w6.cell? ⟨w.heap.size, 0, none⟩ = some (.int .i64 52) := q6.cell 0
          have x16 : w6.cell? ⟨w.heap.size, 1, none⟩ = some (.int .i64 11) := q6.cell 1
          have hc6 : w6.cell? ⟨g, f, none⟩ = some (.int .u64 (m : Int)) := by rw [World.cell?_of_block (w := w5) (b6.block g hg)]; exact hcell
          clear b6 q6 BEL5 BLR5 x05 x15 hcell hg
          by_cases hx : 2047 ≤ s
          · have hx' : (2047 : Int) ≤ (s : Int) := by omega
            have hrI : r = 9218868437227405312 := by have := RE.out.1; omega
            have FV := hide (OR.out 9218868437227405312 hrI)
            clear RE RL hx hrI OR R0
            go_wp2
            go_ret
            refine ⟨?_, BEL6.out⟩
            rw [← FV.out]
            rfl
          · have hx' : ¬ (2047 : Int) ≤ (s : Int) := by omega
            go_wp2_with fail
            go_quiet (fail)
            by_cases hge : 9218868437227405312 ≤ s * 4503599627370496 + m
            · have hge' : (9218868437227405312 : Int) ≤ (s : Int) * 4503599627370496 + (m : Int) := by omega
              have hrI : r = 9218868437227405312 := by have := RE.out.1; omega
              have FV := hide (OR.out 9218868437227405312 hrI)
              clear RE RL hx hge hrI OR R0
              go_wp2
              go_ret
              refine ⟨?_, below_drewN BEL6.out _⟩
              rw [← FV.out]
              rfl
            · have hge' : ¬ (9218868437227405312 : Int) ≤ (s : Int) * 4503599627370496 + (m : Int) := by omega
              have hrI : r = s * 4503599627370496 + m := by have := RE.out.1; omega
              have FV := hide (OR.out (s * 4503599627370496 + m) hrI)
              clear RE RL hx hge hrI OR R0
              go_wp2
              go_ret
              refine ⟨?_, below_drewN BEL6.out _⟩
              rw [← FV.out, show ((s * 4503599627370496 + m : Nat) : Int) = (s : Int) * 4503599627370496 + (m : Int) by omega]
              rfl

set_option maxRecDepth 100000 in
set_option maxHeartbeats 4000000 in
theorem rto64_false_pos (t : ByteArray) (ex : Int) (n : Nat) (w : World) (h : DigD (bys t) ex) (hex : ex = (n : Int)) (hs : 0 ≤ ex) :
    Calls Tryz.prog 13 #[k64, dcV 0 false t ex] w fun e w' => e = .returned (.int .u64 ((bitsOf 52 1074 (infN 52 11) (decV (bys t) * 10 ^ ex.toNat) (10 ^ (-ex).toNat) : Nat) : Int)) ∧ Below w.heap.size w w' := by
  have NS := Nums.of h
  obtain ⟨h0, h1, h2, h3, h4, h5, h6⟩ := h
  rw [bys_len] at h1 h2 h3
  have hne : t.size ≠ 0 := fun e => h0 (bys_nil.2 e)
  have ht := toList_ne hne
  have hnl : n ≤ 3000 := by omega
  have OFC : Hid (∀ W', Calls Tryz.prog 28 #[.string t] W' (NrPost W' (decV (bys t)))) := fun W' => (rof_any t W' (by omega) h6).mono fun e w' hh => NrPost.of hh
  have PW : Hid (∀ W' z, z = (n : Int) → Calls Tryz.prog 29 #[.int .i64 10, .int .i64 z] W' (NrPost W' (10 ^ n))) := fun W' z hz => nr_pow10 z n W' hz (by omega)
  have s1 : Sm (decV (bys t)) := Sm.of (decV_lt _ _ rfl h6) (by rw [bys_len]; omega)
  have SS : Hid (Sm (decV (bys t)) ∧ Sm (10 ^ n)) := ⟨s1, (fit_pow n hnl).sm0⟩
  obtain ⟨o, ho⟩ : ∃ o, o = decV (bys t) * 10 ^ ex.toNat := ⟨_, rfl⟩
  obtain ⟨u, hu⟩ : ∃ u, u = 10 ^ (-ex).toNat := ⟨_, rfl⟩
  rw [← ho, ← hu] at NS ⊢
  have OU : Hid (decV (bys t) * 10 ^ n = o ∧ 1 = u) := by
    refine ⟨by rw [ho, show ex.toNat = n by omega], by rw [hu, show (-ex).toNat = 0 by omega, Nat.pow_zero]⟩
  have bo := NS.fo.bits
  have bu := NS.fu.bits
  obtain ⟨bo', hbo⟩ : ∃ z, z = bitsN o := ⟨_, rfl⟩
  obtain ⟨bu', hbu⟩ : ∃ z, z = bitsN u := ⟨_, rfl⟩
  obtain ⟨e0, he0⟩ : ∃ e : Int, e = max ((bo' : Int) - (bu' : Int) - 52 - 2) (-1074) := ⟨_, rfl⟩
  have ST : Hid (RInv 52 1074 o u e0) := by rw [he0, hbo, hbu]; exact RInv.start NS.o0 NS.u0
  have EN : Hid (∀ e : Int, -1074 ≤ e → 9007199254740992 ≤ rnd o u e → e < (bo' : Int) - (bu' : Int) + 1 - 52) := fun e h1 h2 => by
    rcases Int.lt_or_le e ((bo' : Int) - (bu' : Int) + 1 - 52) with h3 | h3
    · exact h3
    · exfalso
      have := rnd_end (F := 52) (B := 1074) NS.o0 NS.u0 h1 (by rw [← hbo, ← hbu]; exact h3)
      have e1 : (2 : Nat) ^ 52 = 4503599627370496 := by decide
      rw [e1] at this
      omega
  rw [← hbo] at bo
  rw [← hbu] at bu
  have BNO := hide hbo
  have BNU := hide hbu
  have NSH := hide NS
  obtain ⟨r, hr⟩ : ∃ r, r = bitsOf 52 1074 (infN 52 11) o u := ⟨_, rfl⟩
  have HR := hide hr
  have RL : Hid (r ≤ 9218868437227405312) := by show r ≤ 9218868437227405312; rw [hr, ← inf64]; exact bitsOf_le _ _ _ _ _
  rw [← hr]
  obtain ⟨R, hRR⟩ : ∃ R, R = r := ⟨_, rfl⟩
  rw [← hRR]
  have OR : Hid (∀ a : Nat, r = a → bits .or .u64 0 (a : Int) = (R : Int)) := fun a ha => by
    subst ha
    have h1 : r ≤ 9218868437227405312 := RL.out
    rw [hRR]
    exact or_zero r (by omega)
  have R0 : Hid (r = 0 → (R : Int) = 0) := fun h => by rw [hRR, h]; rfl
  clear hRR
  have hex1 : ex = (n : Int) := hex
  have HEX := hide hex1
  clear hex1
  clear h0 h1 h2 h3 h4 h5 h6 hne s1 ho hu NS hbo hbu hr hex
  have blkk := (Blk.new w #[.int .i64 52, .int .i64 11] 32).alloc (.cells #[.int .i64 0, .bool false, .string t, .int .i64 ex] 23)
  have blkd := Blk.newAt (w.alloc (.cells #[.int .i64 52, .int .i64 11] 32)) (w.heap.size + 1) (by simp) #[.int .i64 0, .bool false, .string t, .int .i64 ex] 23
  obtain ⟨W, hW⟩ : ∃ W, W = ((w.alloc (.cells #[.int .i64 52, .int .i64 11] 32)).alloc (.cells #[.int .i64 0, .bool false, .string t, .int .i64 ex] 23)) := ⟨_, rfl⟩
  rw [← hW] at blkk blkd
  have HBW : Hid (Below w.heap.size w W) := by rw [hW]; exact ((Below.refl _ _).alloc (Nat.le_refl _) _).alloc (by simp) _
  have BLK := hide blkk
  have BLD := hide blkd
  have x0 : W.cell? ⟨w.heap.size, 0, none⟩ = some (.int .i64 52) := blkk.cell 0
  have x1 : W.cell? ⟨w.heap.size, 1, none⟩ = some (.int .i64 11) := blkk.cell 1
  have y0 : W.cell? ⟨w.heap.size + 1, 0, none⟩ = some (.int .i64 0) := blkd.cell 0
  have y1 : W.cell? ⟨w.heap.size + 1, 1, none⟩ = some (.bool false) := blkd.cell 1
  have y2 : W.cell? ⟨w.heap.size + 1, 2, none⟩ = some (.string t) := blkd.cell 2
  have y3 : W.cell? ⟨w.heap.size + 1, 3, none⟩ = some (.int .i64 ex) := blkd.cell 3
  have HW := hide hW
  clear blkk blkd hW
  go_enter Tryz.func13, Tryz.ntmps13
  go_wp2_with fail
  simp only [← HW.out]
  go_quiet (fail)
  go_wp2_with fail
  refine (OFC.out _).mono ?_
  rintro e w1 ⟨o1, c1, l1, rfl, n1, b1⟩
  have AL : Hid (Below w1.heap.size w1 (w1.alloc (.cells #[.int .u32 1] 34))) := (Below.refl _ _).alloc (Nat.le_refl _) _
  have HB1 := hide (HBW.out.trans (((below_drewN (Below.refl _ _) _).trans (b1.mono (Nat.le_refl _)) |>.trans (AL.out.mono b1.size)).mono HBW.out.size))
  have BK1 := hide (BLK.out.below ((below_drewN (Below.refl _ _) _).trans (b1.mono (Nat.le_refl _)) |>.trans (AL.out.mono b1.size)) BLK.out.lt)
  have BD1 := hide (BLD.out.below ((below_drewN (Below.refl _ _) _).trans (b1.mono (Nat.le_refl _)) |>.trans (AL.out.mono b1.size)) BLD.out.lt)
  have N1 := hide (n1.below AL.out)
  have N2 := hide (row_one32 w1)
  obtain ⟨V, hV⟩ : ∃ V, V = w1.alloc (.cells #[.int .u32 1] 34) := ⟨_, rfl⟩
  obtain ⟨g1, hg1⟩ : ∃ g, g = w1.heap.size := ⟨_, rfl⟩
  rw [← hV] at HB1 BK1 BD1 N1 N2
  rw [← hg1] at N2
  have z3 : V.cell? ⟨w.heap.size + 1, 3, none⟩ = some (.int .i64 ex) := BD1.out.cell 3
  have HVH := hide hV
  have HGH := hide hg1
  clear n1 b1 AL OFC HBW BLK BLD x0 x1 y0 y1 y2 y3 HW hV hg1
  go_wp2_with (simp only [← HVH.out, ← HGH.out])
  refine (PW.out _ _ HEX.out).mono ?_
  rintro e w2 ⟨o2, c2, l2, rfl, n2, b2⟩
  have N12 := hide (N1.out.below b2)
  have NP := hide n2
  have T2 := hide b2
  clear n2 b2 N1
  go_wp2_with fail
  refine (nr_mul _ _ (decV (bys t)) (10 ^ n) w2 N12.out NP.out SS.out.1 SS.out.2).mono ?_
  rintro e wz ⟨o3, c3, l3, rfl, n3, b3⟩
  rw [OU.out.1] at n3
  have T3 := hide (T2.out.trans (b3.mono T2.out.size))
  have NO := hide n3
  have NU : Hid (Nr wz (.slice (some ⟨g1, 0, none⟩) 1 1) u) := by rw [← OU.out.2]; exact N2.out.below T3.out
  clear n3 b3 T2 N12 NP
  have HBZ := hide (HB1.out.trans (T3.out.mono HB1.out.size))
  have BKZ := hide (BK1.out.below T3.out BK1.out.lt)
  have x0 : wz.cell? ⟨w.heap.size, 0, none⟩ = some (.int .i64 52) := BKZ.out.cell 0
  have x1 : wz.cell? ⟨w.heap.size, 1, none⟩ = some (.int .i64 11) := BKZ.out.cell 1
  have BO : Hid (∀ n, Calls Tryz.prog 37 #[.slice o3 l3 c3] (wz.drewN n) fun e w' => e = .returned (.int .i64 (bo' : Int)) ∧ w' = wz.drewN n) := fun n => by
    refine (nr_bits _ o _ (NO.out.below (below_drewN (Below.refl _ _) n)) NSH.out.fo.sm0).mono ?_
    rintro e w' ⟨rfl, rfl⟩
    rw [BNO.out]; exact ⟨rfl, rfl⟩
  have BU : Hid (∀ n, Calls Tryz.prog 37 #[.slice (some ⟨g1, 0, none⟩) 1 1] (wz.drewN n) fun e w' => e = .returned (.int .i64 (bu' : Int)) ∧ w' = wz.drewN n) := fun n => by
    refine (nr_bits _ u _ (NU.out.below (below_drewN (Below.refl _ _) n)) NSH.out.fu.sm0).mono ?_
    rintro e w' ⟨rfl, rfl⟩
    rw [BNU.out]; exact ⟨rfl, rfl⟩
  have RD : Hid (∀ W' z (e : Int), z = -e → -32000 ≤ e → e ≤ 32000 → Below wz.heap.size wz W' → Calls Tryz.prog 39 #[.slice o3 l3 c3, .slice (some ⟨g1, 0, none⟩) 1 1, .int .i64 z] W' (NrPost W' (rnd o u e))) := fun W' z e hz h1 h2 hb => rounded_any _ _ _ _ _ _ o u e z W' hz (NO.out.below hb) (NU.out.below hb) NSH.out.fo NSH.out.fu h1 h2 NSH.out.u0
  have HE0 := hide he0
  clear T3 N2 z3 HB1 BK1 BD1 HVH HGH SS OU PW HEX BNO BNU he0
  go_wp2_with fail
  go_quiet (first | (go_at_call 37; with_reducible refine Calls.quiet_of_same (BO.out _)) | (go_at_call 37; with_reducible refine Calls.quiet_of_same (BU.out _)))
  clear BO BU
  go_wp2_with fail
  refine (bias64 _).mono ?_
  rintro e w4 ⟨rfl, b4⟩
  have T4 : Hid (Below wz.heap.size wz w4) := (below_drewN (Below.refl _ _) _).trans (b4.mono (Nat.le_refl _))
  have q4 := BKZ.out.below T4.out BKZ.out.lt
  have x04 : w4.cell? ⟨w.heap.size, 0, none⟩ = some (.int .i64 52) := q4.cell 0
  have x14 : w4.cell? ⟨w.heap.size, 1, none⟩ = some (.int .i64 11) := q4.cell 1
  clear b4 q4 x0 x1
  by_cases hc : (bo' : Int) - (bu' : Int) - 52 - 2 < -1074
  · have he : e0 = -1074 := by have := HE0.out; omega
    have HEE := hide he
    clear he HE0
    go_wp2_with fail
    refine (bias64 _).mono ?_
    rintro e w5 ⟨rfl, b5⟩
    have T5 := hide (T4.out.trans (b5.mono T4.out.size))
    clear b5 T4 x04 x14
    go_wp2_with fail
    refine (RD.out _ _ e0 (by have := HEE.out; omega) (by have := HEE.out; omega) (by have := HEE.out; omega) T5.out).mono ?_
    rintro e w6 ⟨om, cm, lm, rfl, nm, b6⟩
    have START : Hid (To64Inv w o u (-1074) (.slice o3 l3 c3) (.slice (some ⟨g1, 0, none⟩) 1 1) (.slice om lm cm) w6) := by
      have t6 := T5.out.trans (b6.mono T5.out.size)
      have := ST.out
      rw [HEE.out] at this nm
      exact ⟨HBZ.out.trans (t6.mono HBZ.out.size), BKZ.out.below t6 BKZ.out.lt, this, by omega, NO.out.below t6, NU.out.below t6, nm⟩
    clear nm b6 T5 ST HBZ BKZ NO NU RD hc
    go_wp2
    go_loopw [9, 10] (fun ve vm wr => ∃ (e : Int) (om : Option Addr) (lm cm : Nat), ve = .int .i64 e ∧ vm = .slice om lm cm ∧ To64Inv w o u e (.slice o3 l3 c3) (.slice (some ⟨g1, 0, none⟩) 1 1) (.slice om lm cm) wr) (fun ve _ _ => ((bo' : Int) - (bu' : Int) + 1 - 52 - intOf ve).toNat)
    case atStart => exact ⟨-1074, om, lm, cm, rfl, rfl, START.out⟩
    case round =>
      clear START
      obtain ⟨e, om, lm, cm, rfl, rfl, hinv⟩ := hrel
      have HI := hide hinv
      have heL := hinv.inv.1
      have heU := hinv.up
      clear hinv
      have x0 : wr.cell? ⟨w.heap.size, 0, none⟩ = some (.int .i64 52) := HI.out.blk.cell 0
      obtain ⟨m, hm⟩ : ∃ m, m = rnd o u e := ⟨_, rfl⟩
      obtain ⟨bm, hbm⟩ : ∃ z, z = bitsN m := ⟨_, rfl⟩
      have BM : Hid (∀ n, Calls Tryz.prog 37 #[.slice om lm cm] (wr.drewN n) fun e w' => e = .returned (.int .i64 (bm : Int)) ∧ w' = wr.drewN n) := fun n => by
        refine (nr_bits _ m _ (by rw [hm]; exact HI.out.nm.below (below_drewN (Below.refl _ _) n)) (by rw [hm]; exact rnd_sm NSH.out.fo NSH.out.u0 (by omega))).mono ?_
        rintro e w' ⟨rfl, rfl⟩
        rw [hbm]; exact ⟨rfl, rfl⟩
      have HM := hide hm
      have HBM := hide hbm
      clear hm hbm
      go_wp2_with fail
      go_quiet (first | (go_at_call 37; with_reducible refine Calls.quiet_of_same (BM.out _)))
      clear BM
      by_cases hb : 53 < bm
      · have hb' : (53 : Int) < (bm : Int) := by omega
        have hlt : e < (bo' : Int) - (bu' : Int) + 1 - 52 := EN.out e heL (by
          rw [← HM.out]
          exact bitsN_gt (k := 53) (by rw [← HBM.out]; exact hb))
        have NX : Hid (RInv 52 1074 o u (e + 1)) := HI.out.inv.step NSH.out.u0 (by
          rw [← HM.out]
          have := bitsN_gt (n := m) (k := 53) (by rw [← HBM.out]; exact hb)
          have e1 : 2 * 2 ^ 52 = 2 ^ 53 := by decide
          omega)
        have RD : Hid (∀ n z, z = -(e + 1) → Calls Tryz.prog 39 #[.slice o3 l3 c3, .slice (some ⟨g1, 0, none⟩) 1 1, .int .i64 z] (wr.drewN n) (NrPost (wr.drewN n) (rnd o u (e + 1)))) := fun n z hz => rounded_any _ _ _ _ _ _ o u (e + 1) z _ hz (HI.out.no.below (below_drewN (Below.refl _ _) n)) (HI.out.nu.below (below_drewN (Below.refl _ _) n)) NSH.out.fo NSH.out.fu (by omega) (by omega) NSH.out.u0
        clear hb
        go_wp2_with fail
        refine (RD.out _ _ (by omega)).mono ?_
        rintro e2 w7 ⟨om2, cm2, lm2, rfl, nm2, b7⟩
        have T7 : Hid (Below wr.heap.size wr w7) := (below_drewN (Below.refl _ _) _).trans (b7.mono (Nat.le_refl _))
        have NEXT : Hid (To64Inv w o u (e + 1) (.slice o3 l3 c3) (.slice (some ⟨g1, 0, none⟩) 1 1) (.slice om2 lm2 cm2) w7) := ⟨HI.out.bel.trans (T7.out.mono HI.out.bel.size), HI.out.blk.below T7.out HI.out.blk.lt, NX.out, by omega, HI.out.no.below T7.out, HI.out.nu.below T7.out, nm2⟩
        clear nm2 b7 T7 NX RD HI
        go_wp2
        go_roundw
        case rel => exact ⟨e + 1, om2, lm2, cm2, by go_num, rfl, NEXT.out⟩
        case measure => simp [intOf]; omega
      · have hb' : ¬ (53 : Int) < (bm : Int) := by omega
        have mlt : m < 9007199254740992 := bitsN_low (k := 53) (by rw [← HBM.out]; omega)
        obtain ⟨s, hse⟩ : ∃ s : Nat, e = (s : Int) - 1074 := ⟨(e + 1074).toNat, by omega⟩
        have hs1 : s ≤ 33000 := by omega
        have ED := to64_end HI.out NSH.out.o0 NSH.out.u0 (by rw [← HM.out]; exact mlt)
        rw [← HM.out, ← HR.out, show (e + 1074).toNat = s by omega] at ED
        have RE := hide ED
        have OUTC : Hid (∀ n, Calls Tryz.prog 40 #[.slice om lm cm] (wr.drewN n) fun e w' => ∃ o l c, e = .returned (.slice o l c) ∧ Hid (Below wr.heap.size wr w') ∧ ((m = 0 ∧ l = 0) ∨ (m ≠ 0 ∧ 0 < l ∧ ∃ g f, o = some ⟨g, f, none⟩ ∧ g < w'.heap.size ∧ w'.cell? ⟨g, f, none⟩ = some (.int .u64 (m : Int))))) := fun n => by
          refine (nr_out _ m _ (by rw [HM.out]; exact HI.out.nm.below (below_drewN (Below.refl _ _) n)) (by unfold B64; omega)).mono ?_
          rintro e w' ⟨oo, ll, cc, rfl, h1, h2⟩
          exact ⟨oo, ll, cc, rfl, (below_drewN (Below.refl _ _) _).trans (h1.mono (Nat.le_refl _)), h2⟩
        have BLR := hide HI.out.blk
        have BEL := hide HI.out.bel
        clear ED HI HM HBM EN heL heU hb
        subst hse
        go_wp2_with fail
        refine (OUTC.out _).mono ?_
        rintro e w5 ⟨ol, ll, cl, rfl, b5, hcase⟩
        have BEL5 := hide (BEL.out.trans (b5.out.mono BEL.out.size))
        have BLR5 := hide (BLR.out.below b5.out BLR.out.lt)
        clear b5 BEL BLR OUTC x0
        rcases hcase with ⟨hm0, rfl⟩ | ⟨hm0, hl, g, f, rfl, hg, hcell⟩
        · have hr0 : r = 0 := by
            obtain ⟨h1, h2⟩ := RE.out
            rcases Nat.eq_zero_or_pos s with h3 | h3
            · rw [h1, h3, hm0]; rfl
            · have := h2 (by omega); omega
          have HR0 := hide (R0.out hr0)
          clear RE RL hm0 hr0 OR R0
          go_wp2
          go_ret
          refine ⟨?_, BEL5.out⟩
          rw [HR0.out]
          rfl
        · have hl' : (0 : Int) < (ll : Int) := by omega
          have hl'' : ¬ (ll : Int) = 0 := by omega
          have x05 : w5.cell? ⟨w.heap.size, 0, none⟩ = some (.int .i64 52) := BLR5.out.cell 0
          have x15 : w5.cell? ⟨w.heap.size, 1, none⟩ = some (.int .i64 11) := BLR5.out.cell 1
          go_wp2_with fail
          refine (bias64 _).mono ?_
          rintro e w6 ⟨rfl, b6⟩
          have BEL6 := hide (BEL5.out.trans (b6.mono BEL5.out.size))
          have q6 := BLR5.out.below b6 BLR5.out.lt
          have x06 : w6.cell? ⟨w.heap.size, 0, none⟩ = some (.int .i64 52) := q6.cell 0
          have x16 : w6.cell? ⟨w.heap.size, 1, none⟩ = some (.int .i64 11) := q6.cell 1
          have hc6 : w6.cell? ⟨g, f, none⟩ = some (.int .u64 (m : Int)) := by rw [World.cell?_of_block (w := w5) (b6.block g hg)]; exact hcell
          clear b6 q6 BEL5 BLR5 x05 x15 hcell hg
          by_cases hx : 2047 ≤ s
          · have hx' : (2047 : Int) ≤ (s : Int) := by omega
            have hrI : r = 9218868437227405312 := by have := RE.out.1; omega
            have FV := hide (OR.out 9218868437227405312 hrI)
            clear RE RL hx hrI OR R0
            go_wp2
            go_ret
            refine ⟨?_, BEL6.out⟩
            rw [← FV.out]
            rfl
          · have hx' : ¬ (2047 : Int) ≤ (s : Int) := by omega
            go_wp2_with fail
            go_quiet (fail)
            by_cases hge : 9218868437227405312 ≤ s * 4503599627370496 + m
            · have hge' : (9218868437227405312 : Int) ≤ (s : Int) * 4503599627370496 + (m : Int) := by omega
              have hrI : r = 9218868437227405312 := by have := RE.out.1; omega
              have FV := hide (OR.out 9218868437227405312 hrI)
              clear RE RL hx hge hrI OR R0
              go_wp2
              go_ret
              refine ⟨?_, below_drewN BEL6.out _⟩
              rw [← FV.out]
              rfl
            · have hge' : ¬ (9218868437227405312 : Int) ≤ (s : Int) * 4503599627370496 + (m : Int) := by omega
              have hrI : r = s * 4503599627370496 + m := by have := RE.out.1; omega
              have FV := hide (OR.out (s * 4503599627370496 + m) hrI)
              clear RE RL hx hge hrI OR R0
              go_wp2
              go_ret
              refine ⟨?_, below_drewN BEL6.out _⟩
              rw [← FV.out, show ((s * 4503599627370496 + m : Nat) : Int) = (s : Int) * 4503599627370496 + (m : Int) by omega]
              rfl

  · have he : e0 = (bo' : Int) - (bu' : Int) - 52 - 2 := by have := HE0.out; omega
    have HEE := hide he
    clear he HE0
    go_wp2_with fail
    refine (RD.out _ _ e0 (by have := HEE.out; omega) (by have := HEE.out; omega) (by have := HEE.out; omega) T4.out).mono ?_
    rintro e w6 ⟨om, cm, lm, rfl, nm, b6⟩
    have START : Hid (To64Inv w o u ((bo' : Int) - (bu' : Int) - 52 - 2) (.slice o3 l3 c3) (.slice (some ⟨g1, 0, none⟩) 1 1) (.slice om lm cm) w6) := by
      have t6 := T4.out.trans (b6.mono T4.out.size)
      have := ST.out
      rw [HEE.out] at this nm
      exact ⟨HBZ.out.trans (t6.mono HBZ.out.size), BKZ.out.below t6 BKZ.out.lt, this, by omega, NO.out.below t6, NU.out.below t6, nm⟩
    clear nm b6 T4 ST HBZ BKZ NO NU RD hc x04 x14
    go_wp2
    go_loopw [9, 10] (fun ve vm wr => ∃ (e : Int) (om : Option Addr) (lm cm : Nat), ve = .int .i64 e ∧ vm = .slice om lm cm ∧ To64Inv w o u e (.slice o3 l3 c3) (.slice (some ⟨g1, 0, none⟩) 1 1) (.slice om lm cm) wr) (fun ve _ _ => ((bo' : Int) - (bu' : Int) + 1 - 52 - intOf ve).toNat)
    case atStart => exact ⟨(bo' : Int) - (bu' : Int) - 52 - 2, om, lm, cm, rfl, rfl, START.out⟩
    case round =>
      clear START
      obtain ⟨e, om, lm, cm, rfl, rfl, hinv⟩ := hrel
      have HI := hide hinv
      have heL := hinv.inv.1
      have heU := hinv.up
      clear hinv
      have x0 : wr.cell? ⟨w.heap.size, 0, none⟩ = some (.int .i64 52) := HI.out.blk.cell 0
      obtain ⟨m, hm⟩ : ∃ m, m = rnd o u e := ⟨_, rfl⟩
      obtain ⟨bm, hbm⟩ : ∃ z, z = bitsN m := ⟨_, rfl⟩
      have BM : Hid (∀ n, Calls Tryz.prog 37 #[.slice om lm cm] (wr.drewN n) fun e w' => e = .returned (.int .i64 (bm : Int)) ∧ w' = wr.drewN n) := fun n => by
        refine (nr_bits _ m _ (by rw [hm]; exact HI.out.nm.below (below_drewN (Below.refl _ _) n)) (by rw [hm]; exact rnd_sm NSH.out.fo NSH.out.u0 (by omega))).mono ?_
        rintro e w' ⟨rfl, rfl⟩
        rw [hbm]; exact ⟨rfl, rfl⟩
      have HM := hide hm
      have HBM := hide hbm
      clear hm hbm
      go_wp2_with fail
      go_quiet (first | (go_at_call 37; with_reducible refine Calls.quiet_of_same (BM.out _)))
      clear BM
      by_cases hb : 53 < bm
      · have hb' : (53 : Int) < (bm : Int) := by omega
        have hlt : e < (bo' : Int) - (bu' : Int) + 1 - 52 := EN.out e heL (by
          rw [← HM.out]
          exact bitsN_gt (k := 53) (by rw [← HBM.out]; exact hb))
        have NX : Hid (RInv 52 1074 o u (e + 1)) := HI.out.inv.step NSH.out.u0 (by
          rw [← HM.out]
          have := bitsN_gt (n := m) (k := 53) (by rw [← HBM.out]; exact hb)
          have e1 : 2 * 2 ^ 52 = 2 ^ 53 := by decide
          omega)
        have RD : Hid (∀ n z, z = -(e + 1) → Calls Tryz.prog 39 #[.slice o3 l3 c3, .slice (some ⟨g1, 0, none⟩) 1 1, .int .i64 z] (wr.drewN n) (NrPost (wr.drewN n) (rnd o u (e + 1)))) := fun n z hz => rounded_any _ _ _ _ _ _ o u (e + 1) z _ hz (HI.out.no.below (below_drewN (Below.refl _ _) n)) (HI.out.nu.below (below_drewN (Below.refl _ _) n)) NSH.out.fo NSH.out.fu (by omega) (by omega) NSH.out.u0
        clear hb
        go_wp2_with fail
        refine (RD.out _ _ (by omega)).mono ?_
        rintro e2 w7 ⟨om2, cm2, lm2, rfl, nm2, b7⟩
        have T7 : Hid (Below wr.heap.size wr w7) := (below_drewN (Below.refl _ _) _).trans (b7.mono (Nat.le_refl _))
        have NEXT : Hid (To64Inv w o u (e + 1) (.slice o3 l3 c3) (.slice (some ⟨g1, 0, none⟩) 1 1) (.slice om2 lm2 cm2) w7) := ⟨HI.out.bel.trans (T7.out.mono HI.out.bel.size), HI.out.blk.below T7.out HI.out.blk.lt, NX.out, by omega, HI.out.no.below T7.out, HI.out.nu.below T7.out, nm2⟩
        clear nm2 b7 T7 NX RD HI
        go_wp2
        go_roundw
        case rel => exact ⟨e + 1, om2, lm2, cm2, by go_num, rfl, NEXT.out⟩
        case measure => simp [intOf]; omega
      · have hb' : ¬ (53 : Int) < (bm : Int) := by omega
        have mlt : m < 9007199254740992 := bitsN_low (k := 53) (by rw [← HBM.out]; omega)
        obtain ⟨s, hse⟩ : ∃ s : Nat, e = (s : Int) - 1074 := ⟨(e + 1074).toNat, by omega⟩
        have hs1 : s ≤ 33000 := by omega
        have ED := to64_end HI.out NSH.out.o0 NSH.out.u0 (by rw [← HM.out]; exact mlt)
        rw [← HM.out, ← HR.out, show (e + 1074).toNat = s by omega] at ED
        have RE := hide ED
        have OUTC : Hid (∀ n, Calls Tryz.prog 40 #[.slice om lm cm] (wr.drewN n) fun e w' => ∃ o l c, e = .returned (.slice o l c) ∧ Hid (Below wr.heap.size wr w') ∧ ((m = 0 ∧ l = 0) ∨ (m ≠ 0 ∧ 0 < l ∧ ∃ g f, o = some ⟨g, f, none⟩ ∧ g < w'.heap.size ∧ w'.cell? ⟨g, f, none⟩ = some (.int .u64 (m : Int))))) := fun n => by
          refine (nr_out _ m _ (by rw [HM.out]; exact HI.out.nm.below (below_drewN (Below.refl _ _) n)) (by unfold B64; omega)).mono ?_
          rintro e w' ⟨oo, ll, cc, rfl, h1, h2⟩
          exact ⟨oo, ll, cc, rfl, (below_drewN (Below.refl _ _) _).trans (h1.mono (Nat.le_refl _)), h2⟩
        have BLR := hide HI.out.blk
        have BEL := hide HI.out.bel
        clear ED HI HM HBM EN heL heU hb
        subst hse
        go_wp2_with fail
        refine (OUTC.out _).mono ?_
        rintro e w5 ⟨ol, ll, cl, rfl, b5, hcase⟩
        have BEL5 := hide (BEL.out.trans (b5.out.mono BEL.out.size))
        have BLR5 := hide (BLR.out.below b5.out BLR.out.lt)
        clear b5 BEL BLR OUTC x0
        rcases hcase with ⟨hm0, rfl⟩ | ⟨hm0, hl, g, f, rfl, hg, hcell⟩
        · have hr0 : r = 0 := by
            obtain ⟨h1, h2⟩ := RE.out
            rcases Nat.eq_zero_or_pos s with h3 | h3
            · rw [h1, h3, hm0]; rfl
            · have := h2 (by omega); omega
          have HR0 := hide (R0.out hr0)
          clear RE RL hm0 hr0 OR R0
          go_wp2
          go_ret
          refine ⟨?_, BEL5.out⟩
          rw [HR0.out]
          rfl
        · have hl' : (0 : Int) < (ll : Int) := by omega
          have hl'' : ¬ (ll : Int) = 0 := by omega
          have x05 : w5.cell? ⟨w.heap.size, 0, none⟩ = some (.int .i64 52) := BLR5.out.cell 0
          have x15 : w5.cell? ⟨w.heap.size, 1, none⟩ = some (.int .i64 11) := BLR5.out.cell 1
          go_wp2_with fail
          refine (bias64 _).mono ?_
          rintro e w6 ⟨rfl, b6⟩
          have BEL6 := hide (BEL5.out.trans (b6.mono BEL5.out.size))
          have q6 := BLR5.out.below b6 BLR5.out.lt
          have x06 : w6.cell? ⟨w.heap.size, 0, none⟩ = some (.int .i64 52) := q6.cell 0
          have x16 : w6.cell? ⟨w.heap.size, 1, none⟩ = some (.int .i64 11) := q6.cell 1
          have hc6 : w6.cell? ⟨g, f, none⟩ = some (.int .u64 (m : Int)) := by rw [World.cell?_of_block (w := w5) (b6.block g hg)]; exact hcell
          clear b6 q6 BEL5 BLR5 x05 x15 hcell hg
          by_cases hx : 2047 ≤ s
          · have hx' : (2047 : Int) ≤ (s : Int) := by omega
            have hrI : r = 9218868437227405312 := by have := RE.out.1; omega
            have FV := hide (OR.out 9218868437227405312 hrI)
            clear RE RL hx hrI OR R0
            go_wp2
            go_ret
            refine ⟨?_, BEL6.out⟩
            rw [← FV.out]
            rfl
          · have hx' : ¬ (2047 : Int) ≤ (s : Int) := by omega
            go_wp2_with fail
            go_quiet (fail)
            by_cases hge : 9218868437227405312 ≤ s * 4503599627370496 + m
            · have hge' : (9218868437227405312 : Int) ≤ (s : Int) * 4503599627370496 + (m : Int) := by omega
              have hrI : r = 9218868437227405312 := by have := RE.out.1; omega
              have FV := hide (OR.out 9218868437227405312 hrI)
              clear RE RL hx hge hrI OR R0
              go_wp2
              go_ret
              refine ⟨?_, below_drewN BEL6.out _⟩
              rw [← FV.out]
              rfl
            · have hge' : ¬ (9218868437227405312 : Int) ≤ (s : Int) * 4503599627370496 + (m : Int) := by omega
              have hrI : r = s * 4503599627370496 + m := by have := RE.out.1; omega
              have FV := hide (OR.out (s * 4503599627370496 + m) hrI)
              clear RE RL hx hge hrI OR R0
              go_wp2
              go_ret
              refine ⟨?_, below_drewN BEL6.out _⟩
              rw [← FV.out, show ((s * 4503599627370496 + m : Nat) : Int) = (s : Int) * 4503599627370496 + (m : Int) by omega]
              rfl

set_option maxRecDepth 100000 in
set_option maxHeartbeats 4000000 in
theorem rto64_true_neg (t : ByteArray) (ex : Int) (n : Nat) (w : World) (h : DigD (bys t) ex) (hex : ex = -(n : Int)) (hs : ¬ 0 ≤ ex) :
    Calls Tryz.prog 13 #[k64, dcV 0 true t ex] w fun e w' => e = .returned (.int .u64 ((bitsOf 52 1074 (infN 52 11) (decV (bys t) * 10 ^ ex.toNat) (10 ^ (-ex).toNat) + 9223372036854775808 : Nat) : Int)) ∧ Below w.heap.size w w' := by
  have NS := Nums.of h
  obtain ⟨h0, h1, h2, h3, h4, h5, h6⟩ := h
  rw [bys_len] at h1 h2 h3
  have hne : t.size ≠ 0 := fun e => h0 (bys_nil.2 e)
  have ht := toList_ne hne
  have hnl : n ≤ 3000 := by omega
  have OFC : Hid (∀ W', Calls Tryz.prog 28 #[.string t] W' (NrPost W' (decV (bys t)))) := fun W' => (rof_any t W' (by omega) h6).mono fun e w' hh => NrPost.of hh
  have PW : Hid (∀ W' z, z = (n : Int) → Calls Tryz.prog 29 #[.int .i64 10, .int .i64 z] W' (NrPost W' (10 ^ n))) := fun W' z hz => nr_pow10 z n W' hz (by omega)
  have s1 : Sm (decV (bys t)) := Sm.of (decV_lt _ _ rfl h6) (by rw [bys_len]; omega)
  have SS : Hid (Sm (decV (bys t)) ∧ Sm (10 ^ n)) := ⟨s1, (fit_pow n hnl).sm0⟩
  obtain ⟨o, ho⟩ : ∃ o, o = decV (bys t) * 10 ^ ex.toNat := ⟨_, rfl⟩
  obtain ⟨u, hu⟩ : ∃ u, u = 10 ^ (-ex).toNat := ⟨_, rfl⟩
  rw [← ho, ← hu] at NS ⊢
  have OU : Hid (decV (bys t) = o ∧ 10 ^ n = u) := by
    refine ⟨by rw [ho, show ex.toNat = 0 by omega, Nat.pow_zero, Nat.mul_one], by rw [hu, show (-ex).toNat = n by omega]⟩
  have bo := NS.fo.bits
  have bu := NS.fu.bits
  obtain ⟨bo', hbo⟩ : ∃ z, z = bitsN o := ⟨_, rfl⟩
  obtain ⟨bu', hbu⟩ : ∃ z, z = bitsN u := ⟨_, rfl⟩
  obtain ⟨e0, he0⟩ : ∃ e : Int, e = max ((bo' : Int) - (bu' : Int) - 52 - 2) (-1074) := ⟨_, rfl⟩
  have ST : Hid (RInv 52 1074 o u e0) := by rw [he0, hbo, hbu]; exact RInv.start NS.o0 NS.u0
  have EN : Hid (∀ e : Int, -1074 ≤ e → 9007199254740992 ≤ rnd o u e → e < (bo' : Int) - (bu' : Int) + 1 - 52) := fun e h1 h2 => by
    rcases Int.lt_or_le e ((bo' : Int) - (bu' : Int) + 1 - 52) with h3 | h3
    · exact h3
    · exfalso
      have := rnd_end (F := 52) (B := 1074) NS.o0 NS.u0 h1 (by rw [← hbo, ← hbu]; exact h3)
      have e1 : (2 : Nat) ^ 52 = 4503599627370496 := by decide
      rw [e1] at this
      omega
  rw [← hbo] at bo
  rw [← hbu] at bu
  have BNO := hide hbo
  have BNU := hide hbu
  have NSH := hide NS
  obtain ⟨r, hr⟩ : ∃ r, r = bitsOf 52 1074 (infN 52 11) o u := ⟨_, rfl⟩
  have HR := hide hr
  have RL : Hid (r ≤ 9218868437227405312) := by show r ≤ 9218868437227405312; rw [hr, ← inf64]; exact bitsOf_le _ _ _ _ _
  rw [← hr]
  obtain ⟨R, hRR⟩ : ∃ R, R = r + 9223372036854775808 := ⟨_, rfl⟩
  rw [← hRR]
  have OR : Hid (∀ a : Nat, r = a → bits .or .u64 9223372036854775808 (a : Int) = (R : Int)) := fun a ha => by
    subst ha
    have h1 : r ≤ 9218868437227405312 := RL.out
    rw [hRR]
    exact or_sign (k := 63) 9223372036854775808 (by decide) (by omega) (by omega)
  have R0 : Hid (r = 0 → (R : Int) = 9223372036854775808) := fun h => by rw [hRR, h]; rfl
  clear hRR
  have hex1 : -ex = (n : Int) := by omega
  have HEX := hide hex1
  have hxb : -3000 ≤ ex := by omega
  clear h0 h1 h2 h3 h4 h5 h6 hne s1 ho hu NS hbo hbu hr hex
  have blkk := (Blk.new w #[.int .i64 52, .int .i64 11] 32).alloc (.cells #[.int .i64 0, .bool true, .string t, .int .i64 ex] 23)
  have blkd := Blk.newAt (w.alloc (.cells #[.int .i64 52, .int .i64 11] 32)) (w.heap.size + 1) (by simp) #[.int .i64 0, .bool true, .string t, .int .i64 ex] 23
  obtain ⟨W, hW⟩ : ∃ W, W = ((w.alloc (.cells #[.int .i64 52, .int .i64 11] 32)).alloc (.cells #[.int .i64 0, .bool true, .string t, .int .i64 ex] 23)) := ⟨_, rfl⟩
  rw [← hW] at blkk blkd
  have HBW : Hid (Below w.heap.size w W) := by rw [hW]; exact ((Below.refl _ _).alloc (Nat.le_refl _) _).alloc (by simp) _
  have BLK := hide blkk
  have BLD := hide blkd
  have x0 : W.cell? ⟨w.heap.size, 0, none⟩ = some (.int .i64 52) := blkk.cell 0
  have x1 : W.cell? ⟨w.heap.size, 1, none⟩ = some (.int .i64 11) := blkk.cell 1
  have y0 : W.cell? ⟨w.heap.size + 1, 0, none⟩ = some (.int .i64 0) := blkd.cell 0
  have y1 : W.cell? ⟨w.heap.size + 1, 1, none⟩ = some (.bool true) := blkd.cell 1
  have y2 : W.cell? ⟨w.heap.size + 1, 2, none⟩ = some (.string t) := blkd.cell 2
  have y3 : W.cell? ⟨w.heap.size + 1, 3, none⟩ = some (.int .i64 ex) := blkd.cell 3
  have HW := hide hW
  clear blkk blkd hW
  go_enter Tryz.func13, Tryz.ntmps13
  go_wp2_with fail
  simp only [← HW.out]
  go_quiet (fail)
  go_wp2_with fail
  refine (OFC.out _).mono ?_
  rintro e w1 ⟨o1, c1, l1, rfl, n1, b1⟩
  have AL : Hid (Below w1.heap.size w1 (w1.alloc (.cells #[.int .u32 1] 34))) := (Below.refl _ _).alloc (Nat.le_refl _) _
  have HB1 := hide (HBW.out.trans (((below_drewN (Below.refl _ _) _).trans (b1.mono (Nat.le_refl _)) |>.trans (AL.out.mono b1.size)).mono HBW.out.size))
  have BK1 := hide (BLK.out.below ((below_drewN (Below.refl _ _) _).trans (b1.mono (Nat.le_refl _)) |>.trans (AL.out.mono b1.size)) BLK.out.lt)
  have BD1 := hide (BLD.out.below ((below_drewN (Below.refl _ _) _).trans (b1.mono (Nat.le_refl _)) |>.trans (AL.out.mono b1.size)) BLD.out.lt)
  have N1 := hide (n1.below AL.out)
  have N2 := hide (row_one32 w1)
  obtain ⟨V, hV⟩ : ∃ V, V = w1.alloc (.cells #[.int .u32 1] 34) := ⟨_, rfl⟩
  obtain ⟨g1, hg1⟩ : ∃ g, g = w1.heap.size := ⟨_, rfl⟩
  rw [← hV] at HB1 BK1 BD1 N1 N2
  rw [← hg1] at N2
  have z3 : V.cell? ⟨w.heap.size + 1, 3, none⟩ = some (.int .i64 ex) := BD1.out.cell 3
  have HVH := hide hV
  have HGH := hide hg1
  clear n1 b1 AL OFC HBW BLK BLD x0 x1 y0 y1 y2 y3 HW hV hg1
  go_wp2_with (simp only [← HVH.out, ← HGH.out])
  refine (PW.out _ _ (by first | rfl | exact HEX.out)).mono ?_
  rintro e wz ⟨o2, c2, l2, rfl, n2, b2⟩
  rw [OU.out.2] at n2
  have T3 := hide b2
  have NU := hide n2
  have NO : Hid (Nr wz (.slice o1 l1 c1) o) := by rw [← OU.out.1]; exact N1.out.below b2
  clear n2 b2 N1
  have HBZ := hide (HB1.out.trans (T3.out.mono HB1.out.size))
  have BKZ := hide (BK1.out.below T3.out BK1.out.lt)
  have x0 : wz.cell? ⟨w.heap.size, 0, none⟩ = some (.int .i64 52) := BKZ.out.cell 0
  have x1 : wz.cell? ⟨w.heap.size, 1, none⟩ = some (.int .i64 11) := BKZ.out.cell 1
  have BO : Hid (∀ n, Calls Tryz.prog 37 #[.slice o1 l1 c1] (wz.drewN n) fun e w' => e = .returned (.int .i64 (bo' : Int)) ∧ w' = wz.drewN n) := fun n => by
    refine (nr_bits _ o _ (NO.out.below (below_drewN (Below.refl _ _) n)) NSH.out.fo.sm0).mono ?_
    rintro e w' ⟨rfl, rfl⟩
    rw [BNO.out]; exact ⟨rfl, rfl⟩
  have BU : Hid (∀ n, Calls Tryz.prog 37 #[.slice o2 l2 c2] (wz.drewN n) fun e w' => e = .returned (.int .i64 (bu' : Int)) ∧ w' = wz.drewN n) := fun n => by
    refine (nr_bits _ u _ (NU.out.below (below_drewN (Below.refl _ _) n)) NSH.out.fu.sm0).mono ?_
    rintro e w' ⟨rfl, rfl⟩
    rw [BNU.out]; exact ⟨rfl, rfl⟩
  have RD : Hid (∀ W' z (e : Int), z = -e → -32000 ≤ e → e ≤ 32000 → Below wz.heap.size wz W' → Calls Tryz.prog 39 #[.slice o1 l1 c1, .slice o2 l2 c2, .int .i64 z] W' (NrPost W' (rnd o u e))) := fun W' z e hz h1 h2 hb => rounded_any _ _ _ _ _ _ o u e z W' hz (NO.out.below hb) (NU.out.below hb) NSH.out.fo NSH.out.fu h1 h2 NSH.out.u0
  have HE0 := hide he0
  clear T3 N2 z3 HB1 BK1 BD1 HVH HGH SS OU PW HEX BNO BNU he0
  go_wp2_with fail
  go_quiet (first | (go_at_call 37; with_reducible refine Calls.quiet_of_same (BO.out _)) | (go_at_call 37; with_reducible refine Calls.quiet_of_same (BU.out _)))
  clear BO BU
  go_wp2_with fail
  refine (bias64 _).mono ?_
  rintro e w4 ⟨rfl, b4⟩
  have T4 : Hid (Below wz.heap.size wz w4) := (below_drewN (Below.refl _ _) _).trans (b4.mono (Nat.le_refl _))
  have q4 := BKZ.out.below T4.out BKZ.out.lt
  have x04 : w4.cell? ⟨w.heap.size, 0, none⟩ = some (.int .i64 52) := q4.cell 0
  have x14 : w4.cell? ⟨w.heap.size, 1, none⟩ = some (.int .i64 11) := q4.cell 1
  clear b4 q4 x0 x1
  by_cases hc : (bo' : Int) - (bu' : Int) - 52 - 2 < -1074
  · have he : e0 = -1074 := by have := HE0.out; omega
    have HEE := hide he
    clear he HE0
    go_wp2_with fail
    refine (bias64 _).mono ?_
    rintro e w5 ⟨rfl, b5⟩
    have T5 := hide (T4.out.trans (b5.mono T4.out.size))
    clear b5 T4 x04 x14
    go_wp2_with fail
    refine (RD.out _ _ e0 (by have := HEE.out; omega) (by have := HEE.out; omega) (by have := HEE.out; omega) T5.out).mono ?_
    rintro e w6 ⟨om, cm, lm, rfl, nm, b6⟩
    have START : Hid (To64Inv w o u (-1074) (.slice o1 l1 c1) (.slice o2 l2 c2) (.slice om lm cm) w6) := by
      have t6 := T5.out.trans (b6.mono T5.out.size)
      have := ST.out
      rw [HEE.out] at this nm
      exact ⟨HBZ.out.trans (t6.mono HBZ.out.size), BKZ.out.below t6 BKZ.out.lt, this, by omega, NO.out.below t6, NU.out.below t6, nm⟩
    clear nm b6 T5 ST HBZ BKZ NO NU RD hc
    go_wp2
    go_loopw [9, 10] (fun ve vm wr => ∃ (e : Int) (om : Option Addr) (lm cm : Nat), ve = .int .i64 e ∧ vm = .slice om lm cm ∧ To64Inv w o u e (.slice o1 l1 c1) (.slice o2 l2 c2) (.slice om lm cm) wr) (fun ve _ _ => ((bo' : Int) - (bu' : Int) + 1 - 52 - intOf ve).toNat)
    case atStart => exact ⟨-1074, om, lm, cm, rfl, rfl, START.out⟩
    case round =>
      clear START
      obtain ⟨e, om, lm, cm, rfl, rfl, hinv⟩ := hrel
      have HI := hide hinv
      have heL := hinv.inv.1
      have heU := hinv.up
      clear hinv
      have x0 : wr.cell? ⟨w.heap.size, 0, none⟩ = some (.int .i64 52) := HI.out.blk.cell 0
      obtain ⟨m, hm⟩ : ∃ m, m = rnd o u e := ⟨_, rfl⟩
      obtain ⟨bm, hbm⟩ : ∃ z, z = bitsN m := ⟨_, rfl⟩
      have BM : Hid (∀ n, Calls Tryz.prog 37 #[.slice om lm cm] (wr.drewN n) fun e w' => e = .returned (.int .i64 (bm : Int)) ∧ w' = wr.drewN n) := fun n => by
        refine (nr_bits _ m _ (by rw [hm]; exact HI.out.nm.below (below_drewN (Below.refl _ _) n)) (by rw [hm]; exact rnd_sm NSH.out.fo NSH.out.u0 (by omega))).mono ?_
        rintro e w' ⟨rfl, rfl⟩
        rw [hbm]; exact ⟨rfl, rfl⟩
      have HM := hide hm
      have HBM := hide hbm
      clear hm hbm
      go_wp2_with fail
      go_quiet (first | (go_at_call 37; with_reducible refine Calls.quiet_of_same (BM.out _)))
      clear BM
      by_cases hb : 53 < bm
      · have hb' : (53 : Int) < (bm : Int) := by omega
        have hlt : e < (bo' : Int) - (bu' : Int) + 1 - 52 := EN.out e heL (by
          rw [← HM.out]
          exact bitsN_gt (k := 53) (by rw [← HBM.out]; exact hb))
        have NX : Hid (RInv 52 1074 o u (e + 1)) := HI.out.inv.step NSH.out.u0 (by
          rw [← HM.out]
          have := bitsN_gt (n := m) (k := 53) (by rw [← HBM.out]; exact hb)
          have e1 : 2 * 2 ^ 52 = 2 ^ 53 := by decide
          omega)
        have RD : Hid (∀ n z, z = -(e + 1) → Calls Tryz.prog 39 #[.slice o1 l1 c1, .slice o2 l2 c2, .int .i64 z] (wr.drewN n) (NrPost (wr.drewN n) (rnd o u (e + 1)))) := fun n z hz => rounded_any _ _ _ _ _ _ o u (e + 1) z _ hz (HI.out.no.below (below_drewN (Below.refl _ _) n)) (HI.out.nu.below (below_drewN (Below.refl _ _) n)) NSH.out.fo NSH.out.fu (by omega) (by omega) NSH.out.u0
        clear hb
        go_wp2_with fail
        refine (RD.out _ _ (by omega)).mono ?_
        rintro e2 w7 ⟨om2, cm2, lm2, rfl, nm2, b7⟩
        have T7 : Hid (Below wr.heap.size wr w7) := (below_drewN (Below.refl _ _) _).trans (b7.mono (Nat.le_refl _))
        have NEXT : Hid (To64Inv w o u (e + 1) (.slice o1 l1 c1) (.slice o2 l2 c2) (.slice om2 lm2 cm2) w7) := ⟨HI.out.bel.trans (T7.out.mono HI.out.bel.size), HI.out.blk.below T7.out HI.out.blk.lt, NX.out, by omega, HI.out.no.below T7.out, HI.out.nu.below T7.out, nm2⟩
        clear nm2 b7 T7 NX RD HI
        go_wp2
        go_roundw
        case rel => exact ⟨e + 1, om2, lm2, cm2, by go_num, rfl, NEXT.out⟩
        case measure => simp [intOf]; omega
      · have hb' : ¬ (53 : Int) < (bm : Int) := by omega
        have mlt : m < 9007199254740992 := bitsN_low (k := 53) (by rw [← HBM.out]; omega)
        obtain ⟨s, hse⟩ : ∃ s : Nat, e = (s : Int) - 1074 := ⟨(e + 1074).toNat, by omega⟩
        have hs1 : s ≤ 33000 := by omega
        have ED := to64_end HI.out NSH.out.o0 NSH.out.u0 (by rw [← HM.out]; exact mlt)
        rw [← HM.out, ← HR.out, show (e + 1074).toNat = s by omega] at ED
        have RE := hide ED
        have OUTC : Hid (∀ n, Calls Tryz.prog 40 #[.slice om lm cm] (wr.drewN n) fun e w' => ∃ o l c, e = .returned (.slice o l c) ∧ Hid (Below wr.heap.size wr w') ∧ ((m = 0 ∧ l = 0) ∨ (m ≠ 0 ∧ 0 < l ∧ ∃ g f, o = some ⟨g, f, none⟩ ∧ g < w'.heap.size ∧ w'.cell? ⟨g, f, none⟩ = some (.int .u64 (m : Int))))) := fun n => by
          refine (nr_out _ m _ (by rw [HM.out]; exact HI.out.nm.below (below_drewN (Below.refl _ _) n)) (by unfold B64; omega)).mono ?_
          rintro e w' ⟨oo, ll, cc, rfl, h1, h2⟩
          exact ⟨oo, ll, cc, rfl, (below_drewN (Below.refl _ _) _).trans (h1.mono (Nat.le_refl _)), h2⟩
        have BLR := hide HI.out.blk
        have BEL := hide HI.out.bel
        clear ED HI HM HBM EN heL heU hb
        subst hse
        go_wp2_with fail
        refine (OUTC.out _).mono ?_
        rintro e w5 ⟨ol, ll, cl, rfl, b5, hcase⟩
        have BEL5 := hide (BEL.out.trans (b5.out.mono BEL.out.size))
        have BLR5 := hide (BLR.out.below b5.out BLR.out.lt)
        clear b5 BEL BLR OUTC x0
        rcases hcase with ⟨hm0, rfl⟩ | ⟨hm0, hl, g, f, rfl, hg, hcell⟩
        · have hr0 : r = 0 := by
            obtain ⟨h1, h2⟩ := RE.out
            rcases Nat.eq_zero_or_pos s with h3 | h3
            · rw [h1, h3, hm0]; rfl
            · have := h2 (by omega); omega
          have HR0 := hide (R0.out hr0)
          clear RE RL hm0 hr0 OR R0
          go_wp2
          go_ret
          refine ⟨?_, BEL5.out⟩
          rw [HR0.out]
          rfl
        · have hl' : (0 : Int) < (ll : Int) := by omega
          have hl'' : ¬ (ll : Int) = 0 := by omega
          have x05 : w5.cell? ⟨w.heap.size, 0, none⟩ = some (.int .i64 52) := BLR5.out.cell 0
          have x15 : w5.cell? ⟨w.heap.size, 1, none⟩ = some (.int .i64 11) := BLR5.out.cell 1
          go_wp2_with fail
          refine (bias64 _).mono ?_
          rintro e w6 ⟨rfl, b6⟩
          have BEL6 := hide (BEL5.out.trans (b6.mono BEL5.out.size))
          have q6 := BLR5.out.below b6 BLR5.out.lt
          have x06 : w6.cell? ⟨w.heap.size, 0, none⟩ = some (.int .i64 52) := q6.cell 0
          have x16 : w6.cell? ⟨w.heap.size, 1, none⟩ = some (.int .i64 11) := q6.cell 1
          have hc6 : w6.cell? ⟨g, f, none⟩ = some (.int .u64 (m : Int)) := by rw [World.cell?_of_block (w := w5) (b6.block g hg)]; exact hcell
          clear b6 q6 BEL5 BLR5 x05 x15 hcell hg
          by_cases hx : 2047 ≤ s
          · have hx' : (2047 : Int) ≤ (s : Int) := by omega
            have hrI : r = 9218868437227405312 := by have := RE.out.1; omega
            have FV := hide (OR.out 9218868437227405312 hrI)
            clear RE RL hx hrI OR R0
            go_wp2
            go_ret
            refine ⟨?_, BEL6.out⟩
            rw [← FV.out]
            rfl
          · have hx' : ¬ (2047 : Int) ≤ (s : Int) := by omega
            go_wp2_with fail
            go_quiet (fail)
            by_cases hge : 9218868437227405312 ≤ s * 4503599627370496 + m
            · have hge' : (9218868437227405312 : Int) ≤ (s : Int) * 4503599627370496 + (m : Int) := by omega
              have hrI : r = 9218868437227405312 := by have := RE.out.1; omega
              have FV := hide (OR.out 9218868437227405312 hrI)
              clear RE RL hx hge hrI OR R0
              go_wp2
              go_ret
              refine ⟨?_, below_drewN BEL6.out _⟩
              rw [← FV.out]
              rfl
            · have hge' : ¬ (9218868437227405312 : Int) ≤ (s : Int) * 4503599627370496 + (m : Int) := by omega
              have hrI : r = s * 4503599627370496 + m := by have := RE.out.1; omega
              have FV := hide (OR.out (s * 4503599627370496 + m) hrI)
              clear RE RL hx hge hrI OR R0
              go_wp2
              go_ret
              refine ⟨?_, below_drewN BEL6.out _⟩
              rw [← FV.out, show ((s * 4503599627370496 + m : Nat) : Int) = (s : Int) * 4503599627370496 + (m : Int) by omega]
              rfl

  · have he : e0 = (bo' : Int) - (bu' : Int) - 52 - 2 := by have := HE0.out; omega
    have HEE := hide he
    clear he HE0
    go_wp2_with fail
    refine (RD.out _ _ e0 (by have := HEE.out; omega) (by have := HEE.out; omega) (by have := HEE.out; omega) T4.out).mono ?_
    rintro e w6 ⟨om, cm, lm, rfl, nm, b6⟩
    have START : Hid (To64Inv w o u ((bo' : Int) - (bu' : Int) - 52 - 2) (.slice o1 l1 c1) (.slice o2 l2 c2) (.slice om lm cm) w6) := by
      have t6 := T4.out.trans (b6.mono T4.out.size)
      have := ST.out
      rw [HEE.out] at this nm
      exact ⟨HBZ.out.trans (t6.mono HBZ.out.size), BKZ.out.below t6 BKZ.out.lt, this, by omega, NO.out.below t6, NU.out.below t6, nm⟩
    clear nm b6 T4 ST HBZ BKZ NO NU RD hc x04 x14
    go_wp2
    go_loopw [9, 10] (fun ve vm wr => ∃ (e : Int) (om : Option Addr) (lm cm : Nat), ve = .int .i64 e ∧ vm = .slice om lm cm ∧ To64Inv w o u e (.slice o1 l1 c1) (.slice o2 l2 c2) (.slice om lm cm) wr) (fun ve _ _ => ((bo' : Int) - (bu' : Int) + 1 - 52 - intOf ve).toNat)
    case atStart => exact ⟨(bo' : Int) - (bu' : Int) - 52 - 2, om, lm, cm, rfl, rfl, START.out⟩
    case round =>
      clear START
      obtain ⟨e, om, lm, cm, rfl, rfl, hinv⟩ := hrel
      have HI := hide hinv
      have heL := hinv.inv.1
      have heU := hinv.up
      clear hinv
      have x0 : wr.cell? ⟨w.heap.size, 0, none⟩ = some (.int .i64 52) := HI.out.blk.cell 0
      obtain ⟨m, hm⟩ : ∃ m, m = rnd o u e := ⟨_, rfl⟩
      obtain ⟨bm, hbm⟩ : ∃ z, z = bitsN m := ⟨_, rfl⟩
      have BM : Hid (∀ n, Calls Tryz.prog 37 #[.slice om lm cm] (wr.drewN n) fun e w' => e = .returned (.int .i64 (bm : Int)) ∧ w' = wr.drewN n) := fun n => by
        refine (nr_bits _ m _ (by rw [hm]; exact HI.out.nm.below (below_drewN (Below.refl _ _) n)) (by rw [hm]; exact rnd_sm NSH.out.fo NSH.out.u0 (by omega))).mono ?_
        rintro e w' ⟨rfl, rfl⟩
        rw [hbm]; exact ⟨rfl, rfl⟩
      have HM := hide hm
      have HBM := hide hbm
      clear hm hbm
      go_wp2_with fail
      go_quiet (first | (go_at_call 37; with_reducible refine Calls.quiet_of_same (BM.out _)))
      clear BM
      by_cases hb : 53 < bm
      · have hb' : (53 : Int) < (bm : Int) := by omega
        have hlt : e < (bo' : Int) - (bu' : Int) + 1 - 52 := EN.out e heL (by
          rw [← HM.out]
          exact bitsN_gt (k := 53) (by rw [← HBM.out]; exact hb))
        have NX : Hid (RInv 52 1074 o u (e + 1)) := HI.out.inv.step NSH.out.u0 (by
          rw [← HM.out]
          have := bitsN_gt (n := m) (k := 53) (by rw [← HBM.out]; exact hb)
          have e1 : 2 * 2 ^ 52 = 2 ^ 53 := by decide
          omega)
        have RD : Hid (∀ n z, z = -(e + 1) → Calls Tryz.prog 39 #[.slice o1 l1 c1, .slice o2 l2 c2, .int .i64 z] (wr.drewN n) (NrPost (wr.drewN n) (rnd o u (e + 1)))) := fun n z hz => rounded_any _ _ _ _ _ _ o u (e + 1) z _ hz (HI.out.no.below (below_drewN (Below.refl _ _) n)) (HI.out.nu.below (below_drewN (Below.refl _ _) n)) NSH.out.fo NSH.out.fu (by omega) (by omega) NSH.out.u0
        clear hb
        go_wp2_with fail
        refine (RD.out _ _ (by omega)).mono ?_
        rintro e2 w7 ⟨om2, cm2, lm2, rfl, nm2, b7⟩
        have T7 : Hid (Below wr.heap.size wr w7) := (below_drewN (Below.refl _ _) _).trans (b7.mono (Nat.le_refl _))
        have NEXT : Hid (To64Inv w o u (e + 1) (.slice o1 l1 c1) (.slice o2 l2 c2) (.slice om2 lm2 cm2) w7) := ⟨HI.out.bel.trans (T7.out.mono HI.out.bel.size), HI.out.blk.below T7.out HI.out.blk.lt, NX.out, by omega, HI.out.no.below T7.out, HI.out.nu.below T7.out, nm2⟩
        clear nm2 b7 T7 NX RD HI
        go_wp2
        go_roundw
        case rel => exact ⟨e + 1, om2, lm2, cm2, by go_num, rfl, NEXT.out⟩
        case measure => simp [intOf]; omega
      · have hb' : ¬ (53 : Int) < (bm : Int) := by omega
        have mlt : m < 9007199254740992 := bitsN_low (k := 53) (by rw [← HBM.out]; omega)
        obtain ⟨s, hse⟩ : ∃ s : Nat, e = (s : Int) - 1074 := ⟨(e + 1074).toNat, by omega⟩
        have hs1 : s ≤ 33000 := by omega
        have ED := to64_end HI.out NSH.out.o0 NSH.out.u0 (by rw [← HM.out]; exact mlt)
        rw [← HM.out, ← HR.out, show (e + 1074).toNat = s by omega] at ED
        have RE := hide ED
        have OUTC : Hid (∀ n, Calls Tryz.prog 40 #[.slice om lm cm] (wr.drewN n) fun e w' => ∃ o l c, e = .returned (.slice o l c) ∧ Hid (Below wr.heap.size wr w') ∧ ((m = 0 ∧ l = 0) ∨ (m ≠ 0 ∧ 0 < l ∧ ∃ g f, o = some ⟨g, f, none⟩ ∧ g < w'.heap.size ∧ w'.cell? ⟨g, f, none⟩ = some (.int .u64 (m : Int))))) := fun n => by
          refine (nr_out _ m _ (by rw [HM.out]; exact HI.out.nm.below (below_drewN (Below.refl _ _) n)) (by unfold B64; omega)).mono ?_
          rintro e w' ⟨oo, ll, cc, rfl, h1, h2⟩
          exact ⟨oo, ll, cc, rfl, (below_drewN (Below.refl _ _) _).trans (h1.mono (Nat.le_refl _)), h2⟩
        have BLR := hide HI.out.blk
        have BEL := hide HI.out.bel
        clear ED HI HM HBM EN heL heU hb
        subst hse
        go_wp2_with fail
        refine (OUTC.out _).mono ?_
        rintro e w5 ⟨ol, ll, cl, rfl, b5, hcase⟩
        have BEL5 := hide (BEL.out.trans (b5.out.mono BEL.out.size))
        have BLR5 := hide (BLR.out.below b5.out BLR.out.lt)
        clear b5 BEL BLR OUTC x0
        rcases hcase with ⟨hm0, rfl⟩ | ⟨hm0, hl, g, f, rfl, hg, hcell⟩
        · have hr0 : r = 0 := by
            obtain ⟨h1, h2⟩ := RE.out
            rcases Nat.eq_zero_or_pos s with h3 | h3
            · rw [h1, h3, hm0]; rfl
            · have := h2 (by omega); omega
          have HR0 := hide (R0.out hr0)
          clear RE RL hm0 hr0 OR R0
          go_wp2
          go_ret
          refine ⟨?_, BEL5.out⟩
          rw [HR0.out]
          rfl
        · have hl' : (0 : Int) < (ll : Int) := by omega
          have hl'' : ¬ (ll : Int) = 0 := by omega
          have x05 : w5.cell? ⟨w.heap.size, 0, none⟩ = some (.int .i64 52) := BLR5.out.cell 0
          have x15 : w5.cell? ⟨w.heap.size, 1, none⟩ = some (.int .i64 11) := BLR5.out.cell 1
          go_wp2_with fail
          refine (bias64 _).mono ?_
          rintro e w6 ⟨rfl, b6⟩
          have BEL6 := hide (BEL5.out.trans (b6.mono BEL5.out.size))
          have q6 := BLR5.out.below b6 BLR5.out.lt
          have x06 : w6.cell? ⟨w.heap.size, 0, none⟩ = some (.int .i64 52) := q6.cell 0
          have x16 : w6.cell? ⟨w.heap.size, 1, none⟩ = some (.int .i64 11) := q6.cell 1
          have hc6 : w6.cell? ⟨g, f, none⟩ = some (.int .u64 (m : Int)) := by rw [World.cell?_of_block (w := w5) (b6.block g hg)]; exact hcell
          clear b6 q6 BEL5 BLR5 x05 x15 hcell hg
          by_cases hx : 2047 ≤ s
          · have hx' : (2047 : Int) ≤ (s : Int) := by omega
            have hrI : r = 9218868437227405312 := by have := RE.out.1; omega
            have FV := hide (OR.out 9218868437227405312 hrI)
            clear RE RL hx hrI OR R0
            go_wp2
            go_ret
            refine ⟨?_, BEL6.out⟩
            rw [← FV.out]
            rfl
          · have hx' : ¬ (2047 : Int) ≤ (s : Int) := by omega
            go_wp2_with fail
            go_quiet (fail)
            by_cases hge : 9218868437227405312 ≤ s * 4503599627370496 + m
            · have hge' : (9218868437227405312 : Int) ≤ (s : Int) * 4503599627370496 + (m : Int) := by omega
              have hrI : r = 9218868437227405312 := by have := RE.out.1; omega
              have FV := hide (OR.out 9218868437227405312 hrI)
              clear RE RL hx hge hrI OR R0
              go_wp2
              go_ret
              refine ⟨?_, below_drewN BEL6.out _⟩
              rw [← FV.out]
              rfl
            · have hge' : ¬ (9218868437227405312 : Int) ≤ (s : Int) * 4503599627370496 + (m : Int) := by omega
              have hrI : r = s * 4503599627370496 + m := by have := RE.out.1; omega
              have FV := hide (OR.out (s * 4503599627370496 + m) hrI)
              clear RE RL hx hge hrI OR R0
              go_wp2
              go_ret
              refine ⟨?_, below_drewN BEL6.out _⟩
              rw [← FV.out, show ((s * 4503599627370496 + m : Nat) : Int) = (s : Int) * 4503599627370496 + (m : Int) by omega]
              rfl

set_option maxRecDepth 100000 in
set_option maxHeartbeats 4000000 in
theorem rto64_true_pos (t : ByteArray) (ex : Int) (n : Nat) (w : World) (h : DigD (bys t) ex) (hex : ex = (n : Int)) (hs : 0 ≤ ex) :
    Calls Tryz.prog 13 #[k64, dcV 0 true t ex] w fun e w' => e = .returned (.int .u64 ((bitsOf 52 1074 (infN 52 11) (decV (bys t) * 10 ^ ex.toNat) (10 ^ (-ex).toNat) + 9223372036854775808 : Nat) : Int)) ∧ Below w.heap.size w w' := by
  have NS := Nums.of h
  obtain ⟨h0, h1, h2, h3, h4, h5, h6⟩ := h
  rw [bys_len] at h1 h2 h3
  have hne : t.size ≠ 0 := fun e => h0 (bys_nil.2 e)
  have ht := toList_ne hne
  have hnl : n ≤ 3000 := by omega
  have OFC : Hid (∀ W', Calls Tryz.prog 28 #[.string t] W' (NrPost W' (decV (bys t)))) := fun W' => (rof_any t W' (by omega) h6).mono fun e w' hh => NrPost.of hh
  have PW : Hid (∀ W' z, z = (n : Int) → Calls Tryz.prog 29 #[.int .i64 10, .int .i64 z] W' (NrPost W' (10 ^ n))) := fun W' z hz => nr_pow10 z n W' hz (by omega)
  have s1 : Sm (decV (bys t)) := Sm.of (decV_lt _ _ rfl h6) (by rw [bys_len]; omega)
  have SS : Hid (Sm (decV (bys t)) ∧ Sm (10 ^ n)) := ⟨s1, (fit_pow n hnl).sm0⟩
  obtain ⟨o, ho⟩ : ∃ o, o = decV (bys t) * 10 ^ ex.toNat := ⟨_, rfl⟩
  obtain ⟨u, hu⟩ : ∃ u, u = 10 ^ (-ex).toNat := ⟨_, rfl⟩
  rw [← ho, ← hu] at NS ⊢
  have OU : Hid (decV (bys t) * 10 ^ n = o ∧ 1 = u) := by
    refine ⟨by rw [ho, show ex.toNat = n by omega], by rw [hu, show (-ex).toNat = 0 by omega, Nat.pow_zero]⟩
  have bo := NS.fo.bits
  have bu := NS.fu.bits
  obtain ⟨bo', hbo⟩ : ∃ z, z = bitsN o := ⟨_, rfl⟩
  obtain ⟨bu', hbu⟩ : ∃ z, z = bitsN u := ⟨_, rfl⟩
  obtain ⟨e0, he0⟩ : ∃ e : Int, e = max ((bo' : Int) - (bu' : Int) - 52 - 2) (-1074) := ⟨_, rfl⟩
  have ST : Hid (RInv 52 1074 o u e0) := by rw [he0, hbo, hbu]; exact RInv.start NS.o0 NS.u0
  have EN : Hid (∀ e : Int, -1074 ≤ e → 9007199254740992 ≤ rnd o u e → e < (bo' : Int) - (bu' : Int) + 1 - 52) := fun e h1 h2 => by
    rcases Int.lt_or_le e ((bo' : Int) - (bu' : Int) + 1 - 52) with h3 | h3
    · exact h3
    · exfalso
      have := rnd_end (F := 52) (B := 1074) NS.o0 NS.u0 h1 (by rw [← hbo, ← hbu]; exact h3)
      have e1 : (2 : Nat) ^ 52 = 4503599627370496 := by decide
      rw [e1] at this
      omega
  rw [← hbo] at bo
  rw [← hbu] at bu
  have BNO := hide hbo
  have BNU := hide hbu
  have NSH := hide NS
  obtain ⟨r, hr⟩ : ∃ r, r = bitsOf 52 1074 (infN 52 11) o u := ⟨_, rfl⟩
  have HR := hide hr
  have RL : Hid (r ≤ 9218868437227405312) := by show r ≤ 9218868437227405312; rw [hr, ← inf64]; exact bitsOf_le _ _ _ _ _
  rw [← hr]
  obtain ⟨R, hRR⟩ : ∃ R, R = r + 9223372036854775808 := ⟨_, rfl⟩
  rw [← hRR]
  have OR : Hid (∀ a : Nat, r = a → bits .or .u64 9223372036854775808 (a : Int) = (R : Int)) := fun a ha => by
    subst ha
    have h1 : r ≤ 9218868437227405312 := RL.out
    rw [hRR]
    exact or_sign (k := 63) 9223372036854775808 (by decide) (by omega) (by omega)
  have R0 : Hid (r = 0 → (R : Int) = 9223372036854775808) := fun h => by rw [hRR, h]; rfl
  clear hRR
  have hex1 : ex = (n : Int) := hex
  have HEX := hide hex1
  clear hex1
  clear h0 h1 h2 h3 h4 h5 h6 hne s1 ho hu NS hbo hbu hr hex
  have blkk := (Blk.new w #[.int .i64 52, .int .i64 11] 32).alloc (.cells #[.int .i64 0, .bool true, .string t, .int .i64 ex] 23)
  have blkd := Blk.newAt (w.alloc (.cells #[.int .i64 52, .int .i64 11] 32)) (w.heap.size + 1) (by simp) #[.int .i64 0, .bool true, .string t, .int .i64 ex] 23
  obtain ⟨W, hW⟩ : ∃ W, W = ((w.alloc (.cells #[.int .i64 52, .int .i64 11] 32)).alloc (.cells #[.int .i64 0, .bool true, .string t, .int .i64 ex] 23)) := ⟨_, rfl⟩
  rw [← hW] at blkk blkd
  have HBW : Hid (Below w.heap.size w W) := by rw [hW]; exact ((Below.refl _ _).alloc (Nat.le_refl _) _).alloc (by simp) _
  have BLK := hide blkk
  have BLD := hide blkd
  have x0 : W.cell? ⟨w.heap.size, 0, none⟩ = some (.int .i64 52) := blkk.cell 0
  have x1 : W.cell? ⟨w.heap.size, 1, none⟩ = some (.int .i64 11) := blkk.cell 1
  have y0 : W.cell? ⟨w.heap.size + 1, 0, none⟩ = some (.int .i64 0) := blkd.cell 0
  have y1 : W.cell? ⟨w.heap.size + 1, 1, none⟩ = some (.bool true) := blkd.cell 1
  have y2 : W.cell? ⟨w.heap.size + 1, 2, none⟩ = some (.string t) := blkd.cell 2
  have y3 : W.cell? ⟨w.heap.size + 1, 3, none⟩ = some (.int .i64 ex) := blkd.cell 3
  have HW := hide hW
  clear blkk blkd hW
  go_enter Tryz.func13, Tryz.ntmps13
  go_wp2_with fail
  simp only [← HW.out]
  go_quiet (fail)
  go_wp2_with fail
  refine (OFC.out _).mono ?_
  rintro e w1 ⟨o1, c1, l1, rfl, n1, b1⟩
  have AL : Hid (Below w1.heap.size w1 (w1.alloc (.cells #[.int .u32 1] 34))) := (Below.refl _ _).alloc (Nat.le_refl _) _
  have HB1 := hide (HBW.out.trans (((below_drewN (Below.refl _ _) _).trans (b1.mono (Nat.le_refl _)) |>.trans (AL.out.mono b1.size)).mono HBW.out.size))
  have BK1 := hide (BLK.out.below ((below_drewN (Below.refl _ _) _).trans (b1.mono (Nat.le_refl _)) |>.trans (AL.out.mono b1.size)) BLK.out.lt)
  have BD1 := hide (BLD.out.below ((below_drewN (Below.refl _ _) _).trans (b1.mono (Nat.le_refl _)) |>.trans (AL.out.mono b1.size)) BLD.out.lt)
  have N1 := hide (n1.below AL.out)
  have N2 := hide (row_one32 w1)
  obtain ⟨V, hV⟩ : ∃ V, V = w1.alloc (.cells #[.int .u32 1] 34) := ⟨_, rfl⟩
  obtain ⟨g1, hg1⟩ : ∃ g, g = w1.heap.size := ⟨_, rfl⟩
  rw [← hV] at HB1 BK1 BD1 N1 N2
  rw [← hg1] at N2
  have z3 : V.cell? ⟨w.heap.size + 1, 3, none⟩ = some (.int .i64 ex) := BD1.out.cell 3
  have HVH := hide hV
  have HGH := hide hg1
  clear n1 b1 AL OFC HBW BLK BLD x0 x1 y0 y1 y2 y3 HW hV hg1
  go_wp2_with (simp only [← HVH.out, ← HGH.out])
  refine (PW.out _ _ HEX.out).mono ?_
  rintro e w2 ⟨o2, c2, l2, rfl, n2, b2⟩
  have N12 := hide (N1.out.below b2)
  have NP := hide n2
  have T2 := hide b2
  clear n2 b2 N1
  go_wp2_with fail
  refine (nr_mul _ _ (decV (bys t)) (10 ^ n) w2 N12.out NP.out SS.out.1 SS.out.2).mono ?_
  rintro e wz ⟨o3, c3, l3, rfl, n3, b3⟩
  rw [OU.out.1] at n3
  have T3 := hide (T2.out.trans (b3.mono T2.out.size))
  have NO := hide n3
  have NU : Hid (Nr wz (.slice (some ⟨g1, 0, none⟩) 1 1) u) := by rw [← OU.out.2]; exact N2.out.below T3.out
  clear n3 b3 T2 N12 NP
  have HBZ := hide (HB1.out.trans (T3.out.mono HB1.out.size))
  have BKZ := hide (BK1.out.below T3.out BK1.out.lt)
  have x0 : wz.cell? ⟨w.heap.size, 0, none⟩ = some (.int .i64 52) := BKZ.out.cell 0
  have x1 : wz.cell? ⟨w.heap.size, 1, none⟩ = some (.int .i64 11) := BKZ.out.cell 1
  have BO : Hid (∀ n, Calls Tryz.prog 37 #[.slice o3 l3 c3] (wz.drewN n) fun e w' => e = .returned (.int .i64 (bo' : Int)) ∧ w' = wz.drewN n) := fun n => by
    refine (nr_bits _ o _ (NO.out.below (below_drewN (Below.refl _ _) n)) NSH.out.fo.sm0).mono ?_
    rintro e w' ⟨rfl, rfl⟩
    rw [BNO.out]; exact ⟨rfl, rfl⟩
  have BU : Hid (∀ n, Calls Tryz.prog 37 #[.slice (some ⟨g1, 0, none⟩) 1 1] (wz.drewN n) fun e w' => e = .returned (.int .i64 (bu' : Int)) ∧ w' = wz.drewN n) := fun n => by
    refine (nr_bits _ u _ (NU.out.below (below_drewN (Below.refl _ _) n)) NSH.out.fu.sm0).mono ?_
    rintro e w' ⟨rfl, rfl⟩
    rw [BNU.out]; exact ⟨rfl, rfl⟩
  have RD : Hid (∀ W' z (e : Int), z = -e → -32000 ≤ e → e ≤ 32000 → Below wz.heap.size wz W' → Calls Tryz.prog 39 #[.slice o3 l3 c3, .slice (some ⟨g1, 0, none⟩) 1 1, .int .i64 z] W' (NrPost W' (rnd o u e))) := fun W' z e hz h1 h2 hb => rounded_any _ _ _ _ _ _ o u e z W' hz (NO.out.below hb) (NU.out.below hb) NSH.out.fo NSH.out.fu h1 h2 NSH.out.u0
  have HE0 := hide he0
  clear T3 N2 z3 HB1 BK1 BD1 HVH HGH SS OU PW HEX BNO BNU he0
  go_wp2_with fail
  go_quiet (first | (go_at_call 37; with_reducible refine Calls.quiet_of_same (BO.out _)) | (go_at_call 37; with_reducible refine Calls.quiet_of_same (BU.out _)))
  clear BO BU
  go_wp2_with fail
  refine (bias64 _).mono ?_
  rintro e w4 ⟨rfl, b4⟩
  have T4 : Hid (Below wz.heap.size wz w4) := (below_drewN (Below.refl _ _) _).trans (b4.mono (Nat.le_refl _))
  have q4 := BKZ.out.below T4.out BKZ.out.lt
  have x04 : w4.cell? ⟨w.heap.size, 0, none⟩ = some (.int .i64 52) := q4.cell 0
  have x14 : w4.cell? ⟨w.heap.size, 1, none⟩ = some (.int .i64 11) := q4.cell 1
  clear b4 q4 x0 x1
  by_cases hc : (bo' : Int) - (bu' : Int) - 52 - 2 < -1074
  · have he : e0 = -1074 := by have := HE0.out; omega
    have HEE := hide he
    clear he HE0
    go_wp2_with fail
    refine (bias64 _).mono ?_
    rintro e w5 ⟨rfl, b5⟩
    have T5 := hide (T4.out.trans (b5.mono T4.out.size))
    clear b5 T4 x04 x14
    go_wp2_with fail
    refine (RD.out _ _ e0 (by have := HEE.out; omega) (by have := HEE.out; omega) (by have := HEE.out; omega) T5.out).mono ?_
    rintro e w6 ⟨om, cm, lm, rfl, nm, b6⟩
    have START : Hid (To64Inv w o u (-1074) (.slice o3 l3 c3) (.slice (some ⟨g1, 0, none⟩) 1 1) (.slice om lm cm) w6) := by
      have t6 := T5.out.trans (b6.mono T5.out.size)
      have := ST.out
      rw [HEE.out] at this nm
      exact ⟨HBZ.out.trans (t6.mono HBZ.out.size), BKZ.out.below t6 BKZ.out.lt, this, by omega, NO.out.below t6, NU.out.below t6, nm⟩
    clear nm b6 T5 ST HBZ BKZ NO NU RD hc
    go_wp2
    go_loopw [9, 10] (fun ve vm wr => ∃ (e : Int) (om : Option Addr) (lm cm : Nat), ve = .int .i64 e ∧ vm = .slice om lm cm ∧ To64Inv w o u e (.slice o3 l3 c3) (.slice (some ⟨g1, 0, none⟩) 1 1) (.slice om lm cm) wr) (fun ve _ _ => ((bo' : Int) - (bu' : Int) + 1 - 52 - intOf ve).toNat)
    case atStart => exact ⟨-1074, om, lm, cm, rfl, rfl, START.out⟩
    case round =>
      clear START
      obtain ⟨e, om, lm, cm, rfl, rfl, hinv⟩ := hrel
      have HI := hide hinv
      have heL := hinv.inv.1
      have heU := hinv.up
      clear hinv
      have x0 : wr.cell? ⟨w.heap.size, 0, none⟩ = some (.int .i64 52) := HI.out.blk.cell 0
      obtain ⟨m, hm⟩ : ∃ m, m = rnd o u e := ⟨_, rfl⟩
      obtain ⟨bm, hbm⟩ : ∃ z, z = bitsN m := ⟨_, rfl⟩
      have BM : Hid (∀ n, Calls Tryz.prog 37 #[.slice om lm cm] (wr.drewN n) fun e w' => e = .returned (.int .i64 (bm : Int)) ∧ w' = wr.drewN n) := fun n => by
        refine (nr_bits _ m _ (by rw [hm]; exact HI.out.nm.below (below_drewN (Below.refl _ _) n)) (by rw [hm]; exact rnd_sm NSH.out.fo NSH.out.u0 (by omega))).mono ?_
        rintro e w' ⟨rfl, rfl⟩
        rw [hbm]; exact ⟨rfl, rfl⟩
      have HM := hide hm
      have HBM := hide hbm
      clear hm hbm
      go_wp2_with fail
      go_quiet (first | (go_at_call 37; with_reducible refine Calls.quiet_of_same (BM.out _)))
      clear BM
      by_cases hb : 53 < bm
      · have hb' : (53 : Int) < (bm : Int) := by omega
        have hlt : e < (bo' : Int) - (bu' : Int) + 1 - 52 := EN.out e heL (by
          rw [← HM.out]
          exact bitsN_gt (k := 53) (by rw [← HBM.out]; exact hb))
        have NX : Hid (RInv 52 1074 o u (e + 1)) := HI.out.inv.step NSH.out.u0 (by
          rw [← HM.out]
          have := bitsN_gt (n := m) (k := 53) (by rw [← HBM.out]; exact hb)
          have e1 : 2 * 2 ^ 52 = 2 ^ 53 := by decide
          omega)
        have RD : Hid (∀ n z, z = -(e + 1) → Calls Tryz.prog 39 #[.slice o3 l3 c3, .slice (some ⟨g1, 0, none⟩) 1 1, .int .i64 z] (wr.drewN n) (NrPost (wr.drewN n) (rnd o u (e + 1)))) := fun n z hz => rounded_any _ _ _ _ _ _ o u (e + 1) z _ hz (HI.out.no.below (below_drewN (Below.refl _ _) n)) (HI.out.nu.below (below_drewN (Below.refl _ _) n)) NSH.out.fo NSH.out.fu (by omega) (by omega) NSH.out.u0
        clear hb
        go_wp2_with fail
        refine (RD.out _ _ (by omega)).mono ?_
        rintro e2 w7 ⟨om2, cm2, lm2, rfl, nm2, b7⟩
        have T7 : Hid (Below wr.heap.size wr w7) := (below_drewN (Below.refl _ _) _).trans (b7.mono (Nat.le_refl _))
        have NEXT : Hid (To64Inv w o u (e + 1) (.slice o3 l3 c3) (.slice (some ⟨g1, 0, none⟩) 1 1) (.slice om2 lm2 cm2) w7) := ⟨HI.out.bel.trans (T7.out.mono HI.out.bel.size), HI.out.blk.below T7.out HI.out.blk.lt, NX.out, by omega, HI.out.no.below T7.out, HI.out.nu.below T7.out, nm2⟩
        clear nm2 b7 T7 NX RD HI
        go_wp2
        go_roundw
        case rel => exact ⟨e + 1, om2, lm2, cm2, by go_num, rfl, NEXT.out⟩
        case measure => simp [intOf]; omega
      · have hb' : ¬ (53 : Int) < (bm : Int) := by omega
        have mlt : m < 9007199254740992 := bitsN_low (k := 53) (by rw [← HBM.out]; omega)
        obtain ⟨s, hse⟩ : ∃ s : Nat, e = (s : Int) - 1074 := ⟨(e + 1074).toNat, by omega⟩
        have hs1 : s ≤ 33000 := by omega
        have ED := to64_end HI.out NSH.out.o0 NSH.out.u0 (by rw [← HM.out]; exact mlt)
        rw [← HM.out, ← HR.out, show (e + 1074).toNat = s by omega] at ED
        have RE := hide ED
        have OUTC : Hid (∀ n, Calls Tryz.prog 40 #[.slice om lm cm] (wr.drewN n) fun e w' => ∃ o l c, e = .returned (.slice o l c) ∧ Hid (Below wr.heap.size wr w') ∧ ((m = 0 ∧ l = 0) ∨ (m ≠ 0 ∧ 0 < l ∧ ∃ g f, o = some ⟨g, f, none⟩ ∧ g < w'.heap.size ∧ w'.cell? ⟨g, f, none⟩ = some (.int .u64 (m : Int))))) := fun n => by
          refine (nr_out _ m _ (by rw [HM.out]; exact HI.out.nm.below (below_drewN (Below.refl _ _) n)) (by unfold B64; omega)).mono ?_
          rintro e w' ⟨oo, ll, cc, rfl, h1, h2⟩
          exact ⟨oo, ll, cc, rfl, (below_drewN (Below.refl _ _) _).trans (h1.mono (Nat.le_refl _)), h2⟩
        have BLR := hide HI.out.blk
        have BEL := hide HI.out.bel
        clear ED HI HM HBM EN heL heU hb
        subst hse
        go_wp2_with fail
        refine (OUTC.out _).mono ?_
        rintro e w5 ⟨ol, ll, cl, rfl, b5, hcase⟩
        have BEL5 := hide (BEL.out.trans (b5.out.mono BEL.out.size))
        have BLR5 := hide (BLR.out.below b5.out BLR.out.lt)
        clear b5 BEL BLR OUTC x0
        rcases hcase with ⟨hm0, rfl⟩ | ⟨hm0, hl, g, f, rfl, hg, hcell⟩
        · have hr0 : r = 0 := by
            obtain ⟨h1, h2⟩ := RE.out
            rcases Nat.eq_zero_or_pos s with h3 | h3
            · rw [h1, h3, hm0]; rfl
            · have := h2 (by omega); omega
          have HR0 := hide (R0.out hr0)
          clear RE RL hm0 hr0 OR R0
          go_wp2
          go_ret
          refine ⟨?_, BEL5.out⟩
          rw [HR0.out]
          rfl
        · have hl' : (0 : Int) < (ll : Int) := by omega
          have hl'' : ¬ (ll : Int) = 0 := by omega
          have x05 : w5.cell? ⟨w.heap.size, 0, none⟩ = some (.int .i64 52) := BLR5.out.cell 0
          have x15 : w5.cell? ⟨w.heap.size, 1, none⟩ = some (.int .i64 11) := BLR5.out.cell 1
          go_wp2_with fail
          refine (bias64 _).mono ?_
          rintro e w6 ⟨rfl, b6⟩
          have BEL6 := hide (BEL5.out.trans (b6.mono BEL5.out.size))
          have q6 := BLR5.out.below b6 BLR5.out.lt
          have x06 : w6.cell? ⟨w.heap.size, 0, none⟩ = some (.int .i64 52) := q6.cell 0
          have x16 : w6.cell? ⟨w.heap.size, 1, none⟩ = some (.int .i64 11) := q6.cell 1
          have hc6 : w6.cell? ⟨g, f, none⟩ = some (.int .u64 (m : Int)) := by rw [World.cell?_of_block (w := w5) (b6.block g hg)]; exact hcell
          clear b6 q6 BEL5 BLR5 x05 x15 hcell hg
          by_cases hx : 2047 ≤ s
          · have hx' : (2047 : Int) ≤ (s : Int) := by omega
            have hrI : r = 9218868437227405312 := by have := RE.out.1; omega
            have FV := hide (OR.out 9218868437227405312 hrI)
            clear RE RL hx hrI OR R0
            go_wp2
            go_ret
            refine ⟨?_, BEL6.out⟩
            rw [← FV.out]
            rfl
          · have hx' : ¬ (2047 : Int) ≤ (s : Int) := by omega
            go_wp2_with fail
            go_quiet (fail)
            by_cases hge : 9218868437227405312 ≤ s * 4503599627370496 + m
            · have hge' : (9218868437227405312 : Int) ≤ (s : Int) * 4503599627370496 + (m : Int) := by omega
              have hrI : r = 9218868437227405312 := by have := RE.out.1; omega
              have FV := hide (OR.out 9218868437227405312 hrI)
              clear RE RL hx hge hrI OR R0
              go_wp2
              go_ret
              refine ⟨?_, below_drewN BEL6.out _⟩
              rw [← FV.out]
              rfl
            · have hge' : ¬ (9218868437227405312 : Int) ≤ (s : Int) * 4503599627370496 + (m : Int) := by omega
              have hrI : r = s * 4503599627370496 + m := by have := RE.out.1; omega
              have FV := hide (OR.out (s * 4503599627370496 + m) hrI)
              clear RE RL hx hge hrI OR R0
              go_wp2
              go_ret
              refine ⟨?_, below_drewN BEL6.out _⟩
              rw [← FV.out, show ((s * 4503599627370496 + m : Nat) : Int) = (s : Int) * 4503599627370496 + (m : Int) by omega]
              rfl

  · have he : e0 = (bo' : Int) - (bu' : Int) - 52 - 2 := by have := HE0.out; omega
    have HEE := hide he
    clear he HE0
    go_wp2_with fail
    refine (RD.out _ _ e0 (by have := HEE.out; omega) (by have := HEE.out; omega) (by have := HEE.out; omega) T4.out).mono ?_
    rintro e w6 ⟨om, cm, lm, rfl, nm, b6⟩
    have START : Hid (To64Inv w o u ((bo' : Int) - (bu' : Int) - 52 - 2) (.slice o3 l3 c3) (.slice (some ⟨g1, 0, none⟩) 1 1) (.slice om lm cm) w6) := by
      have t6 := T4.out.trans (b6.mono T4.out.size)
      have := ST.out
      rw [HEE.out] at this nm
      exact ⟨HBZ.out.trans (t6.mono HBZ.out.size), BKZ.out.below t6 BKZ.out.lt, this, by omega, NO.out.below t6, NU.out.below t6, nm⟩
    clear nm b6 T4 ST HBZ BKZ NO NU RD hc x04 x14
    go_wp2
    go_loopw [9, 10] (fun ve vm wr => ∃ (e : Int) (om : Option Addr) (lm cm : Nat), ve = .int .i64 e ∧ vm = .slice om lm cm ∧ To64Inv w o u e (.slice o3 l3 c3) (.slice (some ⟨g1, 0, none⟩) 1 1) (.slice om lm cm) wr) (fun ve _ _ => ((bo' : Int) - (bu' : Int) + 1 - 52 - intOf ve).toNat)
    case atStart => exact ⟨(bo' : Int) - (bu' : Int) - 52 - 2, om, lm, cm, rfl, rfl, START.out⟩
    case round =>
      clear START
      obtain ⟨e, om, lm, cm, rfl, rfl, hinv⟩ := hrel
      have HI := hide hinv
      have heL := hinv.inv.1
      have heU := hinv.up
      clear hinv
      have x0 : wr.cell? ⟨w.heap.size, 0, none⟩ = some (.int .i64 52) := HI.out.blk.cell 0
      obtain ⟨m, hm⟩ : ∃ m, m = rnd o u e := ⟨_, rfl⟩
      obtain ⟨bm, hbm⟩ : ∃ z, z = bitsN m := ⟨_, rfl⟩
      have BM : Hid (∀ n, Calls Tryz.prog 37 #[.slice om lm cm] (wr.drewN n) fun e w' => e = .returned (.int .i64 (bm : Int)) ∧ w' = wr.drewN n) := fun n => by
        refine (nr_bits _ m _ (by rw [hm]; exact HI.out.nm.below (below_drewN (Below.refl _ _) n)) (by rw [hm]; exact rnd_sm NSH.out.fo NSH.out.u0 (by omega))).mono ?_
        rintro e w' ⟨rfl, rfl⟩
        rw [hbm]; exact ⟨rfl, rfl⟩
      have HM := hide hm
      have HBM := hide hbm
      clear hm hbm
      go_wp2_with fail
      go_quiet (first | (go_at_call 37; with_reducible refine Calls.quiet_of_same (BM.out _)))
      clear BM
      by_cases hb : 53 < bm
      · have hb' : (53 : Int) < (bm : Int) := by omega
        have hlt : e < (bo' : Int) - (bu' : Int) + 1 - 52 := EN.out e heL (by
          rw [← HM.out]
          exact bitsN_gt (k := 53) (by rw [← HBM.out]; exact hb))
        have NX : Hid (RInv 52 1074 o u (e + 1)) := HI.out.inv.step NSH.out.u0 (by
          rw [← HM.out]
          have := bitsN_gt (n := m) (k := 53) (by rw [← HBM.out]; exact hb)
          have e1 : 2 * 2 ^ 52 = 2 ^ 53 := by decide
          omega)
        have RD : Hid (∀ n z, z = -(e + 1) → Calls Tryz.prog 39 #[.slice o3 l3 c3, .slice (some ⟨g1, 0, none⟩) 1 1, .int .i64 z] (wr.drewN n) (NrPost (wr.drewN n) (rnd o u (e + 1)))) := fun n z hz => rounded_any _ _ _ _ _ _ o u (e + 1) z _ hz (HI.out.no.below (below_drewN (Below.refl _ _) n)) (HI.out.nu.below (below_drewN (Below.refl _ _) n)) NSH.out.fo NSH.out.fu (by omega) (by omega) NSH.out.u0
        clear hb
        go_wp2_with fail
        refine (RD.out _ _ (by omega)).mono ?_
        rintro e2 w7 ⟨om2, cm2, lm2, rfl, nm2, b7⟩
        have T7 : Hid (Below wr.heap.size wr w7) := (below_drewN (Below.refl _ _) _).trans (b7.mono (Nat.le_refl _))
        have NEXT : Hid (To64Inv w o u (e + 1) (.slice o3 l3 c3) (.slice (some ⟨g1, 0, none⟩) 1 1) (.slice om2 lm2 cm2) w7) := ⟨HI.out.bel.trans (T7.out.mono HI.out.bel.size), HI.out.blk.below T7.out HI.out.blk.lt, NX.out, by omega, HI.out.no.below T7.out, HI.out.nu.below T7.out, nm2⟩
        clear nm2 b7 T7 NX RD HI
        go_wp2
        go_roundw
        case rel => exact ⟨e + 1, om2, lm2, cm2, by go_num, rfl, NEXT.out⟩
        case measure => simp [intOf]; omega
      · have hb' : ¬ (53 : Int) < (bm : Int) := by omega
        have mlt : m < 9007199254740992 := bitsN_low (k := 53) (by rw [← HBM.out]; omega)
        obtain ⟨s, hse⟩ : ∃ s : Nat, e = (s : Int) - 1074 := ⟨(e + 1074).toNat, by omega⟩
        have hs1 : s ≤ 33000 := by omega
        have ED := to64_end HI.out NSH.out.o0 NSH.out.u0 (by rw [← HM.out]; exact mlt)
        rw [← HM.out, ← HR.out, show (e + 1074).toNat = s by omega] at ED
        have RE := hide ED
        have OUTC : Hid (∀ n, Calls Tryz.prog 40 #[.slice om lm cm] (wr.drewN n) fun e w' => ∃ o l c, e = .returned (.slice o l c) ∧ Hid (Below wr.heap.size wr w') ∧ ((m = 0 ∧ l = 0) ∨ (m ≠ 0 ∧ 0 < l ∧ ∃ g f, o = some ⟨g, f, none⟩ ∧ g < w'.heap.size ∧ w'.cell? ⟨g, f, none⟩ = some (.int .u64 (m : Int))))) := fun n => by
          refine (nr_out _ m _ (by rw [HM.out]; exact HI.out.nm.below (below_drewN (Below.refl _ _) n)) (by unfold B64; omega)).mono ?_
          rintro e w' ⟨oo, ll, cc, rfl, h1, h2⟩
          exact ⟨oo, ll, cc, rfl, (below_drewN (Below.refl _ _) _).trans (h1.mono (Nat.le_refl _)), h2⟩
        have BLR := hide HI.out.blk
        have BEL := hide HI.out.bel
        clear ED HI HM HBM EN heL heU hb
        subst hse
        go_wp2_with fail
        refine (OUTC.out _).mono ?_
        rintro e w5 ⟨ol, ll, cl, rfl, b5, hcase⟩
        have BEL5 := hide (BEL.out.trans (b5.out.mono BEL.out.size))
        have BLR5 := hide (BLR.out.below b5.out BLR.out.lt)
        clear b5 BEL BLR OUTC x0
        rcases hcase with ⟨hm0, rfl⟩ | ⟨hm0, hl, g, f, rfl, hg, hcell⟩
        · have hr0 : r = 0 := by
            obtain ⟨h1, h2⟩ := RE.out
            rcases Nat.eq_zero_or_pos s with h3 | h3
            · rw [h1, h3, hm0]; rfl
            · have := h2 (by omega); omega
          have HR0 := hide (R0.out hr0)
          clear RE RL hm0 hr0 OR R0
          go_wp2
          go_ret
          refine ⟨?_, BEL5.out⟩
          rw [HR0.out]
          rfl
        · have hl' : (0 : Int) < (ll : Int) := by omega
          have hl'' : ¬ (ll : Int) = 0 := by omega
          have x05 : w5.cell? ⟨w.heap.size, 0, none⟩ = some (.int .i64 52) := BLR5.out.cell 0
          have x15 : w5.cell? ⟨w.heap.size, 1, none⟩ = some (.int .i64 11) := BLR5.out.cell 1
          go_wp2_with fail
          refine (bias64 _).mono ?_
          rintro e w6 ⟨rfl, b6⟩
          have BEL6 := hide (BEL5.out.trans (b6.mono BEL5.out.size))
          have q6 := BLR5.out.below b6 BLR5.out.lt
          have x06 : w6.cell? ⟨w.heap.size, 0, none⟩ = some (.int .i64 52) := q6.cell 0
          have x16 : w6.cell? ⟨w.heap.size, 1, none⟩ = some (.int .i64 11) := q6.cell 1
          have hc6 : w6.cell? ⟨g, f, none⟩ = some (.int .u64 (m : Int)) := by rw [World.cell?_of_block (w := w5) (b6.block g hg)]; exact hcell
          clear b6 q6 BEL5 BLR5 x05 x15 hcell hg
          by_cases hx : 2047 ≤ s
          · have hx' : (2047 : Int) ≤ (s : Int) := by omega
            have hrI : r = 9218868437227405312 := by have := RE.out.1; omega
            have FV := hide (OR.out 9218868437227405312 hrI)
            clear RE RL hx hrI OR R0
            go_wp2
            go_ret
            refine ⟨?_, BEL6.out⟩
            rw [← FV.out]
            rfl
          · have hx' : ¬ (2047 : Int) ≤ (s : Int) := by omega
            go_wp2_with fail
            go_quiet (fail)
            by_cases hge : 9218868437227405312 ≤ s * 4503599627370496 + m
            · have hge' : (9218868437227405312 : Int) ≤ (s : Int) * 4503599627370496 + (m : Int) := by omega
              have hrI : r = 9218868437227405312 := by have := RE.out.1; omega
              have FV := hide (OR.out 9218868437227405312 hrI)
              clear RE RL hx hge hrI OR R0
              go_wp2
              go_ret
              refine ⟨?_, below_drewN BEL6.out _⟩
              rw [← FV.out]
              rfl
            · have hge' : ¬ (9218868437227405312 : Int) ≤ (s : Int) * 4503599627370496 + (m : Int) := by omega
              have hrI : r = s * 4503599627370496 + m := by have := RE.out.1; omega
              have FV := hide (OR.out (s * 4503599627370496 + m) hrI)
              clear RE RL hx hge hrI OR R0
              go_wp2
              go_ret
              refine ⟨?_, below_drewN BEL6.out _⟩
              rw [← FV.out, show ((s * 4503599627370496 + m : Nat) : Int) = (s : Int) * 4503599627370496 + (m : Int) by omega]
              rfl

/-- A Dec that may be: its float's bits. -/
theorem rto64_any (c : Int) (neg : Bool) (t : ByteArray) (ex : Int) (w : World) (h : MayD c neg (bys t) ex) : Calls Tryz.prog 13 #[k64, dcV c neg t ex] w fun e w' => e = .returned (.int .u64 ((toD 52 11 1074 ⟨c.toNat, neg, bys t, ex⟩ : Nat) : Int)) ∧ Below w.heap.size w w' := by
  have h' := h
  rcases h with ⟨rfl, _⟩ | ⟨rfl, h1, rfl⟩ | ⟨rfl, rfl, h1, rfl⟩
  · rcases (mayD_0 neg t ex).1 h' with h1 | h1
    · obtain ⟨h1, rfl⟩ := h1
      rw [size_nil h1]
      have hd : toD 52 11 1074 ⟨(0 : Int).toNat, neg, bys ⟨#[]⟩, 0⟩ = sigN 52 11 neg := by
        unfold toD
        rw [if_neg (by simp), if_neg (by simp), if_pos (by simp [bys])]
      rw [hd]
      cases neg with
      | false =>
        rw [sig64_f]
        exact rto64_zero_false w
      | true =>
        rw [sig64_t]
        exact rto64_zero_true w
    · have hd : toD 52 11 1074 ⟨(0 : Int).toNat, neg, bys t, ex⟩ = bitsOf 52 1074 (infN 52 11) (decV (bys t) * 10 ^ ex.toNat) (10 ^ (-ex).toNat) + sigN 52 11 neg := by
        unfold toD
        rw [if_neg (by simp), if_neg (by simp), if_neg h1.1]
        rfl
      rw [hd]
      cases neg with
      | false =>
        rw [sig64_f, Nat.add_zero]
        by_cases hs : 0 ≤ ex
        · exact rto64_false_pos t ex ex.toNat w h1 (by omega) hs
        · exact rto64_false_neg t ex (-ex).toNat w h1 (by omega) hs
      | true =>
        rw [sig64_t]
        by_cases hs : 0 ≤ ex
        · exact rto64_true_pos t ex ex.toNat w h1 (by omega) hs
        · exact rto64_true_neg t ex (-ex).toNat w h1 (by omega) hs
  · rw [size_nil (bys_nil.1 h1)]
    have hd : toD 52 11 1074 ⟨(1 : Int).toNat, neg, bys ⟨#[]⟩, 0⟩ = infN 52 11 + sigN 52 11 neg := by
      unfold toD
      rw [if_neg (by simp), if_pos (by simp)]
    rw [hd, inf64]
    cases neg with
    | false =>
      rw [sig64_f, Nat.add_zero]
      exact rto64_inf_false w
    | true =>
      rw [sig64_t, show 9218868437227405312 + 9223372036854775808 = 18442240474082181120 by decide]
      exact rto64_inf_true w
  · rw [size_nil (bys_nil.1 h1)]
    have hd : toD 52 11 1074 ⟨(2 : Int).toNat, false, bys ⟨#[]⟩, 0⟩ = 9221120237041090561 := by
      unfold toD
      rw [if_pos (by simp), inf64]
    rw [hd]
    exact rto64_nan w

end Go.Proofs.YtlhekeifffofjaaGreatDoor
