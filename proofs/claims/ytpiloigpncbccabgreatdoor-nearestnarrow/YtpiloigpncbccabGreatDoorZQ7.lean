/-
  What the reference's Bits does.
  What quipuref04's rounded does, and the calls of the reference's lower layers that it and To make.
-/
import Derived.Test.YtpiloigpncbccabGreatDoorOut
import Derived.Test.YtpiloigpncbccabGreatDoorZSR
import Derived.Test.YtpiloigpncbccabGreatDoorZQ5
import Derived.Test.YtpiloigpncbccabGreatDoorZNC
namespace Go.Proofs.YtpiloigpncbccabGreatDoor
open Go.RowKit

theorem bitsN_half {x : Nat} (h : 0 < x) : bitsN x = bitsN (x / 2) + 1 := by
  by_cases h1 : x = 1
  · subst h1; decide
  · obtain ⟨k, hk, a1, a2⟩ := bitsN_spec (show x / 2 ≠ 0 by omega)
    rw [hk]
    refine bitsN_eq (k := k + 1) ?_ ?_
    · rw [Nat.pow_succ]; omega
    · rw [Nat.pow_succ] at a2 ⊢; omega


theorem rbits_num {ys : List Nat} {t : Nat} (oy : Ok 65536 ys) (ht : (trimmed ys).length = t + 1) : bitsN (num 65536 ys) = 16 * t + bitsN (dg (trimmed ys) t) := by
  have h := bits_top pow16 (f := dg (trimmed ys)) (n := t) (fun i _ => trimmed_ok oy i) (trimmed_top ys t ht)
  rw [← num_trimmed]
  unfold num
  rw [ht, h]

set_option maxRecDepth 100000 in
set_option maxHeartbeats 1000000 in
theorem rbits_any (ao : Option Addr) (la ca : Nat) (ys : List Nat) (w : World) (hla : la ≤ ca) (hl : la ≤ 1000000000) (hx : ys.length = la) (hat : At .u32 w ao ys) (oy : Ok 65536 ys) :
    Calls Tryz.prog 39 #[.slice ao la ca] w fun e w' => e = .returned (.int .i64 (bitsN (num 65536 ys) : Int)) ∧ w = w' := by
  obtain ⟨m, hm⟩ : ∃ m, m = (trimmed ys).length := ⟨_, rfl⟩
  have hml : m ≤ la := by rw [hm, ← hx]; exact length_trimmed_le ys
  have T1 : Hid ((trimmed ys).length = m) := hm.symm
  rcases m with _ | t
  · have hz : num 65536 ys = 0 := by
      rw [← num_trimmed, List.length_eq_zero_iff.1 hm.symm]; rfl
    have HZ : Hid (num 65536 ys = 0) := hz
    clear hm hz
    go_enter Tryz.func39, Tryz.ntmps39
    go_wp2_with fail
    refine (rtrim_to ao la ca 0 ys _ hla (by omega) hx hat T1.out).mono ?_
    rintro e w' ⟨rfl, rfl⟩
    go_wp2
    go_ret
    refine ⟨?_, rfl⟩
    rw [HZ.out]; rfl
  · rcases hat.trimmed with h | ⟨b, o, rfl, _, h3⟩
    · rw [h] at hm; simp at hm
    · obtain ⟨d, hd⟩ : ∃ d, d = dg (trimmed ys) t := ⟨_, rfl⟩
      have hcell : w.cell? ⟨b, o + t, none⟩ = some (.int .u32 (d : Int)) := by rw [hd]; exact h3 t (by omega)
      have hb := rbits_num oy hm.symm
      have hdl : d < 65536 := by rw [hd]; exact trimmed_ok oy t
      rw [← hd] at hb
      have HB : Hid (bitsN (num 65536 ys) = 16 * t + bitsN d) := hb
      have hne : (((t + 1 : Nat) : Int) == 0) = false := by rw [beq_eq_false_iff_ne]; omega
      clear hm hb hd h3
      go_enter Tryz.func39, Tryz.ntmps39
      go_wp2_with fail
      refine (rtrim_to _ la ca (t + 1) ys _ hla (by omega) hx hat T1.out).mono ?_
      rintro e w' ⟨rfl, rfl⟩
      go_wp2
      go_loop [3, 4] (fun a x => ∃ n y : Nat, a = .int .i64 (n : Int) ∧ x = .int .u32 (y : Int) ∧ n + bitsN y = 16 * t + bitsN d ∧ y < 65536 ∧ n ≤ 16 * t + 16) (fun _ x => (intOf x).toNat)
      case atStart =>
        refine ⟨16 * t, d, ?_, rfl, rfl, hdl, by omega⟩
        exact congrArg (Value.int IntKind.i64) (by omega)
      case round =>
        obtain ⟨n, y, rfl, rfl, hn, hy, hnl⟩ := hrel
        have HN : Hid (n + bitsN y = 16 * t + bitsN d) := hn
        clear hn
        rcases y with _ | y
        · go_wp2
          go_ret
          refine ⟨?_, rfl⟩
          rw [HB.out, ← HN.out]; rfl
        · have hpos : (0 : Int) < ((y + 1 : Nat) : Int) := by omega
          have hh := bitsN_half (x := y + 1) (by omega)
          have hb16 : bitsN d ≤ 16 := by
            have := bitLen_bits d (Nat.lt_of_lt_of_le hdl (by decide +kernel))
            rw [← this]; exact Lib.bitLen_le d 16 (by omega) (by simpa using hdl)
          have hnl' : n + 1 ≤ 16 * t + 16 := by have := HN.out; omega
          have HH : Hid (n + 1 + bitsN ((y + 1) / 2) = 16 * t + bitsN d) := by have := HN.out; show _ = _; omega
          clear hh hb16
          go_wp2
          go_round
          case rel => exact ⟨n + 1, (y + 1) / 2, by go_num, congrArg (Value.int IntKind.u32) (by omega), HH.out, by omega, hnl'⟩
          case measure => simp [intOf]; omega

end Go.Proofs.YtpiloigpncbccabGreatDoor

namespace Go.Proofs.YtpiloigpncbccabGreatDoor
open Go.RowKit

theorem nr_bits (a : Value) (x : Nat) (w : World) (ha : Nr w a x) (hx : Sm x) : Calls Tryz.prog 39 #[a] w fun e w' => e = .returned (.int .i64 (bitsN x : Int)) ∧ w = w' := by
  obtain ⟨o, c, xs, rfl, h1, h3, h4⟩ := ha
  have l1 := nr_len h4 hx
  have h := rbits_any o _ c xs w h1 (by omega) rfl h3 h4.1
  rw [h4.2.2] at h
  exact h

/-- The limbs of a number below 2^64: none, or itself. -/
theorem nr_out (a : Value) (x : Nat) (w : World) (ha : Nr w a x) (hx : x < B64) : Calls Tryz.prog 42 #[a] w fun e w' => ∃ o l c, e = .returned (.slice o l c) ∧ Below w.heap.size w w' ∧ ((x = 0 ∧ l = 0) ∨ (x ≠ 0 ∧ 0 < l ∧ ∃ g f, o = some ⟨g, f, none⟩ ∧ g < w'.heap.size ∧ w'.cell? ⟨g, f, none⟩ = some (.int .u64 (x : Int)))) := by
  obtain ⟨o, c, xs, rfl, h1, h3, h4⟩ := ha
  have hs : Sm x := Nat.lt_of_lt_of_le hx (by
    have := Nat.pow_le_pow_right (show 0 < B64 by decide) (show 1 ≤ 10000 by omega)
    rwa [Nat.pow_one] at this)
  have l1 := nr_len h4 hs
  refine (out_any o _ c xs w (by omega) h1 rfl h3 h4.1).mono ?_
  rintro e w' ⟨ao, cp, os, rfl, a2, a3, a4, a5, a6⟩
  rw [h4.2.2] at a4
  refine ⟨ao, os.length, cp, rfl, a6, ?_⟩
  by_cases h0 : x = 0
  · left
    subst h0
    have := num_zero (b := B64) (by decide) a4.2.1 a4.2.2
    exact ⟨rfl, by rw [this]; rfl⟩
  · right
    have hl : 0 < os.length := by
      rcases hq : os with _ | ⟨z, t⟩
      · rw [hq] at a4; exact absurd a4.2.2.symm h0
      · simp
    have hone : dg os 0 = x := by
      have hle := trimmed_small (xs := os) (t := 1) (by rw [a4.2.2, Nat.pow_one]; exact hx)
      rw [trimmed_of_top a4.2.1] at hle
      have e1 : os.length = 1 := by omega
      have := a4.2.2
      unfold num at this
      rw [e1] at this
      simpa [V] using this
    rcases a3 with h | ⟨b, f, rfl, hb, hc⟩
    · rw [h] at hl; simp at hl
    · refine ⟨h0, hl, b, f, rfl, hb, ?_⟩
      have := hc 0 hl
      rw [Nat.add_zero] at this
      rw [this]
      congr 2
      exact congrArg _ hone

theorem row_one32 (w : World) : Nr (w.alloc (.cells #[.int .u32 1] 42)) (.slice (some ⟨w.heap.size, 0, none⟩) 1 1) 1 := by
  refine ⟨_, _, [1], rfl, Nat.le_refl _, Row.at (k := .u32) (e := 42) (heap_alloc_new w _), ?_, ?_, rfl⟩
  · intro i
    rcases i with _ | i
    · decide
    · simp [dg]
  · intro n hn
    simp at hn
    subst hn; decide

theorem nr_nil {w : World} {o : Option Addr} {l c : Nat} (h : Nr w (.slice o l c) 0) : l = 0 := by
  obtain ⟨o', c', xs, hv, _, _, h4⟩ := h
  have := num_zero (b := 65536) (by omega) h4.2.1 h4.2.2
  cases hv
  rw [this]; rfl

theorem nr_shlz (a : Value) (x n : Nat) (z : Int) (w : World) (hz : z = (n : Int)) (ha : Nr w a x) (hx : Sm x) (hn : n ≤ 65536) : Calls Tryz.prog 67 #[a, .int .i64 z] w (NrPost w (x * 2 ^ n)) := by
  subst hz; exact nr_shl a x n w ha hx hn

set_option maxRecDepth 100000 in
set_option maxHeartbeats 2000000 in
theorem rounded_pos (oo ou : Option Addr) (lo co lu cu o u k : Nat) (w : World) (ho : Nr w (.slice oo lo co) o) (hu : Nr w (.slice ou lu cu) u) (sm : Sm o) (so' : Sm (o * 2 ^ k)) (su' : Sm (u + u)) (hk : k ≤ 65536) (hu0 : u ≠ 0) (h0 : (0 : Int) ≤ (k : Int)) :
    Calls Tryz.prog 41 #[.slice oo lo co, .slice ou lu cu, .int .i64 ((k : Int))] w (NrPost w (rne (o * 2 ^ k) u)) := by
  obtain ⟨o', ho'⟩ : ∃ z, z = (o * 2 ^ k) := ⟨_, rfl⟩
  obtain ⟨u', hu'⟩ : ∃ z, z = u := ⟨_, rfl⟩
  have u0 : u' ≠ 0 := by rw [hu']; exact hu0
  have SH : Hid (Calls Tryz.prog 67 #[.slice oo lo co, .int .i64 (k : Int)] w (NrPost w o')) := by
    rw [ho']; exact nr_shlz _ o k _ w rfl ho sm hk
  have OT : Hid (Nr w (.slice ou lu cu) u') := by rw [hu']; exact hu
  rw [← ho', ← hu']
  rw [← ho'] at so'
  rw [← hu'] at su'
  have rlt := Nat.mod_lt o' (Nat.pos_of_ne_zero u0)
  have qle : o' / u' ≤ o' := Nat.div_le_self _ _
  have SM : Hid (Sm o' ∧ Sm u' ∧ Sm (o' % u') ∧ Sm (o' % u' + o' % u') ∧ Sm (o' / u')) := ⟨so', Nat.lt_of_le_of_lt (by omega) su', Nat.lt_of_le_of_lt (by omega) su', Nat.lt_of_le_of_lt (by omega) su', Nat.lt_of_le_of_lt (by omega) so'⟩
  have U0 := hide u0
  have RL := hide rlt
  clear ho hu sm so' su' hu0 ho' hu' u0 rlt qle
  go_enter Tryz.func41, Tryz.ntmps41
  go_wp2_with fail
  refine SH.out.mono ?_
  rintro e w1 ⟨o1, c1, l1, rfl, n1, b1⟩
  have DV := hide (nr_div _ _ o' u' w1 n1 (OT.out.below b1) SM.out.1 SM.out.2.1 U0.out)
  have NU := hide (OT.out.below b1)
  have HB1 := hide b1
  clear n1 b1 SH OT
  go_wp2_with fail
  refine DV.out.mono ?_
  rintro e w2 ⟨oq, cq, lq, or, cr, lr, rfl, nq, nr, hb2, hdig⟩
  obtain ⟨q, hq⟩ : ∃ q, q = o' / u' := ⟨_, rfl⟩
  obtain ⟨r, hr⟩ : ∃ r, r = o' % u' := ⟨_, rfl⟩
  rw [← hq] at nq hdig
  rw [← hr] at nr
  have NQ := hide nq
  have AD := hide (nr_add _ _ r r w2 nr nr (by rw [hr]; exact SM.out.2.2.1) (by rw [hr]; exact SM.out.2.2.1))
  have NU2 := hide (NU.out.below hb2)
  have HB2 := hide (HB1.out.trans (hb2.mono HB1.out.size))
  have DG : Hid (q ≠ 0 → 0 < lq ∧ ∃ b f d, oq = some ⟨b, f, none⟩ ∧ b < w2.heap.size ∧ w2.cell? ⟨b, f, none⟩ = some (.int .u32 ((d : Nat) : Int)) ∧ d < 65536 ∧ d % 2 = q % 2) := hdig
  clear nq nr hb2 hdig DV NU HB1
  go_wp2_with fail
  refine AD.out.mono ?_
  rintro e w3 ⟨oa, ca, la, rfl, na, hb3⟩
  obtain ⟨z, hz⟩ : ∃ z, cmpN (r + r) u' = z := ⟨_, rfl⟩
  have CM := hide (nr_cmp _ _ (r + r) u' z w3 na (NU2.out.below hb3) (by rw [hr]; exact SM.out.2.2.2.1) SM.out.2.1 hz)
  have T3 := hide hb3
  clear na hb3 AD NU2
  go_wp2_with fail
  refine CM.out.mono ?_
  rintro e w4 ⟨rfl, hb4⟩
  have T4 := hide (T3.out.trans (hb4.mono T3.out.size))
  have HB4 := hide (HB2.out.trans (T4.out.mono HB2.out.size))
  have NQ4 := hide (NQ.out.below T4.out)
  clear hb4 CM T3 HB2
  have ZC : Hid ((z = 1 ∧ rne o' u' = q + 1) ∨ (z = 0 ∧ q % 2 = 1 ∧ rne o' u' = q + 1) ∨ (z = 0 ∧ q % 2 = 0 ∧ rne o' u' = q) ∨ (z = -1 ∧ rne o' u' = q)) := by
    have h2 := RL.out
    rw [← hr] at h2
    rcases cmpN_or (r + r) u' with h1 | h1 | h1
    · have h3 := cmpN_lt h1
      refine .inr (.inr (.inr ⟨by rw [← hz, h1], ?_⟩))
      rw [hq]; exact rne_down (by rw [← hr]; omega)
    · have h3 := cmpN_eq h1
      by_cases hp : q % 2 = 1
      · refine .inr (.inl ⟨by rw [← hz, h1], hp, ?_⟩)
        rw [hq]; exact rne_up (by rw [← hr, ← hq]; omega)
      · refine .inr (.inr (.inl ⟨by rw [← hz, h1], by omega, ?_⟩))
        rw [hq]; exact rne_down (by rw [← hr, ← hq]; omega)
    · have h3 := cmpN_gt h1
      refine .inl ⟨by rw [← hz, h1], ?_⟩
      rw [hq]; exact rne_up (by rw [← hr]; omega)
  have SQ : Hid (Sm q) := by rw [hq]; exact SM.out.2.2.2.2
  have UP : Hid (rne o' u' = q + 1 → Calls Tryz.prog 13 #[.slice oq lq cq, .slice (some ⟨w4.heap.size, 0, none⟩) 1 1] (w4.alloc (.cells #[.int .u32 1] 42)) fun e w' => ∃ o c l, e = .returned (.slice o l c) ∧ Hid (NrPost w (rne o' u') (.returned (.slice o l c)) w')) := by
    intro hN
    have al : Below w4.heap.size w4 (w4.alloc (.cells #[.int .u32 1] 42)) := (Below.refl _ _).alloc (Nat.le_refl _) _
    refine (nr_add _ _ q 1 _ (NQ4.out.below al) (row_one32 w4) SQ.out (Sm.of (k := 1) (by omega) (by omega))).mono ?_
    rintro e w' ⟨o, c, l, rfl, nn, hb⟩
    rw [hN]
    exact ⟨o, c, l, rfl, ⟨o, c, l, rfl, nn, HB4.out.trans ((al.trans (hb.mono al.size)).mono HB4.out.size)⟩⟩
  have DN : Hid (rne o' u' = q → NrPost w (rne o' u') (.returned (.slice oq lq cq)) w4) := fun hN => ⟨oq, cq, lq, rfl, by rw [hN]; exact NQ4.out, HB4.out⟩
  have DG4 : Hid (q ≠ 0 → 0 < lq ∧ ∃ b f d, oq = some ⟨b, f, none⟩ ∧ w4.cell? ⟨b, f, none⟩ = some (.int .u32 ((d : Nat) : Int)) ∧ d % 2 = q % 2) := fun h0 => by
    obtain ⟨h1, b, f, d, h2, h3, h4, h5, h6⟩ := DG.out h0
    exact ⟨h1, b, f, d, h2, by rw [World.cell?_of_block (w := w2) (T4.out.block b h3)]; exact h4, h6⟩
  have NL : Hid (q = 0 → lq = 0) := fun h0 => nr_nil (by have := NQ4.out; rw [h0] at this; exact this)
  clear hz hq hr SM U0 RL NQ NQ4 T4 HB4 DG SQ
  rcases ZC.out with ⟨rfl, hN⟩ | ⟨rfl, hp, hN⟩ | ⟨rfl, hp, hN⟩ | ⟨rfl, hN⟩
  · have U1 := hide (UP.out hN)
    clear UP DN DG4 NL ZC hN
    go_wp2_with fail
    refine U1.out.mono ?_
    rintro e w5 ⟨o5, c5, l5, rfl, FIN⟩
    clear U1
    go_wp2
    go_ret
    exact FIN.out
  · have U1 := hide (UP.out hN)
    obtain ⟨h1, g, f, d, rfl, hc, hpar⟩ := DG4.out (by omega)
    have hl : (0 : Int) < (lq : Int) := by omega
    have hd : ((d : Int) % 2 == 1) = true := by
      have h2 : (d : Int) % 2 = 1 := by omega
      simpa using h2
    clear UP DN DG4 NL ZC hN hp hpar h1
    go_wp2_with fail
    refine U1.out.mono ?_
    rintro e w5 ⟨o5, c5, l5, rfl, FIN⟩
    clear U1
    go_wp2
    go_ret
    exact FIN.out
  · have FIN := hide (DN.out hN)
    by_cases h0 : q = 0
    · obtain rfl := NL.out h0
      clear UP DN DG4 NL ZC hN hp
      go_wp2
      go_ret
      exact FIN.out
    · obtain ⟨h1, g, f, d, rfl, hc, hpar⟩ := DG4.out h0
      have hl : (0 : Int) < (lq : Int) := by omega
      have hd : ((d : Int) % 2 == 1) = false := by
        have h2 : ¬ (d : Int) % 2 = 1 := by omega
        simpa using h2
      clear UP DN DG4 NL ZC hN hp hpar h1 h0
      go_wp2
      go_ret
      exact FIN.out
  · have FIN := hide (DN.out hN)
    clear UP DN DG4 NL ZC hN
    go_wp2
    go_ret
    exact FIN.out

set_option maxRecDepth 100000 in
set_option maxHeartbeats 2000000 in
theorem rounded_neg (oo ou : Option Addr) (lo co lu cu o u k : Nat) (w : World) (ho : Nr w (.slice oo lo co) o) (hu : Nr w (.slice ou lu cu) u) (sm : Sm u) (so' : Sm o) (su' : Sm ((u * 2 ^ k) + (u * 2 ^ k))) (hk : k ≤ 65536) (hu0 : u ≠ 0) (h0 : ¬ (0 : Int) ≤ -(k : Int)) :
    Calls Tryz.prog 41 #[.slice oo lo co, .slice ou lu cu, .int .i64 (-(k : Int))] w (NrPost w (rne o (u * 2 ^ k))) := by
  obtain ⟨o', ho'⟩ : ∃ z, z = o := ⟨_, rfl⟩
  obtain ⟨u', hu'⟩ : ∃ z, z = (u * 2 ^ k) := ⟨_, rfl⟩
  have u0 : u' ≠ 0 := by rw [hu']; exact Nat.mul_ne_zero hu0 (by have : 0 < 2 ^ k := Nat.pow_pos (by omega); omega)
  have SH : Hid (Calls Tryz.prog 67 #[.slice ou lu cu, .int .i64 (k : Int)] w (NrPost w u')) := by
    rw [hu']; exact nr_shlz _ u k _ w rfl hu sm hk
  have OT : Hid (Nr w (.slice oo lo co) o') := by rw [ho']; exact ho
  rw [← ho', ← hu']
  rw [← ho'] at so'
  rw [← hu'] at su'
  have rlt := Nat.mod_lt o' (Nat.pos_of_ne_zero u0)
  have qle : o' / u' ≤ o' := Nat.div_le_self _ _
  have SM : Hid (Sm o' ∧ Sm u' ∧ Sm (o' % u') ∧ Sm (o' % u' + o' % u') ∧ Sm (o' / u')) := ⟨so', Nat.lt_of_le_of_lt (by omega) su', Nat.lt_of_le_of_lt (by omega) su', Nat.lt_of_le_of_lt (by omega) su', Nat.lt_of_le_of_lt (by omega) so'⟩
  have U0 := hide u0
  have RL := hide rlt
  clear ho hu sm so' su' hu0 ho' hu' u0 rlt qle
  go_enter Tryz.func41, Tryz.ntmps41
  go_wp2_with fail
  refine SH.out.mono ?_
  rintro e w1 ⟨o1, c1, l1, rfl, n1, b1⟩
  have DV := hide (nr_div _ _ o' u' w1 (OT.out.below b1) n1 SM.out.1 SM.out.2.1 U0.out)
  have NU := hide (n1)
  have HB1 := hide b1
  clear n1 b1 SH OT
  go_wp2_with fail
  refine DV.out.mono ?_
  rintro e w2 ⟨oq, cq, lq, or, cr, lr, rfl, nq, nr, hb2, hdig⟩
  obtain ⟨q, hq⟩ : ∃ q, q = o' / u' := ⟨_, rfl⟩
  obtain ⟨r, hr⟩ : ∃ r, r = o' % u' := ⟨_, rfl⟩
  rw [← hq] at nq hdig
  rw [← hr] at nr
  have NQ := hide nq
  have AD := hide (nr_add _ _ r r w2 nr nr (by rw [hr]; exact SM.out.2.2.1) (by rw [hr]; exact SM.out.2.2.1))
  have NU2 := hide (NU.out.below hb2)
  have HB2 := hide (HB1.out.trans (hb2.mono HB1.out.size))
  have DG : Hid (q ≠ 0 → 0 < lq ∧ ∃ b f d, oq = some ⟨b, f, none⟩ ∧ b < w2.heap.size ∧ w2.cell? ⟨b, f, none⟩ = some (.int .u32 ((d : Nat) : Int)) ∧ d < 65536 ∧ d % 2 = q % 2) := hdig
  clear nq nr hb2 hdig DV NU HB1
  go_wp2_with fail
  refine AD.out.mono ?_
  rintro e w3 ⟨oa, ca, la, rfl, na, hb3⟩
  obtain ⟨z, hz⟩ : ∃ z, cmpN (r + r) u' = z := ⟨_, rfl⟩
  have CM := hide (nr_cmp _ _ (r + r) u' z w3 na (NU2.out.below hb3) (by rw [hr]; exact SM.out.2.2.2.1) SM.out.2.1 hz)
  have T3 := hide hb3
  clear na hb3 AD NU2
  go_wp2_with fail
  refine CM.out.mono ?_
  rintro e w4 ⟨rfl, hb4⟩
  have T4 := hide (T3.out.trans (hb4.mono T3.out.size))
  have HB4 := hide (HB2.out.trans (T4.out.mono HB2.out.size))
  have NQ4 := hide (NQ.out.below T4.out)
  clear hb4 CM T3 HB2
  have ZC : Hid ((z = 1 ∧ rne o' u' = q + 1) ∨ (z = 0 ∧ q % 2 = 1 ∧ rne o' u' = q + 1) ∨ (z = 0 ∧ q % 2 = 0 ∧ rne o' u' = q) ∨ (z = -1 ∧ rne o' u' = q)) := by
    have h2 := RL.out
    rw [← hr] at h2
    rcases cmpN_or (r + r) u' with h1 | h1 | h1
    · have h3 := cmpN_lt h1
      refine .inr (.inr (.inr ⟨by rw [← hz, h1], ?_⟩))
      rw [hq]; exact rne_down (by rw [← hr]; omega)
    · have h3 := cmpN_eq h1
      by_cases hp : q % 2 = 1
      · refine .inr (.inl ⟨by rw [← hz, h1], hp, ?_⟩)
        rw [hq]; exact rne_up (by rw [← hr, ← hq]; omega)
      · refine .inr (.inr (.inl ⟨by rw [← hz, h1], by omega, ?_⟩))
        rw [hq]; exact rne_down (by rw [← hr, ← hq]; omega)
    · have h3 := cmpN_gt h1
      refine .inl ⟨by rw [← hz, h1], ?_⟩
      rw [hq]; exact rne_up (by rw [← hr]; omega)
  have SQ : Hid (Sm q) := by rw [hq]; exact SM.out.2.2.2.2
  have UP : Hid (rne o' u' = q + 1 → Calls Tryz.prog 13 #[.slice oq lq cq, .slice (some ⟨w4.heap.size, 0, none⟩) 1 1] (w4.alloc (.cells #[.int .u32 1] 42)) fun e w' => ∃ o c l, e = .returned (.slice o l c) ∧ Hid (NrPost w (rne o' u') (.returned (.slice o l c)) w')) := by
    intro hN
    have al : Below w4.heap.size w4 (w4.alloc (.cells #[.int .u32 1] 42)) := (Below.refl _ _).alloc (Nat.le_refl _) _
    refine (nr_add _ _ q 1 _ (NQ4.out.below al) (row_one32 w4) SQ.out (Sm.of (k := 1) (by omega) (by omega))).mono ?_
    rintro e w' ⟨o, c, l, rfl, nn, hb⟩
    rw [hN]
    exact ⟨o, c, l, rfl, ⟨o, c, l, rfl, nn, HB4.out.trans ((al.trans (hb.mono al.size)).mono HB4.out.size)⟩⟩
  have DN : Hid (rne o' u' = q → NrPost w (rne o' u') (.returned (.slice oq lq cq)) w4) := fun hN => ⟨oq, cq, lq, rfl, by rw [hN]; exact NQ4.out, HB4.out⟩
  have DG4 : Hid (q ≠ 0 → 0 < lq ∧ ∃ b f d, oq = some ⟨b, f, none⟩ ∧ w4.cell? ⟨b, f, none⟩ = some (.int .u32 ((d : Nat) : Int)) ∧ d % 2 = q % 2) := fun h0 => by
    obtain ⟨h1, b, f, d, h2, h3, h4, h5, h6⟩ := DG.out h0
    exact ⟨h1, b, f, d, h2, by rw [World.cell?_of_block (w := w2) (T4.out.block b h3)]; exact h4, h6⟩
  have NL : Hid (q = 0 → lq = 0) := fun h0 => nr_nil (by have := NQ4.out; rw [h0] at this; exact this)
  clear hz hq hr SM U0 RL NQ NQ4 T4 HB4 DG SQ
  rcases ZC.out with ⟨rfl, hN⟩ | ⟨rfl, hp, hN⟩ | ⟨rfl, hp, hN⟩ | ⟨rfl, hN⟩
  · have U1 := hide (UP.out hN)
    clear UP DN DG4 NL ZC hN
    go_wp2_with fail
    refine U1.out.mono ?_
    rintro e w5 ⟨o5, c5, l5, rfl, FIN⟩
    clear U1
    go_wp2
    go_ret
    exact FIN.out
  · have U1 := hide (UP.out hN)
    obtain ⟨h1, g, f, d, rfl, hc, hpar⟩ := DG4.out (by omega)
    have hl : (0 : Int) < (lq : Int) := by omega
    have hd : ((d : Int) % 2 == 1) = true := by
      have h2 : (d : Int) % 2 = 1 := by omega
      simpa using h2
    clear UP DN DG4 NL ZC hN hp hpar h1
    go_wp2_with fail
    refine U1.out.mono ?_
    rintro e w5 ⟨o5, c5, l5, rfl, FIN⟩
    clear U1
    go_wp2
    go_ret
    exact FIN.out
  · have FIN := hide (DN.out hN)
    by_cases h0 : q = 0
    · obtain rfl := NL.out h0
      clear UP DN DG4 NL ZC hN hp
      go_wp2
      go_ret
      exact FIN.out
    · obtain ⟨h1, g, f, d, rfl, hc, hpar⟩ := DG4.out h0
      have hl : (0 : Int) < (lq : Int) := by omega
      have hd : ((d : Int) % 2 == 1) = false := by
        have h2 : ¬ (d : Int) % 2 = 1 := by omega
        simpa using h2
      clear UP DN DG4 NL ZC hN hp hpar h1 h0
      go_wp2
      go_ret
      exact FIN.out
  · have FIN := hide (DN.out hN)
    clear UP DN DG4 NL ZC hN
    go_wp2
    go_ret
    exact FIN.out

theorem pow62 : powT 2 30000 * powT 2 32000 * 2 + 1 < B64 ^ 10000 := by decide +kernel

theorem Fit.sm1 {n : Nat} (h : Fit n) {k : Nat} (hk : k ≤ 32000) : Sm (n * 2 ^ k + n * 2 ^ k) ∧ Sm (n * 2 ^ k + 1) := by
  have h1 : 2 ^ k ≤ powT 2 32000 := powT_ge (by omega) hk
  have h2 : n * 2 ^ k ≤ powT 2 30000 * powT 2 32000 := Nat.mul_le_mul (Nat.le_of_lt h) h1
  have h3 := pow62
  exact ⟨Nat.lt_of_le_of_lt (by omega) h3, Nat.lt_of_le_of_lt (by omega) h3⟩

/-- num by den, times 2^-e, to the nearest whole number. -/
theorem rounded_any (oo ou : Option Addr) (lo co lu cu o u : Nat) (e z : Int) (w : World) (hz : z = -e) (ho : Nr w (.slice oo lo co) o) (hu : Nr w (.slice ou lu cu) u) (fo : Fit o) (fu : Fit u) (h1 : -32000 ≤ e) (h2 : e ≤ 32000) (hu0 : u ≠ 0) :
    Calls Tryz.prog 41 #[.slice oo lo co, .slice ou lu cu, .int .i64 z] w (NrPost w (rnd o u e)) := by
  subst hz
  unfold rnd
  by_cases h : 0 ≤ -e
  · obtain ⟨k, hk⟩ : ∃ k : Nat, -e = (k : Int) := ⟨(-e).toNat, by omega⟩
    rw [hk, show ((k : Int)).toNat = k by omega, show e.toNat = 0 by omega, Nat.pow_zero, Nat.mul_one]
    have f0 := fu.sm1 (k := 0) (by omega)
    rw [Nat.pow_zero, Nat.mul_one] at f0
    exact rounded_pos oo ou lo co lu cu o u k w ho hu fo.sm0 (fo.sm (by omega)) f0.1 (by omega) hu0 (by omega)
  · obtain ⟨k, hk⟩ : ∃ k : Nat, e = (k : Int) := ⟨e.toNat, by omega⟩
    subst hk
    rw [show (-(k : Int)).toNat = 0 by omega, show ((k : Int)).toNat = k by omega, Nat.pow_zero, Nat.mul_one]
    exact rounded_neg oo ou lo co lu cu o u k w ho hu fu.sm0 fo.sm0 (fu.sm1 (by omega)).1 (by omega) hu0 h

end Go.Proofs.YtpiloigpncbccabGreatDoor
