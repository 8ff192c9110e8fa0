/-
  What (fraction).nearest does: the bits of the nearest float.
-/
import Derived.Test.YtpiloigpncbccabGreatDoorNWid
import Derived.Test.YtpiloigpncbccabGreatDoorNFrac
namespace Go.Proofs.YtpiloigpncbccabGreatDoor
open Go.RowKit

/-- The quotient is not too great. -/
theorem quot_lt {F B o u : Nat} (ho : o ≠ 0) (hu : u ≠ 0) : o * 2 ^ (-(powN F B o u)).toNat / (u * 2 ^ (powN F B o u).toNat) < 2 * 2 ^ F := by
  have hb := (numN_bounds (F := F) (B := B) ho hu).1
  have hr := ratio_at (o := o) (u := u) (B := B) (pw := powN F B o u) (by unfold powN; omega)
  have hq : 0 < u * 2 ^ (powN F B o u + B).toNat := Nat.mul_pos (by omega) (Nat.pow_pos (by omega))
  have hu' : 0 < u * 2 ^ (powN F B o u).toNat := Nat.mul_pos (by omega) (Nat.pow_pos (by omega))
  refine (Nat.div_lt_iff_lt_mul hu').2 ?_
  refine Nat.lt_of_mul_lt_mul_right (a := u * 2 ^ (powN F B o u + B).toNat) ?_
  rw [hr]
  have h1 := (Nat.mul_lt_mul_right hu').2 hb
  refine Nat.lt_of_lt_of_le h1 (Nat.le_of_eq ?_)
  generalize u * 2 ^ (powN F B o u + B).toNat = x
  generalize u * 2 ^ (powN F B o u).toNat = y
  generalize 2 * 2 ^ F = z
  rw [Nat.mul_comm x z, Nat.mul_assoc, Nat.mul_comm x y, ← Nat.mul_assoc]

theorem highN_le {o u : Nat} (fo : Fit o) (fu : Fit u) : -30001 ≤ highN o u ∧ highN o u ≤ 30000 := by
  have h1 := fo.bits
  have h2 := fu.bits
  unfold highN; split <;> omega

theorem rne_up {p q : Nat} (h : q < 2 * (p % q) ∨ (2 * (p % q) = q ∧ p / q % 2 = 1)) : rne p q = p / q + 1 := if_pos h
theorem rne_down {p q : Nat} (h : ¬ (q < 2 * (p % q) ∨ (2 * (p % q) = q ∧ p / q % 2 = 1))) : rne p q = p / q := if_neg h

theorem Fit.sum {n : Nat} (h : Fit n) {k m : Nat} (hk : k ≤ 31000) (hm : m ≤ 2 * (n * 2 ^ k)) : Sm m := by
  have h1 := h.sm (k := k + 1) (by omega)
  have e : n * 2 ^ (k + 1) = 2 * (n * 2 ^ k) := by rw [Nat.pow_succ, ← Nat.mul_assoc, Nat.mul_comm]
  rw [e] at h1
  exact Nat.lt_of_le_of_lt hm h1

theorem join64_any (N s : Nat) (w : World) (hs : s ≤ 1000000) (hN : N ≤ 9007199254740992) :
    Calls Tryz.prog 99 #[w64, .int .u64 (N : Int), .int .i64 ((s : Int) - 1074)] w fun e w' => e = .returned (.int .u64 ((min (s * 2 ^ 52 + N) (infN 52 11) : Nat) : Int)) ∧ Below w.heap.size w w' := by
  have e1 : (2 : Nat) ^ 52 = 4503599627370496 := by decide
  rw [inf64, e1]
  rcases Nat.lt_or_ge s 2048 with h | h
  · exact join64_fin N s _ w h hN (by omega)
  · have hm : min (s * 4503599627370496 + N) 9218868437227405312 = 9218868437227405312 := by omega
    rw [hm]
    exact join64_inf N s _ w (by omega) (by omega) hs

set_option maxRecDepth 100000 in
set_option maxHeartbeats 2000000 in
theorem near64_any (oo ou : Option Addr) (lo co lu cu o u : Nat) (w : World) (ho : Nt w (.slice oo lo co) o) (hu : Nt w (.slice ou lu cu) u) (fo : Fit o) (fu : Fit u) (ho0 : o ≠ 0) (hu0 : u ≠ 0) :
    Calls Tryz.prog 65 #[(fracV 52 11 (-1074) (.slice oo lo co) (.slice ou lu cu))] w fun e w' => e = .returned (.int .u64 ((bitsOf 52 1074 (infN 52 11) o u : Nat) : Int)) ∧ Below w.heap.size w w' := by
  have hh := highN_le fo fu
  obtain ⟨pw, hpw⟩ : ∃ p, p = powN 52 1074 o u := ⟨_, rfl⟩
  obtain ⟨h, hhe⟩ : ∃ h, h = highN o u := ⟨_, rfl⟩
  have hmax : pw = max (h - 52) (-1074) := by rw [hpw, hhe]; rfl
  have bitsE : bitsOf 52 1074 (infN 52 11) o u = min ((pw + 1074).toNat * 2 ^ 52 + numN 52 1074 o u) (infN 52 11) := by rw [hpw]; rfl
  rw [← hhe] at hh
  obtain ⟨s, hs⟩ : ∃ s : Nat, pw = (s : Int) - 1074 := ⟨(pw + 1074).toNat, by omega⟩
  have hs1 : s ≤ 40000 := by omega
  rw [show (pw + 1074).toNat = s by omega] at bitsE
  obtain ⟨o', ho'⟩ : ∃ z, z = o * 2 ^ (-pw).toNat := ⟨_, rfl⟩
  obtain ⟨u', hu'⟩ : ∃ z, z = u * 2 ^ pw.toNat := ⟨_, rfl⟩
  have u0 : u' ≠ 0 := by rw [hu']; exact Nat.mul_ne_zero hu0 (by have : 0 < 2 ^ pw.toNat := Nat.pow_pos (by omega); omega)
  have numE : numN 52 1074 o u = rne o' u' := by rw [ho', hu', hpw]; rfl
  have e53 : 2 * 2 ^ 52 = 9007199254740992 := by decide
  have qlt : o' / u' < 9007199254740992 := by rw [ho', hu', hpw, ← e53]; exact quot_lt ho0 hu0
  have nle : rne o' u' ≤ 9007199254740992 := by rw [← numE, ← e53]; exact (numN_le ho0 hu0).1
  have rlt := Nat.mod_lt o' (Nat.pos_of_ne_zero u0)
  have HIG := hide (fun W (hW : Below w.heap.size w W) => highest_any 52 11 (-1074) oo ou lo co lu cu o u W (ho.below hW) (hu.below hW) fo fu)
  rw [← hhe] at HIG
  have DIV : Hid (∀ W, Below w.heap.size w W → Calls Tryz.prog 97 #[(fracV 52 11 (-1074) (.slice oo lo co) (.slice ou lu cu)), .int .i64 pw] W (FrPost W 52 11 (-1074) o' u')) := fun W hW => by
    rw [ho', hu']
    exact divided_any 52 11 (-1074) oo ou lo co lu cu o u pw W (ho.below hW) (hu.below hW) fo.sm0 fu.sm0 (by omega) (by omega)
  have SM : Hid (Sm o' ∧ Sm u' ∧ Sm (o' % u') ∧ Sm (o' % u' + o' % u')) := ⟨by rw [ho']; exact fo.sm (by omega), by rw [hu']; exact fu.sm (by omega), fu.sum (k := pw.toNat) (by omega) (by rw [← hu']; omega), fu.sum (k := pw.toNat) (by omega) (by rw [← hu']; omega)⟩
  have BE : Hid (∀ N, rne o' u' = N → bitsOf 52 1074 (infN 52 11) o u = min (s * 2 ^ 52 + N) (infN 52 11)) := fun N hN => by rw [bitsE, numE, hN]
  have B64' : Hid (o' / u' < B64) := by show o' / u' < B64; unfold B64; omega
  have blk := Blk.new w #[.int .i64 52, .int .i64 11, .int .i64 (-1074), .slice oo lo co, .slice ou lu cu] 94
  obtain ⟨W, hW⟩ : ∃ W, W = w.alloc (.cells #[.int .i64 52, .int .i64 11, .int .i64 (-1074), .slice oo lo co, .slice ou lu cu] 94) := ⟨_, rfl⟩
  rw [← hW] at blk
  have HBW : Hid (Below w.heap.size w W) := by rw [hW]; exact (Below.refl _ _).alloc (Nat.le_refl _) _
  have BLK := hide blk
  have HW := hide hW
  have U0 := hide u0
  have c0 : W.cell? ⟨w.heap.size, 0, none⟩ = some (.int .i64 52) := blk.cell 0
  have c1 : W.cell? ⟨w.heap.size, 1, none⟩ = some (.int .i64 11) := blk.cell 1
  have c2 : W.cell? ⟨w.heap.size, 2, none⟩ = some (.int .i64 (-1074)) := blk.cell 2
  have c3 : W.cell? ⟨w.heap.size, 3, none⟩ = some (.slice oo lo co) := blk.cell 3
  have c4 : W.cell? ⟨w.heap.size, 4, none⟩ = some (.slice ou lu cu) := blk.cell 4
  have b0 : Hid (Below W.heap.size W W.drew) := bdrew' W
  have C1 : Hid (Calls Tryz.prog 96 #[(fracV 52 11 (-1074) (.slice oo lo co) (.slice ou lu cu))] W.drew fun e w' => e = .returned (.int .i64 h) ∧ Hid (Below W.heap.size W w') ∧ w'.cell? ⟨w.heap.size, 0, none⟩ = some (.int .i64 52) ∧ w'.cell? ⟨w.heap.size, 1, none⟩ = some (.int .i64 11) ∧ w'.cell? ⟨w.heap.size, 2, none⟩ = some (.int .i64 (-1074)) ∧ w'.cell? ⟨w.heap.size, 3, none⟩ = some (.slice oo lo co) ∧ w'.cell? ⟨w.heap.size, 4, none⟩ = some (.slice ou lu cu)) := by
    refine (HIG.out W.drew (HBW.out.trans (b0.out.mono HBW.out.size))).mono ?_
    rintro e w' ⟨rfl, hb⟩
    have hbb := b0.out.trans (hb.mono b0.out.size)
    have q := BLK.out.below hbb BLK.out.lt
    exact ⟨rfl, hbb, q.cell 0, q.cell 1, q.cell 2, q.cell 3, q.cell 4⟩
  have HMX := hide hmax
  have HS := hide hs
  have QLT : Hid (o' / u' < 9007199254740992 ∧ rne o' u' ≤ 9007199254740992 ∧ o' % u' < u') := ⟨qlt, nle, rlt⟩
  have HH2 := hide hh
  clear ho hu fo fu ho0 hu0 hpw hhe bitsE ho' hu' u0 numE e53 qlt nle rlt HIG blk hW hmax hs
  go_enter Tryz.func65, Tryz.ntmps65
  go_wp2_with fail
  simp only [← HW.out]
  have mk0 : True := trivial
  go_region_held3 (fun w' => w'.cell? ⟨w.heap.size, 0, none⟩ = some (.int .i64 52) ∧ w'.cell? ⟨w.heap.size, 1, none⟩ = some (.int .i64 11) ∧ w'.cell? ⟨w.heap.size, 2, none⟩ = some (.int .i64 (-1074)) ∧ w'.cell? ⟨w.heap.size, 3, none⟩ = some (.slice oo lo co) ∧ w'.cell? ⟨w.heap.size, 4, none⟩ = some (.slice ou lu cu)) (go_keep) (first
    | (clear mk0; go_at_call 96; refine C1.out.mono ?_; rintro e w1 ⟨rfl, b1, k0, k1, k2, k3, k4⟩; have mk1 : True := trivial))
  have EM : max (IntKind.i64.wrap (h - 52)) (-1074) = pw := by
    have h1 := HMX.out
    have h2 := HH2.out
    rw [IntKind.wrap_i64]; omega
  simp only [EM]
  have HB1 := hide (HBW.out.trans (b1.out.mono HBW.out.size))
  have BLK1 := hide (BLK.out.below b1.out BLK.out.lt)
  have hlt1 := BLK1.out.lt
  clear EM b1 C1 BLK HBW b0 c0 c1 c2 c3 c4 HMX HH2 HW
  go_wp2_with fail
  refine (DIV.out _ HB1.out).mono ?_
  rintro e w2 ⟨o1, l1, p1, o2, l2, p2, rfl, n1, n2, b2⟩
  have OV : Hid (Below w2.heap.size w2 (w2.alloc (.cells #[.int .i64 52, .int .i64 11, .int .i64 (-1074), .slice o1 l1 p1, .slice o2 l2 p2] 94))) := (Below.refl _ _).alloc (Nat.le_refl _) _
  have BLS := hide (Blk.new w2 #[.int .i64 52, .int .i64 11, .int .i64 (-1074), .slice o1 l1 p1, .slice o2 l2 p2] 94)
  have N1 := hide (n1.below OV.out)
  have N2 := hide (n2.below OV.out)
  have HB2 := hide (HB1.out.trans ((b2.trans (OV.out.mono b2.size)).mono HB1.out.size))
  have BLK2 := hide (BLK1.out.below (b2.trans (OV.out.mono b2.size)) BLK1.out.lt)
  clear n1 n2 b2 DIV HB1 BLK1 k0 k1 k2 k3 k4 OV
  go_wp2_with fail
  obtain ⟨V, hV⟩ : ∃ V, V = w2.alloc (.cells #[.int .i64 52, .int .i64 11, .int .i64 (-1074), .slice o1 l1 p1, .slice o2 l2 p2] 94) := ⟨_, rfl⟩
  simp only [← hV]
  rw [← hV] at N1 N2 HB2 BLK2 BLS
  clear hV
  refine (nt_div _ _ o' u' V N1.out N2.out SM.out.1 SM.out.2.1 U0.out).mono ?_
  rintro e w3 ⟨vq, vr, rfl, nq, nr, b3⟩
  obtain ⟨q, hq⟩ : ∃ q, q = o' / u' := ⟨_, rfl⟩
  rw [← hq] at nq
  have BQ : Hid (q < B64) := by rw [hq]; exact B64'.out
  have HQ := hide hq
  clear hq
  obtain ⟨oq, cq, xq, rfl, _⟩ := id nq
  obtain ⟨or, cr, xr, rfl, _⟩ := id nr
  have NQ := hide nq
  have NR := hide nr
  have N3 := hide (N2.out.below b3)
  have HB3 := hide (HB2.out.trans (b3.mono HB2.out.size))
  have BLK3 := hide (BLK2.out.below b3 BLK2.out.lt)
  have BLS3 := hide (BLS.out.below b3 BLS.out.lt)
  clear nq nr b3 N1 N2 HB2 BLK2 BLS
  go_wp2_with fail
  refine (nt_uint _ q w3 NQ.out BQ.out).mono ?_
  rintro e w4 ⟨rfl, rfl⟩
  clear NQ
  go_wp2_with fail
  obtain ⟨G, hG⟩ : ∃ G, G = w2.heap.size := ⟨_, rfl⟩
  simp only [← hG]
  rw [← hG] at BLS3
  clear hG
  have d4 : w3.cell? ⟨G, 4, none⟩ = some (.slice o2 l2 p2) := BLS3.out.cell 4
  have bd : Hid (Below w3.heap.size w3 w3.drew) := bdrew' w3
  obtain ⟨r, hr⟩ : ∃ r, r = o' % u' := ⟨_, rfl⟩
  have hq := HQ.out
  obtain ⟨z, hz⟩ : ∃ z, cmpN (r + r) u' = z := ⟨_, rfl⟩
  have A1 : Hid (Calls Tryz.prog 98 #[.slice or xr.length cr, .slice or xr.length cr] w3.drew fun e w' => ∃ oa la ca, e = .returned (.slice oa la ca) ∧ Hid (Nt w' (.slice oa la ca) (r + r)) ∧ Hid (Below w3.heap.size w3 w') ∧ w'.cell? ⟨G, 4, none⟩ = some (.slice o2 l2 p2)) := by
    rw [hr]
    refine (nt_add _ _ _ _ w3.drew (NR.out.below bd.out) (NR.out.below bd.out) SM.out.2.2.1 SM.out.2.2.1).mono ?_
    rintro e w' ⟨v, rfl, nv, hb, _⟩
    obtain ⟨oa, ca, xa, rfl, _⟩ := id nv
    have hbb := bd.out.trans (hb.mono bd.out.size)
    exact ⟨_, _, _, rfl, nv, hbb, (BLS3.out.below hbb BLS3.out.lt).cell 4⟩
  have A2 : Hid (∀ w' oa la ca, Hid (Nt w' (.slice oa la ca) (r + r)) → Hid (Below w3.heap.size w3 w') → Calls Tryz.prog 90 #[.slice oa la ca, .slice o2 l2 p2] w' fun e w'' => e = .returned (.int .i64 z) ∧ Hid (Below w3.heap.size w3 w'') ∧ w''.cell? ⟨G, 4, none⟩ = some (.slice o2 l2 p2)) := by
    intro w' oa la ca nv hb
    refine (nt_cmp _ _ _ _ z w' nv.out (N3.out.below hb.out) (by rw [hr]; exact SM.out.2.2.2) SM.out.2.1 hz).mono ?_
    rintro e w'' ⟨rfl, hb2⟩
    have hbb := hb.out.trans (hb2.mono hb.out.size)
    exact ⟨rfl, hbb, (BLS3.out.below hbb BLS3.out.lt).cell 4⟩
  have JN : Hid (∀ (W' : World) (N : Nat) (zn : Int), zn = (N : Int) → rne o' u' = N → Calls Tryz.prog 99 #[.agg #[.int .i64 52, .int .i64 11, .int .i64 (-1074)], .int .u64 zn, .int .i64 pw] W' fun e w' => e = .returned (.int .u64 ((bitsOf 52 1074 (infN 52 11) o u : Nat) : Int)) ∧ Below W'.heap.size W' w') := by
    intro W' N zn hzn hN
    rw [hzn, BE.out N hN, HS.out]
    exact join64_any N s W' (by omega) (by rw [← hN]; exact QLT.out.2.1)
  have ZC : Hid ((z = 1 ∧ rne o' u' = q + 1) ∨ (z = 0 ∧ q % 2 = 1 ∧ rne o' u' = q + 1) ∨ (z = 0 ∧ q % 2 = 0 ∧ rne o' u' = q) ∨ (z = -1 ∧ rne o' u' = q)) := by
    have h2 := QLT.out.2.2
    rw [← hr] at h2
    rcases cmpN_or (r + r) u' with h1 | h1 | h1
    · have h3 := cmpN_lt h1
      refine .inr (.inr (.inr ⟨by rw [← hz, h1], ?_⟩))
      rw [hq]; exact rne_down (by rw [← hr]; omega)
    · have h3 := cmpN_eq h1
      by_cases hp : q % 2 = 1
      · refine .inr (.inl ⟨by rw [← hz, h1], hp, ?_⟩)
        rw [hq]; exact rne_up (by rw [← hr, ← hq]; omega)
      · refine .inr (.inr (.inl ⟨by rw [← hz, h1], by omega, ?_⟩))
        rw [hq]; exact rne_down (by rw [← hr, ← hq]; omega)
    · have h3 := cmpN_gt h1
      refine .inl ⟨by rw [← hz, h1], ?_⟩
      rw [hq]; exact rne_up (by rw [← hr]; omega)
  have hql : q ≤ 9007199254740992 := by have := QLT.out.1; omega
  have BK : Hid (∀ w', Below w3.heap.size w3 w' → Below w.heap.size w w' ∧ w'.cell? ⟨w.heap.size, 0, none⟩ = some (.int .i64 52) ∧ w'.cell? ⟨w.heap.size, 1, none⟩ = some (.int .i64 11) ∧ w'.cell? ⟨w.heap.size, 2, none⟩ = some (.int .i64 (-1074))) := fun w' h => by
    have q1 := BLK3.out.below h BLK3.out.lt
    exact ⟨HB3.out.trans (h.mono HB3.out.size), q1.cell 0, q1.cell 1, q1.cell 2⟩
  clear hz hr hq HQ BQ BE HS QLT NR N3 SM B64' U0 HB3 BLK3 BLS3 hs1 hh hlt1
  have mk0 : True := trivial
  go_region_held3 (fun w' => w'.cell? ⟨G, 4, none⟩ = some (.slice o2 l2 p2)) (go_keep) (first
    | (clear mk0; go_at_call 98; refine A1.out.mono ?_; rintro e w5 ⟨oa, la, ca, rfl, na, b5, k5⟩; have mk1 : True := trivial)
    | (clear mk1; go_at_call 90; refine (A2.out _ _ _ _ na b5).mono ?_; rintro e w6 ⟨rfl, b6, k6⟩; have mk2 : True := trivial))
  all_goals (
    obtain ⟨hbel, k0, k1, k2⟩ := BK.out _ b6.out
    have HB6 := hide hbel
    clear hbel b5 b6 na A1 A2 BK bd k5 k6 d4
    rcases ZC.out with ⟨rfl, hN⟩ | ⟨rfl, hp, hN⟩ | ⟨rfl, hp, hN⟩ | ⟨rfl, hN⟩)
  · have J1 := hide (fun W' => JN.out W' (q + 1) ((q : Int) + 1) (by omega) hN)
    clear JN ZC hN
    go_wp2_with fail
    refine (J1.out _).mono ?_
    rintro e w7 ⟨rfl, b7⟩
    have FIN := hide (HB6.out.trans (b7.mono HB6.out.size))
    clear b7 J1 HB6
    go_wp2
    go_ret
    exact ⟨rfl, FIN.out⟩
  · have hp' : ((q : Int) % 2 == 1) = true := by
      have h1 : (q : Int) % 2 = 1 := by omega
      simpa using h1
    clear hp
    have J1 := hide (fun W' => JN.out W' (q + 1) ((q : Int) + 1) (by omega) hN)
    clear JN ZC hN
    go_wp2_with fail
    refine (J1.out _).mono ?_
    rintro e w7 ⟨rfl, b7⟩
    have FIN := hide (HB6.out.trans (b7.mono HB6.out.size))
    clear b7 J1 HB6
    go_wp2
    go_ret
    exact ⟨rfl, FIN.out⟩
  · have hp' : ((q : Int) % 2 == 1) = false := by
      have h1 : ¬ (q : Int) % 2 = 1 := by omega
      simpa using h1
    clear hp
    have J1 := hide (fun W' => JN.out W' (q) ((q : Int)) (by omega) hN)
    clear JN ZC hN
    go_wp2_with fail
    refine (J1.out _).mono ?_
    rintro e w7 ⟨rfl, b7⟩
    have FIN := hide (HB6.out.trans (b7.mono HB6.out.size))
    clear b7 J1 HB6
    go_wp2
    go_ret
    exact ⟨rfl, FIN.out⟩
  · have J1 := hide (fun W' => JN.out W' (q) ((q : Int)) (by omega) hN)
    clear JN ZC hN
    go_wp2_with fail
    refine (J1.out _).mono ?_
    rintro e w7 ⟨rfl, b7⟩
    have FIN := hide (HB6.out.trans (b7.mono HB6.out.size))
    clear b7 J1 HB6
    go_wp2
    go_ret
    exact ⟨rfl, FIN.out⟩

theorem join32_any (N s : Nat) (w : World) (hs : s ≤ 1000000) (hN : N ≤ 16777216) :
    Calls Tryz.prog 99 #[w32, .int .u64 (N : Int), .int .i64 ((s : Int) - 149)] w fun e w' => e = .returned (.int .u64 ((min (s * 2 ^ 23 + N) (infN 23 8) : Nat) : Int)) ∧ Below w.heap.size w w' := by
  have e1 : (2 : Nat) ^ 23 = 8388608 := by decide
  rw [inf32, e1]
  rcases Nat.lt_or_ge s 256 with h | h
  · exact join32_fin N s _ w h hN (by omega)
  · have hm : min (s * 8388608 + N) 2139095040 = 2139095040 := by omega
    rw [hm]
    exact join32_inf N s _ w (by omega) (by omega) hs

set_option maxRecDepth 100000 in
set_option maxHeartbeats 2000000 in
theorem near32_any (oo ou : Option Addr) (lo co lu cu o u : Nat) (w : World) (ho : Nt w (.slice oo lo co) o) (hu : Nt w (.slice ou lu cu) u) (fo : Fit o) (fu : Fit u) (ho0 : o ≠ 0) (hu0 : u ≠ 0) :
    Calls Tryz.prog 65 #[(fracV 23 8 (-149) (.slice oo lo co) (.slice ou lu cu))] w fun e w' => e = .returned (.int .u64 ((bitsOf 23 149 (infN 23 8) o u : Nat) : Int)) ∧ Below w.heap.size w w' := by
  have hh := highN_le fo fu
  obtain ⟨pw, hpw⟩ : ∃ p, p = powN 23 149 o u := ⟨_, rfl⟩
  obtain ⟨h, hhe⟩ : ∃ h, h = highN o u := ⟨_, rfl⟩
  have hmax : pw = max (h - 23) (-149) := by rw [hpw, hhe]; rfl
  have bitsE : bitsOf 23 149 (infN 23 8) o u = min ((pw + 149).toNat * 2 ^ 23 + numN 23 149 o u) (infN 23 8) := by rw [hpw]; rfl
  rw [← hhe] at hh
  obtain ⟨s, hs⟩ : ∃ s : Nat, pw = (s : Int) - 149 := ⟨(pw + 149).toNat, by omega⟩
  have hs1 : s ≤ 40000 := by omega
  rw [show (pw + 149).toNat = s by omega] at bitsE
  obtain ⟨o', ho'⟩ : ∃ z, z = o * 2 ^ (-pw).toNat := ⟨_, rfl⟩
  obtain ⟨u', hu'⟩ : ∃ z, z = u * 2 ^ pw.toNat := ⟨_, rfl⟩
  have u0 : u' ≠ 0 := by rw [hu']; exact Nat.mul_ne_zero hu0 (by have : 0 < 2 ^ pw.toNat := Nat.pow_pos (by omega); omega)
  have numE : numN 23 149 o u = rne o' u' := by rw [ho', hu', hpw]; rfl
  have e53 : 2 * 2 ^ 23 = 16777216 := by decide
  have qlt : o' / u' < 16777216 := by rw [ho', hu', hpw, ← e53]; exact quot_lt ho0 hu0
  have nle : rne o' u' ≤ 16777216 := by rw [← numE, ← e53]; exact (numN_le ho0 hu0).1
  have rlt := Nat.mod_lt o' (Nat.pos_of_ne_zero u0)
  have HIG := hide (fun W (hW : Below w.heap.size w W) => highest_any 23 8 (-149) oo ou lo co lu cu o u W (ho.below hW) (hu.below hW) fo fu)
  rw [← hhe] at HIG
  have DIV : Hid (∀ W, Below w.heap.size w W → Calls Tryz.prog 97 #[(fracV 23 8 (-149) (.slice oo lo co) (.slice ou lu cu)), .int .i64 pw] W (FrPost W 23 8 (-149) o' u')) := fun W hW => by
    rw [ho', hu']
    exact divided_any 23 8 (-149) oo ou lo co lu cu o u pw W (ho.below hW) (hu.below hW) fo.sm0 fu.sm0 (by omega) (by omega)
  have SM : Hid (Sm o' ∧ Sm u' ∧ Sm (o' % u') ∧ Sm (o' % u' + o' % u')) := ⟨by rw [ho']; exact fo.sm (by omega), by rw [hu']; exact fu.sm (by omega), fu.sum (k := pw.toNat) (by omega) (by rw [← hu']; omega), fu.sum (k := pw.toNat) (by omega) (by rw [← hu']; omega)⟩
  have BE : Hid (∀ N, rne o' u' = N → bitsOf 23 149 (infN 23 8) o u = min (s * 2 ^ 23 + N) (infN 23 8)) := fun N hN => by rw [bitsE, numE, hN]
  have B64' : Hid (o' / u' < B64) := by show o' / u' < B64; unfold B64; omega
  have blk := Blk.new w #[.int .i64 23, .int .i64 8, .int .i64 (-149), .slice oo lo co, .slice ou lu cu] 94
  obtain ⟨W, hW⟩ : ∃ W, W = w.alloc (.cells #[.int .i64 23, .int .i64 8, .int .i64 (-149), .slice oo lo co, .slice ou lu cu] 94) := ⟨_, rfl⟩
  rw [← hW] at blk
  have HBW : Hid (Below w.heap.size w W) := by rw [hW]; exact (Below.refl _ _).alloc (Nat.le_refl _) _
  have BLK := hide blk
  have HW := hide hW
  have U0 := hide u0
  have c0 : W.cell? ⟨w.heap.size, 0, none⟩ = some (.int .i64 23) := blk.cell 0
  have c1 : W.cell? ⟨w.heap.size, 1, none⟩ = some (.int .i64 8) := blk.cell 1
  have c2 : W.cell? ⟨w.heap.size, 2, none⟩ = some (.int .i64 (-149)) := blk.cell 2
  have c3 : W.cell? ⟨w.heap.size, 3, none⟩ = some (.slice oo lo co) := blk.cell 3
  have c4 : W.cell? ⟨w.heap.size, 4, none⟩ = some (.slice ou lu cu) := blk.cell 4
  have b0 : Hid (Below W.heap.size W W.drew) := bdrew' W
  have C1 : Hid (Calls Tryz.prog 96 #[(fracV 23 8 (-149) (.slice oo lo co) (.slice ou lu cu))] W.drew fun e w' => e = .returned (.int .i64 h) ∧ Hid (Below W.heap.size W w') ∧ w'.cell? ⟨w.heap.size, 0, none⟩ = some (.int .i64 23) ∧ w'.cell? ⟨w.heap.size, 1, none⟩ = some (.int .i64 8) ∧ w'.cell? ⟨w.heap.size, 2, none⟩ = some (.int .i64 (-149)) ∧ w'.cell? ⟨w.heap.size, 3, none⟩ = some (.slice oo lo co) ∧ w'.cell? ⟨w.heap.size, 4, none⟩ = some (.slice ou lu cu)) := by
    refine (HIG.out W.drew (HBW.out.trans (b0.out.mono HBW.out.size))).mono ?_
    rintro e w' ⟨rfl, hb⟩
    have hbb := b0.out.trans (hb.mono b0.out.size)
    have q := BLK.out.below hbb BLK.out.lt
    exact ⟨rfl, hbb, q.cell 0, q.cell 1, q.cell 2, q.cell 3, q.cell 4⟩
  have HMX := hide hmax
  have HS := hide hs
  have QLT : Hid (o' / u' < 16777216 ∧ rne o' u' ≤ 16777216 ∧ o' % u' < u') := ⟨qlt, nle, rlt⟩
  have HH2 := hide hh
  clear ho hu fo fu ho0 hu0 hpw hhe bitsE ho' hu' u0 numE e53 qlt nle rlt HIG blk hW hmax hs
  go_enter Tryz.func65, Tryz.ntmps65
  go_wp2_with fail
  simp only [← HW.out]
  have mk0 : True := trivial
  go_region_held3 (fun w' => w'.cell? ⟨w.heap.size, 0, none⟩ = some (.int .i64 23) ∧ w'.cell? ⟨w.heap.size, 1, none⟩ = some (.int .i64 8) ∧ w'.cell? ⟨w.heap.size, 2, none⟩ = some (.int .i64 (-149)) ∧ w'.cell? ⟨w.heap.size, 3, none⟩ = some (.slice oo lo co) ∧ w'.cell? ⟨w.heap.size, 4, none⟩ = some (.slice ou lu cu)) (go_keep) (first
    | (clear mk0; go_at_call 96; refine C1.out.mono ?_; rintro e w1 ⟨rfl, b1, k0, k1, k2, k3, k4⟩; have mk1 : True := trivial))
  have EM : max (IntKind.i64.wrap (h - 23)) (-149) = pw := by
    have h1 := HMX.out
    have h2 := HH2.out
    rw [IntKind.wrap_i64]; omega
  simp only [EM]
  have HB1 := hide (HBW.out.trans (b1.out.mono HBW.out.size))
  have BLK1 := hide (BLK.out.below b1.out BLK.out.lt)
  have hlt1 := BLK1.out.lt
  clear EM b1 C1 BLK HBW b0 c0 c1 c2 c3 c4 HMX HH2 HW
  go_wp2_with fail
  refine (DIV.out _ HB1.out).mono ?_
  rintro e w2 ⟨o1, l1, p1, o2, l2, p2, rfl, n1, n2, b2⟩
  have OV : Hid (Below w2.heap.size w2 (w2.alloc (.cells #[.int .i64 23, .int .i64 8, .int .i64 (-149), .slice o1 l1 p1, .slice o2 l2 p2] 94))) := (Below.refl _ _).alloc (Nat.le_refl _) _
  have BLS := hide (Blk.new w2 #[.int .i64 23, .int .i64 8, .int .i64 (-149), .slice o1 l1 p1, .slice o2 l2 p2] 94)
  have N1 := hide (n1.below OV.out)
  have N2 := hide (n2.below OV.out)
  have HB2 := hide (HB1.out.trans ((b2.trans (OV.out.mono b2.size)).mono HB1.out.size))
  have BLK2 := hide (BLK1.out.below (b2.trans (OV.out.mono b2.size)) BLK1.out.lt)
  clear n1 n2 b2 DIV HB1 BLK1 k0 k1 k2 k3 k4 OV
  go_wp2_with fail
  obtain ⟨V, hV⟩ : ∃ V, V = w2.alloc (.cells #[.int .i64 23, .int .i64 8, .int .i64 (-149), .slice o1 l1 p1, .slice o2 l2 p2] 94) := ⟨_, rfl⟩
  simp only [← hV]
  rw [← hV] at N1 N2 HB2 BLK2 BLS
  clear hV
  refine (nt_div _ _ o' u' V N1.out N2.out SM.out.1 SM.out.2.1 U0.out).mono ?_
  rintro e w3 ⟨vq, vr, rfl, nq, nr, b3⟩
  obtain ⟨q, hq⟩ : ∃ q, q = o' / u' := ⟨_, rfl⟩
  rw [← hq] at nq
  have BQ : Hid (q < B64) := by rw [hq]; exact B64'.out
  have HQ := hide hq
  clear hq
  obtain ⟨oq, cq, xq, rfl, _⟩ := id nq
  obtain ⟨or, cr, xr, rfl, _⟩ := id nr
  have NQ := hide nq
  have NR := hide nr
  have N3 := hide (N2.out.below b3)
  have HB3 := hide (HB2.out.trans (b3.mono HB2.out.size))
  have BLK3 := hide (BLK2.out.below b3 BLK2.out.lt)
  have BLS3 := hide (BLS.out.below b3 BLS.out.lt)
  clear nq nr b3 N1 N2 HB2 BLK2 BLS
  go_wp2_with fail
  refine (nt_uint _ q w3 NQ.out BQ.out).mono ?_
  rintro e w4 ⟨rfl, rfl⟩
  clear NQ
  go_wp2_with fail
  obtain ⟨G, hG⟩ : ∃ G, G = w2.heap.size := ⟨_, rfl⟩
  simp only [← hG]
  rw [← hG] at BLS3
  clear hG
  have d4 : w3.cell? ⟨G, 4, none⟩ = some (.slice o2 l2 p2) := BLS3.out.cell 4
  have bd : Hid (Below w3.heap.size w3 w3.drew) := bdrew' w3
  obtain ⟨r, hr⟩ : ∃ r, r = o' % u' := ⟨_, rfl⟩
  have hq := HQ.out
  obtain ⟨z, hz⟩ : ∃ z, cmpN (r + r) u' = z := ⟨_, rfl⟩
  have A1 : Hid (Calls Tryz.prog 98 #[.slice or xr.length cr, .slice or xr.length cr] w3.drew fun e w' => ∃ oa la ca, e = .returned (.slice oa la ca) ∧ Hid (Nt w' (.slice oa la ca) (r + r)) ∧ Hid (Below w3.heap.size w3 w') ∧ w'.cell? ⟨G, 4, none⟩ = some (.slice o2 l2 p2)) := by
    rw [hr]
    refine (nt_add _ _ _ _ w3.drew (NR.out.below bd.out) (NR.out.below bd.out) SM.out.2.2.1 SM.out.2.2.1).mono ?_
    rintro e w' ⟨v, rfl, nv, hb, _⟩
    obtain ⟨oa, ca, xa, rfl, _⟩ := id nv
    have hbb := bd.out.trans (hb.mono bd.out.size)
    exact ⟨_, _, _, rfl, nv, hbb, (BLS3.out.below hbb BLS3.out.lt).cell 4⟩
  have A2 : Hid (∀ w' oa la ca, Hid (Nt w' (.slice oa la ca) (r + r)) → Hid (Below w3.heap.size w3 w') → Calls Tryz.prog 90 #[.slice oa la ca, .slice o2 l2 p2] w' fun e w'' => e = .returned (.int .i64 z) ∧ Hid (Below w3.heap.size w3 w'') ∧ w''.cell? ⟨G, 4, none⟩ = some (.slice o2 l2 p2)) := by
    intro w' oa la ca nv hb
    refine (nt_cmp _ _ _ _ z w' nv.out (N3.out.below hb.out) (by rw [hr]; exact SM.out.2.2.2) SM.out.2.1 hz).mono ?_
    rintro e w'' ⟨rfl, hb2⟩
    have hbb := hb.out.trans (hb2.mono hb.out.size)
    exact ⟨rfl, hbb, (BLS3.out.below hbb BLS3.out.lt).cell 4⟩
  have JN : Hid (∀ (W' : World) (N : Nat) (zn : Int), zn = (N : Int) → rne o' u' = N → Calls Tryz.prog 99 #[.agg #[.int .i64 23, .int .i64 8, .int .i64 (-149)], .int .u64 zn, .int .i64 pw] W' fun e w' => e = .returned (.int .u64 ((bitsOf 23 149 (infN 23 8) o u : Nat) : Int)) ∧ Below W'.heap.size W' w') := by
    intro W' N zn hzn hN
    rw [hzn, BE.out N hN, HS.out]
    exact join32_any N s W' (by omega) (by rw [← hN]; exact QLT.out.2.1)
  have ZC : Hid ((z = 1 ∧ rne o' u' = q + 1) ∨ (z = 0 ∧ q % 2 = 1 ∧ rne o' u' = q + 1) ∨ (z = 0 ∧ q % 2 = 0 ∧ rne o' u' = q) ∨ (z = -1 ∧ rne o' u' = q)) := by
    have h2 := QLT.out.2.2
    rw [← hr] at h2
    rcases cmpN_or (r + r) u' with h1 | h1 | h1
    · have h3 := cmpN_lt h1
      refine .inr (.inr (.inr ⟨by rw [← hz, h1], ?_⟩))
      rw [hq]; exact rne_down (by rw [← hr]; omega)
    · have h3 := cmpN_eq h1
      by_cases hp : q % 2 = 1
      · refine .inr (.inl ⟨by rw [← hz, h1], hp, ?_⟩)
        rw [hq]; exact rne_up (by rw [← hr, ← hq]; omega)
      · refine .inr (.inr (.inl ⟨by rw [← hz, h1], by omega, ?_⟩))
        rw [hq]; exact rne_down (by rw [← hr, ← hq]; omega)
    · have h3 := cmpN_gt h1
      refine .inl ⟨by rw [← hz, h1], ?_⟩
      rw [hq]; exact rne_up (by rw [← hr]; omega)
  have hql : q ≤ 16777216 := by have := QLT.out.1; omega
  have BK : Hid (∀ w', Below w3.heap.size w3 w' → Below w.heap.size w w' ∧ w'.cell? ⟨w.heap.size, 0, none⟩ = some (.int .i64 23) ∧ w'.cell? ⟨w.heap.size, 1, none⟩ = some (.int .i64 8) ∧ w'.cell? ⟨w.heap.size, 2, none⟩ = some (.int .i64 (-149))) := fun w' h => by
    have q1 := BLK3.out.below h BLK3.out.lt
    exact ⟨HB3.out.trans (h.mono HB3.out.size), q1.cell 0, q1.cell 1, q1.cell 2⟩
  clear hz hr hq HQ BQ BE HS QLT NR N3 SM B64' U0 HB3 BLK3 BLS3 hs1 hh hlt1
  have mk0 : True := trivial
  go_region_held3 (fun w' => w'.cell? ⟨G, 4, none⟩ = some (.slice o2 l2 p2)) (go_keep) (first
    | (clear mk0; go_at_call 98; refine A1.out.mono ?_; rintro e w5 ⟨oa, la, ca, rfl, na, b5, k5⟩; have mk1 : True := trivial)
    | (clear mk1; go_at_call 90; refine (A2.out _ _ _ _ na b5).mono ?_; rintro e w6 ⟨rfl, b6, k6⟩; have mk2 : True := trivial))
  all_goals (
    obtain ⟨hbel, k0, k1, k2⟩ := BK.out _ b6.out
    have HB6 := hide hbel
    clear hbel b5 b6 na A1 A2 BK bd k5 k6 d4
    rcases ZC.out with ⟨rfl, hN⟩ | ⟨rfl, hp, hN⟩ | ⟨rfl, hp, hN⟩ | ⟨rfl, hN⟩)
  · have J1 := hide (fun W' => JN.out W' (q + 1) ((q : Int) + 1) (by omega) hN)
    clear JN ZC hN
    go_wp2_with fail
    refine (J1.out _).mono ?_
    rintro e w7 ⟨rfl, b7⟩
    have FIN := hide (HB6.out.trans (b7.mono HB6.out.size))
    clear b7 J1 HB6
    go_wp2
    go_ret
    exact ⟨rfl, FIN.out⟩
  · have hp' : ((q : Int) % 2 == 1) = true := by
      have h1 : (q : Int) % 2 = 1 := by omega
      simpa using h1
    clear hp
    have J1 := hide (fun W' => JN.out W' (q + 1) ((q : Int) + 1) (by omega) hN)
    clear JN ZC hN
    go_wp2_with fail
    refine (J1.out _).mono ?_
    rintro e w7 ⟨rfl, b7⟩
    have FIN := hide (HB6.out.trans (b7.mono HB6.out.size))
    clear b7 J1 HB6
    go_wp2
    go_ret
    exact ⟨rfl, FIN.out⟩
  · have hp' : ((q : Int) % 2 == 1) = false := by
      have h1 : ¬ (q : Int) % 2 = 1 := by omega
      simpa using h1
    clear hp
    have J1 := hide (fun W' => JN.out W' (q) ((q : Int)) (by omega) hN)
    clear JN ZC hN
    go_wp2_with fail
    refine (J1.out _).mono ?_
    rintro e w7 ⟨rfl, b7⟩
    have FIN := hide (HB6.out.trans (b7.mono HB6.out.size))
    clear b7 J1 HB6
    go_wp2
    go_ret
    exact ⟨rfl, FIN.out⟩
  · have J1 := hide (fun W' => JN.out W' (q) ((q : Int)) (by omega) hN)
    clear JN ZC hN
    go_wp2_with fail
    refine (J1.out _).mono ?_
    rintro e w7 ⟨rfl, b7⟩
    have FIN := hide (HB6.out.trans (b7.mono HB6.out.size))
    clear b7 J1 HB6
    go_wp2
    go_ret
    exact ⟨rfl, FIN.out⟩

end Go.Proofs.YtpiloigpncbccabGreatDoor
