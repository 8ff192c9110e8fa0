/-
  The walk of quipulaw01.NatRing: whatever three lists are handed in, it answers true, and leaves what was there as it was.
-/
import Derived.Test.YtnlnjdieajdgfaaAwake
import Derived.Test.YtnlnjdieajdgfaaCmpN
import Derived.Test.YtnlnjdieajdgfaaDivAny
import Derived.Test.YtnlnjdieajdgfaaIsSame
namespace Go.Proofs.Ytnlnjdieajdgfaa
open Go.RowKit

set_option maxRecDepth 100000 in
set_option maxHeartbeats 2000000 in
theorem ring_zero (oa ob oc : Option Addr) (la ca lb cb lc cc : Nat) (xa xb xc : List Nat) (w : World) (hla : la ≤ ca) (hca : ca ≤ 1048576) (hlb : lb ≤ cb) (hcb : cb ≤ 1048576) (hlc : lc ≤ cc) (hcc : cc ≤ 1048576)
    (hxa : xa.length = la) (hxb : xb.length = lb) (hxc : xc.length = lc) (ata : At .u64 w oa xa) (atb : At .u64 w ob xb) (atc : At .u64 w oc xc) (oka : Ok B64 xa) (okb : Ok B64 xb) (okc : Ok B64 xc)
    (hc : Hid (cmpN (num B64 xb) (num B64 []) = 0)) :
    Calls Try.prog 4 #[.slice oa la ca, .slice ob lb cb, .slice oc lc cc] w fun e w' => e = .returned (.bool true) ∧ Below w.heap.size w w' := by
  go_enter Try.func4, Try.ntmps4
  have hbw : Below w.heap.size w w := Below.refl _ _
  go_wp2_with fail
  refine (awake_true _).mono ?_
  rintro e w1 ⟨rfl, hbel⟩
  replace ata := ata.below hbel
  replace atb := atb.below hbel
  replace atc := atc.below hbel
  replace hbw := hbw.trans (hbel.mono hbw.size)
  clear hbel
  go_wp2_with fail
  refine (mul_any oa ob la ca lb cb xa xb _ hla (by omega) hlb (by omega) hxa hxb ata atb oka okb).mono ?_
  rintro e w2 ⟨v, r1, rfl, hown1, is1, hbel⟩
  obtain ⟨o1, c1, rfl, hl1, hm1, at1⟩ := hown1.shape
  clear hown1
  replace ata := ata.below hbel
  replace atb := atb.below hbel
  replace atc := atc.below hbel
  replace hbw := hbw.trans (hbel.mono hbw.size)
  clear hbel
  go_wp2_with fail
  refine (add_any ob oc lb cb lc cc xb xc _ hlb (by omega) hlc (by omega) hxb hxc atb atc okb okc).mono ?_
  rintro e w3 ⟨v, r2, rfl, hown2, is2, hbel⟩
  obtain ⟨o2, c2, rfl, hl2, hm2, at2⟩ := hown2.shape
  clear hown2
  replace ata := ata.below hbel
  replace atb := atb.below hbel
  replace atc := atc.below hbel
  replace at1 := at1.below hbel
  replace hbw := hbw.trans (hbel.mono hbw.size)
  clear hbel
  go_wp2_with fail
  refine (mul_any ob oa lb cb la ca xb xa _ hlb (by omega) hla (by omega) hxb hxa atb ata okb oka).mono ?_
  rintro e w4 ⟨v, r3, rfl, hown3, is3, hbel⟩
  obtain ⟨o3, c3, rfl, hl3, hm3, at3⟩ := hown3.shape
  clear hown3
  replace ata := ata.below hbel
  replace atb := atb.below hbel
  replace atc := atc.below hbel
  replace at1 := at1.below hbel
  replace at2 := at2.below hbel
  replace hbw := hbw.trans (hbel.mono hbw.size)
  clear hbel
  have eq : Hid (r1 = r3) := is1.same is3 (Nat.mul_comm _ _)
  go_wp2_with fail
  refine (same_any o1 o3 r1.length c1 r3.length c3 r1 r3 _ (by omega) rfl rfl at1 at3).mono ?_
  rintro e w5 ⟨rfl, hbel⟩
  rw [show decide (r1 = r3) = true from decide_eq_true eq.out]
  replace ata := ata.below hbel
  replace atb := atb.below hbel
  replace atc := atc.below hbel
  replace at1 := at1.below hbel
  replace at2 := at2.below hbel
  replace at3 := at3.below hbel
  replace hbw := hbw.trans (hbel.mono hbw.size)
  clear hbel
  clear eq
  clear at3
  clear is3 hl3 hm3
  go_wp2_with fail
  refine (add_any oc ob lc cc lb cb xc xb _ hlc (by omega) hlb (by omega) hxc hxb atc atb okc okb).mono ?_
  rintro e w6 ⟨v, r3, rfl, hown3, is3, hbel⟩
  obtain ⟨o3, c3, rfl, hl3, hm3, at3⟩ := hown3.shape
  clear hown3
  replace ata := ata.below hbel
  replace atb := atb.below hbel
  replace atc := atc.below hbel
  replace at1 := at1.below hbel
  replace at2 := at2.below hbel
  replace hbw := hbw.trans (hbel.mono hbw.size)
  clear hbel
  have eq : Hid (r2 = r3) := is2.same is3 (Nat.add_comm _ _)
  go_wp2_with fail
  refine (same_any o2 o3 r2.length c2 r3.length c3 r2 r3 _ (by omega) rfl rfl at2 at3).mono ?_
  rintro e w7 ⟨rfl, hbel⟩
  rw [show decide (r2 = r3) = true from decide_eq_true eq.out]
  replace ata := ata.below hbel
  replace atb := atb.below hbel
  replace atc := atc.below hbel
  replace at1 := at1.below hbel
  replace at2 := at2.below hbel
  replace at3 := at3.below hbel
  replace hbw := hbw.trans (hbel.mono hbw.size)
  clear hbel
  clear eq
  clear at3
  clear is3 hl3 hm3
  go_wp2_with fail
  refine (add_any oa o2 la ca r2.length c2 xa r2 _ hla (by omega) hl2 (by omega) hxa rfl ata at2 oka is2.1).mono ?_
  rintro e w8 ⟨v, r3, rfl, hown3, is3, hbel⟩
  obtain ⟨o3, c3, rfl, hl3, hm3, at3⟩ := hown3.shape
  clear hown3
  replace ata := ata.below hbel
  replace atb := atb.below hbel
  replace atc := atc.below hbel
  replace at1 := at1.below hbel
  replace at2 := at2.below hbel
  replace hbw := hbw.trans (hbel.mono hbw.size)
  clear hbel
  go_wp2_with fail
  refine (add_any oa ob la ca lb cb xa xb _ hla (by omega) hlb (by omega) hxa hxb ata atb oka okb).mono ?_
  rintro e w9 ⟨v, r4, rfl, hown4, is4, hbel⟩
  obtain ⟨o4, c4, rfl, hl4, hm4, at4⟩ := hown4.shape
  clear hown4
  replace ata := ata.below hbel
  replace atb := atb.below hbel
  replace atc := atc.below hbel
  replace at1 := at1.below hbel
  replace at2 := at2.below hbel
  replace at3 := at3.below hbel
  replace hbw := hbw.trans (hbel.mono hbw.size)
  clear hbel
  go_wp2_with fail
  refine (add_any o4 oc r4.length c4 lc cc r4 xc _ hl4 (by omega) hlc (by omega) rfl hxc at4 atc is4.1 okc).mono ?_
  rintro e w10 ⟨v, r5, rfl, hown5, is5, hbel⟩
  obtain ⟨o5, c5, rfl, hl5, hm5, at5⟩ := hown5.shape
  clear hown5
  replace ata := ata.below hbel
  replace atb := atb.below hbel
  replace atc := atc.below hbel
  replace at1 := at1.below hbel
  replace at2 := at2.below hbel
  replace at3 := at3.below hbel
  replace at4 := at4.below hbel
  replace hbw := hbw.trans (hbel.mono hbw.size)
  clear hbel
  have eq : Hid (r3 = r5) := is3.same is5 (by rw [is2.2.2, is4.2.2, Nat.add_assoc])
  go_wp2_with fail
  refine (same_any o3 o5 r3.length c3 r5.length c5 r3 r5 _ (by omega) rfl rfl at3 at5).mono ?_
  rintro e w11 ⟨rfl, hbel⟩
  rw [show decide (r3 = r5) = true from decide_eq_true eq.out]
  replace ata := ata.below hbel
  replace atb := atb.below hbel
  replace atc := atc.below hbel
  replace at1 := at1.below hbel
  replace at2 := at2.below hbel
  replace at3 := at3.below hbel
  replace at4 := at4.below hbel
  replace at5 := at5.below hbel
  replace hbw := hbw.trans (hbel.mono hbw.size)
  clear hbel
  clear eq
  clear at3
  clear is3 hl3 hm3
  clear at4
  clear is4 hl4 hm4
  clear at5
  clear is5 hl5 hm5
  go_wp2_with fail
  refine (mul_any ob oc lb cb lc cc xb xc _ hlb (by omega) hlc (by omega) hxb hxc atb atc okb okc).mono ?_
  rintro e w12 ⟨v, r3, rfl, hown3, is3, hbel⟩
  obtain ⟨o3, c3, rfl, hl3, hm3, at3⟩ := hown3.shape
  clear hown3
  replace ata := ata.below hbel
  replace atb := atb.below hbel
  replace atc := atc.below hbel
  replace at1 := at1.below hbel
  replace at2 := at2.below hbel
  replace hbw := hbw.trans (hbel.mono hbw.size)
  clear hbel
  go_wp2_with fail
  refine (mul_any oa o3 la ca r3.length c3 xa r3 _ hla (by omega) hl3 (by omega) hxa rfl ata at3 oka is3.1).mono ?_
  rintro e w13 ⟨v, r4, rfl, hown4, is4, hbel⟩
  obtain ⟨o4, c4, rfl, hl4, hm4, at4⟩ := hown4.shape
  clear hown4
  replace ata := ata.below hbel
  replace atb := atb.below hbel
  replace atc := atc.below hbel
  replace at1 := at1.below hbel
  replace at2 := at2.below hbel
  replace at3 := at3.below hbel
  replace hbw := hbw.trans (hbel.mono hbw.size)
  clear hbel
  go_wp2_with fail
  refine (mul_any o1 oc r1.length c1 lc cc r1 xc _ hl1 (by omega) hlc (by omega) rfl hxc at1 atc is1.1 okc).mono ?_
  rintro e w14 ⟨v, r5, rfl, hown5, is5, hbel⟩
  obtain ⟨o5, c5, rfl, hl5, hm5, at5⟩ := hown5.shape
  clear hown5
  replace ata := ata.below hbel
  replace atb := atb.below hbel
  replace atc := atc.below hbel
  replace at1 := at1.below hbel
  replace at2 := at2.below hbel
  replace at3 := at3.below hbel
  replace at4 := at4.below hbel
  replace hbw := hbw.trans (hbel.mono hbw.size)
  clear hbel
  have eq : Hid (r4 = r5) := is4.same is5 (by rw [is3.2.2, is1.2.2, Nat.mul_assoc])
  go_wp2_with fail
  refine (same_any o4 o5 r4.length c4 r5.length c5 r4 r5 _ (by omega) rfl rfl at4 at5).mono ?_
  rintro e w15 ⟨rfl, hbel⟩
  rw [show decide (r4 = r5) = true from decide_eq_true eq.out]
  replace ata := ata.below hbel
  replace atb := atb.below hbel
  replace atc := atc.below hbel
  replace at1 := at1.below hbel
  replace at2 := at2.below hbel
  replace at3 := at3.below hbel
  replace at4 := at4.below hbel
  replace at5 := at5.below hbel
  replace hbw := hbw.trans (hbel.mono hbw.size)
  clear hbel
  clear eq
  clear at3
  clear is3 hl3 hm3
  clear at4
  clear is4 hl4 hm4
  clear at5
  clear is5 hl5 hm5
  go_wp2_with fail
  refine (mul_any oa o2 la ca r2.length c2 xa r2 _ hla (by omega) hl2 (by omega) hxa rfl ata at2 oka is2.1).mono ?_
  rintro e w16 ⟨v, r3, rfl, hown3, is3, hbel⟩
  obtain ⟨o3, c3, rfl, hl3, hm3, at3⟩ := hown3.shape
  clear hown3
  replace ata := ata.below hbel
  replace atb := atb.below hbel
  replace atc := atc.below hbel
  replace at1 := at1.below hbel
  replace at2 := at2.below hbel
  replace hbw := hbw.trans (hbel.mono hbw.size)
  clear hbel
  go_wp2_with fail
  refine (mul_any oa oc la ca lc cc xa xc _ hla (by omega) hlc (by omega) hxa hxc ata atc oka okc).mono ?_
  rintro e w17 ⟨v, r4, rfl, hown4, is4, hbel⟩
  obtain ⟨o4, c4, rfl, hl4, hm4, at4⟩ := hown4.shape
  clear hown4
  replace ata := ata.below hbel
  replace atb := atb.below hbel
  replace atc := atc.below hbel
  replace at1 := at1.below hbel
  replace at2 := at2.below hbel
  replace at3 := at3.below hbel
  replace hbw := hbw.trans (hbel.mono hbw.size)
  clear hbel
  go_wp2_with fail
  refine (add_any o1 o4 r1.length c1 r4.length c4 r1 r4 _ hl1 (by omega) hl4 (by omega) rfl rfl at1 at4 is1.1 is4.1).mono ?_
  rintro e w18 ⟨v, r5, rfl, hown5, is5, hbel⟩
  obtain ⟨o5, c5, rfl, hl5, hm5, at5⟩ := hown5.shape
  clear hown5
  replace ata := ata.below hbel
  replace atb := atb.below hbel
  replace atc := atc.below hbel
  replace at1 := at1.below hbel
  replace at2 := at2.below hbel
  replace at3 := at3.below hbel
  replace at4 := at4.below hbel
  replace hbw := hbw.trans (hbel.mono hbw.size)
  clear hbel
  have eq : Hid (r3 = r5) := is3.same is5 (by rw [is2.2.2, is1.2.2, is4.2.2, Nat.mul_add])
  go_wp2_with fail
  refine (same_any o3 o5 r3.length c3 r5.length c5 r3 r5 _ (by omega) rfl rfl at3 at5).mono ?_
  rintro e w19 ⟨rfl, hbel⟩
  rw [show decide (r3 = r5) = true from decide_eq_true eq.out]
  replace ata := ata.below hbel
  replace atb := atb.below hbel
  replace atc := atc.below hbel
  replace at1 := at1.below hbel
  replace at2 := at2.below hbel
  replace at3 := at3.below hbel
  replace at4 := at4.below hbel
  replace at5 := at5.below hbel
  replace hbw := hbw.trans (hbel.mono hbw.size)
  clear hbel
  clear eq
  clear at3
  clear is3 hl3 hm3
  clear at4
  clear is4 hl4 hm4
  clear at5
  clear is5 hl5 hm5
  clear at1
  clear is1 hl1 hm1
  go_wp2_with fail
  refine (sub_any o2 oc r2.length c2 lc cc r2 xc _ hl2 (by omega) hlc (by omega) rfl hxc at2 atc is2.1 okc).mono ?_
  rintro e w20 ⟨v, r3, rfl, hown3, is3, hbel⟩
  rw [if_neg (by rw [is2.2.2]; omega)]
  obtain ⟨o3, c3, rfl, hl3, hm3, at3⟩ := hown3.shape
  clear hown3
  replace ata := ata.below hbel
  replace atb := atb.below hbel
  replace atc := atc.below hbel
  replace at2 := at2.below hbel
  replace hbw := hbw.trans (hbel.mono hbw.size)
  clear hbel
  go_wp2_with fail
  refine (norm_any ob lb cb xb _ hlb (by omega) hxb atb okb).mono ?_
  rintro e w21 ⟨v, r4, rfl, hown4, is4, hbel⟩
  obtain ⟨o4, c4, rfl, hl4, hm4, at4⟩ := hown4.shape
  clear hown4
  replace ata := ata.below hbel
  replace atb := atb.below hbel
  replace atc := atc.below hbel
  replace at2 := at2.below hbel
  replace at3 := at3.below hbel
  replace hbw := hbw.trans (hbel.mono hbw.size)
  clear hbel
  have eq : Hid (r3 = r4) := is3.same is4 (by rw [is2.2.2]; omega)
  go_wp2_with fail
  refine (same_any o3 o4 r3.length c3 r4.length c4 r3 r4 _ (by omega) rfl rfl at3 at4).mono ?_
  rintro e w22 ⟨rfl, hbel⟩
  rw [show decide (r3 = r4) = true from decide_eq_true eq.out]
  replace ata := ata.below hbel
  replace atb := atb.below hbel
  replace atc := atc.below hbel
  replace at2 := at2.below hbel
  replace at3 := at3.below hbel
  replace at4 := at4.below hbel
  replace hbw := hbw.trans (hbel.mono hbw.size)
  clear hbel
  clear eq
  clear at3
  clear is3 hl3 hm3
  clear at4
  clear is4 hl4 hm4
  clear at2
  clear is2 hl2 hm2
  go_wp2_with fail
  refine (cmp_num ob none lb cb 0 0 xb [] _ (by omega) (by omega) hxb rfl atb (At.nil _ _ _) okb (Is.none (by decide)).1 0 hc.out).mono ?_
  rintro e w23 ⟨rfl, hbel⟩
  replace ata := ata.below hbel
  replace atb := atb.below hbel
  replace atc := atc.below hbel
  replace hbw := hbw.trans (hbel.mono hbw.size)
  clear hbel
  go_wp2
  go_ret
  exact ⟨rfl, hbw⟩

set_option maxRecDepth 100000 in
set_option maxHeartbeats 2000000 in
theorem ring_div (oa ob oc : Option Addr) (la ca lb cb lc cc : Nat) (xa xb xc : List Nat) (w : World) (hla : la ≤ ca) (hca : ca ≤ 1048576) (hlb : lb ≤ cb) (hcb : cb ≤ 1048576) (hlc : lc ≤ cc) (hcc : cc ≤ 1048576)
    (hxa : xa.length = la) (hxb : xb.length = lb) (hxc : xc.length = lc) (ata : At .u64 w oa xa) (atb : At .u64 w ob xb) (atc : At .u64 w oc xc) (oka : Ok B64 xa) (okb : Ok B64 xb) (okc : Ok B64 xc)
    (hc : Hid (cmpN (num B64 xb) (num B64 []) = 1)) (h0 : Hid (num B64 xb ≠ 0)) (hr : Hid (cmpN (num B64 xa % num B64 xb) (num B64 xb) = -1)) :
    Calls Try.prog 4 #[.slice oa la ca, .slice ob lb cb, .slice oc lc cc] w fun e w' => e = .returned (.bool true) ∧ Below w.heap.size w w' := by
  go_enter Try.func4, Try.ntmps4
  have hbw : Below w.heap.size w w := Below.refl _ _
  go_wp2_with fail
  refine (awake_true _).mono ?_
  rintro e w1 ⟨rfl, hbel⟩
  replace ata := ata.below hbel
  replace atb := atb.below hbel
  replace atc := atc.below hbel
  replace hbw := hbw.trans (hbel.mono hbw.size)
  clear hbel
  go_wp2_with fail
  refine (mul_any oa ob la ca lb cb xa xb _ hla (by omega) hlb (by omega) hxa hxb ata atb oka okb).mono ?_
  rintro e w2 ⟨v, r1, rfl, hown1, is1, hbel⟩
  obtain ⟨o1, c1, rfl, hl1, hm1, at1⟩ := hown1.shape
  clear hown1
  replace ata := ata.below hbel
  replace atb := atb.below hbel
  replace atc := atc.below hbel
  replace hbw := hbw.trans (hbel.mono hbw.size)
  clear hbel
  go_wp2_with fail
  refine (add_any ob oc lb cb lc cc xb xc _ hlb (by omega) hlc (by omega) hxb hxc atb atc okb okc).mono ?_
  rintro e w3 ⟨v, r2, rfl, hown2, is2, hbel⟩
  obtain ⟨o2, c2, rfl, hl2, hm2, at2⟩ := hown2.shape
  clear hown2
  replace ata := ata.below hbel
  replace atb := atb.below hbel
  replace atc := atc.below hbel
  replace at1 := at1.below hbel
  replace hbw := hbw.trans (hbel.mono hbw.size)
  clear hbel
  go_wp2_with fail
  refine (mul_any ob oa lb cb la ca xb xa _ hlb (by omega) hla (by omega) hxb hxa atb ata okb oka).mono ?_
  rintro e w4 ⟨v, r3, rfl, hown3, is3, hbel⟩
  obtain ⟨o3, c3, rfl, hl3, hm3, at3⟩ := hown3.shape
  clear hown3
  replace ata := ata.below hbel
  replace atb := atb.below hbel
  replace atc := atc.below hbel
  replace at1 := at1.below hbel
  replace at2 := at2.below hbel
  replace hbw := hbw.trans (hbel.mono hbw.size)
  clear hbel
  have eq : Hid (r1 = r3) := is1.same is3 (Nat.mul_comm _ _)
  go_wp2_with fail
  refine (same_any o1 o3 r1.length c1 r3.length c3 r1 r3 _ (by omega) rfl rfl at1 at3).mono ?_
  rintro e w5 ⟨rfl, hbel⟩
  rw [show decide (r1 = r3) = true from decide_eq_true eq.out]
  replace ata := ata.below hbel
  replace atb := atb.below hbel
  replace atc := atc.below hbel
  replace at1 := at1.below hbel
  replace at2 := at2.below hbel
  replace at3 := at3.below hbel
  replace hbw := hbw.trans (hbel.mono hbw.size)
  clear hbel
  clear eq
  clear at3
  clear is3 hl3 hm3
  go_wp2_with fail
  refine (add_any oc ob lc cc lb cb xc xb _ hlc (by omega) hlb (by omega) hxc hxb atc atb okc okb).mono ?_
  rintro e w6 ⟨v, r3, rfl, hown3, is3, hbel⟩
  obtain ⟨o3, c3, rfl, hl3, hm3, at3⟩ := hown3.shape
  clear hown3
  replace ata := ata.below hbel
  replace atb := atb.below hbel
  replace atc := atc.below hbel
  replace at1 := at1.below hbel
  replace at2 := at2.below hbel
  replace hbw := hbw.trans (hbel.mono hbw.size)
  clear hbel
  have eq : Hid (r2 = r3) := is2.same is3 (Nat.add_comm _ _)
  go_wp2_with fail
  refine (same_any o2 o3 r2.length c2 r3.length c3 r2 r3 _ (by omega) rfl rfl at2 at3).mono ?_
  rintro e w7 ⟨rfl, hbel⟩
  rw [show decide (r2 = r3) = true from decide_eq_true eq.out]
  replace ata := ata.below hbel
  replace atb := atb.below hbel
  replace atc := atc.below hbel
  replace at1 := at1.below hbel
  replace at2 := at2.below hbel
  replace at3 := at3.below hbel
  replace hbw := hbw.trans (hbel.mono hbw.size)
  clear hbel
  clear eq
  clear at3
  clear is3 hl3 hm3
  go_wp2_with fail
  refine (add_any oa o2 la ca r2.length c2 xa r2 _ hla (by omega) hl2 (by omega) hxa rfl ata at2 oka is2.1).mono ?_
  rintro e w8 ⟨v, r3, rfl, hown3, is3, hbel⟩
  obtain ⟨o3, c3, rfl, hl3, hm3, at3⟩ := hown3.shape
  clear hown3
  replace ata := ata.below hbel
  replace atb := atb.below hbel
  replace atc := atc.below hbel
  replace at1 := at1.below hbel
  replace at2 := at2.below hbel
  replace hbw := hbw.trans (hbel.mono hbw.size)
  clear hbel
  go_wp2_with fail
  refine (add_any oa ob la ca lb cb xa xb _ hla (by omega) hlb (by omega) hxa hxb ata atb oka okb).mono ?_
  rintro e w9 ⟨v, r4, rfl, hown4, is4, hbel⟩
  obtain ⟨o4, c4, rfl, hl4, hm4, at4⟩ := hown4.shape
  clear hown4
  replace ata := ata.below hbel
  replace atb := atb.below hbel
  replace atc := atc.below hbel
  replace at1 := at1.below hbel
  replace at2 := at2.below hbel
  replace at3 := at3.below hbel
  replace hbw := hbw.trans (hbel.mono hbw.size)
  clear hbel
  go_wp2_with fail
  refine (add_any o4 oc r4.length c4 lc cc r4 xc _ hl4 (by omega) hlc (by omega) rfl hxc at4 atc is4.1 okc).mono ?_
  rintro e w10 ⟨v, r5, rfl, hown5, is5, hbel⟩
  obtain ⟨o5, c5, rfl, hl5, hm5, at5⟩ := hown5.shape
  clear hown5
  replace ata := ata.below hbel
  replace atb := atb.below hbel
  replace atc := atc.below hbel
  replace at1 := at1.below hbel
  replace at2 := at2.below hbel
  replace at3 := at3.below hbel
  replace at4 := at4.below hbel
  replace hbw := hbw.trans (hbel.mono hbw.size)
  clear hbel
  have eq : Hid (r3 = r5) := is3.same is5 (by rw [is2.2.2, is4.2.2, Nat.add_assoc])
  go_wp2_with fail
  refine (same_any o3 o5 r3.length c3 r5.length c5 r3 r5 _ (by omega) rfl rfl at3 at5).mono ?_
  rintro e w11 ⟨rfl, hbel⟩
  rw [show decide (r3 = r5) = true from decide_eq_true eq.out]
  replace ata := ata.below hbel
  replace atb := atb.below hbel
  replace atc := atc.below hbel
  replace at1 := at1.below hbel
  replace at2 := at2.below hbel
  replace at3 := at3.below hbel
  replace at4 := at4.below hbel
  replace at5 := at5.below hbel
  replace hbw := hbw.trans (hbel.mono hbw.size)
  clear hbel
  clear eq
  clear at3
  clear is3 hl3 hm3
  clear at4
  clear is4 hl4 hm4
  clear at5
  clear is5 hl5 hm5
  go_wp2_with fail
  refine (mul_any ob oc lb cb lc cc xb xc _ hlb (by omega) hlc (by omega) hxb hxc atb atc okb okc).mono ?_
  rintro e w12 ⟨v, r3, rfl, hown3, is3, hbel⟩
  obtain ⟨o3, c3, rfl, hl3, hm3, at3⟩ := hown3.shape
  clear hown3
  replace ata := ata.below hbel
  replace atb := atb.below hbel
  replace atc := atc.below hbel
  replace at1 := at1.below hbel
  replace at2 := at2.below hbel
  replace hbw := hbw.trans (hbel.mono hbw.size)
  clear hbel
  go_wp2_with fail
  refine (mul_any oa o3 la ca r3.length c3 xa r3 _ hla (by omega) hl3 (by omega) hxa rfl ata at3 oka is3.1).mono ?_
  rintro e w13 ⟨v, r4, rfl, hown4, is4, hbel⟩
  obtain ⟨o4, c4, rfl, hl4, hm4, at4⟩ := hown4.shape
  clear hown4
  replace ata := ata.below hbel
  replace atb := atb.below hbel
  replace atc := atc.below hbel
  replace at1 := at1.below hbel
  replace at2 := at2.below hbel
  replace at3 := at3.below hbel
  replace hbw := hbw.trans (hbel.mono hbw.size)
  clear hbel
  go_wp2_with fail
  refine (mul_any o1 oc r1.length c1 lc cc r1 xc _ hl1 (by omega) hlc (by omega) rfl hxc at1 atc is1.1 okc).mono ?_
  rintro e w14 ⟨v, r5, rfl, hown5, is5, hbel⟩
  obtain ⟨o5, c5, rfl, hl5, hm5, at5⟩ := hown5.shape
  clear hown5
  replace ata := ata.below hbel
  replace atb := atb.below hbel
  replace atc := atc.below hbel
  replace at1 := at1.below hbel
  replace at2 := at2.below hbel
  replace at3 := at3.below hbel
  replace at4 := at4.below hbel
  replace hbw := hbw.trans (hbel.mono hbw.size)
  clear hbel
  have eq : Hid (r4 = r5) := is4.same is5 (by rw [is3.2.2, is1.2.2, Nat.mul_assoc])
  go_wp2_with fail
  refine (same_any o4 o5 r4.length c4 r5.length c5 r4 r5 _ (by omega) rfl rfl at4 at5).mono ?_
  rintro e w15 ⟨rfl, hbel⟩
  rw [show decide (r4 = r5) = true from decide_eq_true eq.out]
  replace ata := ata.below hbel
  replace atb := atb.below hbel
  replace atc := atc.below hbel
  replace at1 := at1.below hbel
  replace at2 := at2.below hbel
  replace at3 := at3.below hbel
  replace at4 := at4.below hbel
  replace at5 := at5.below hbel
  replace hbw := hbw.trans (hbel.mono hbw.size)
  clear hbel
  clear eq
  clear at3
  clear is3 hl3 hm3
  clear at4
  clear is4 hl4 hm4
  clear at5
  clear is5 hl5 hm5
  go_wp2_with fail
  refine (mul_any oa o2 la ca r2.length c2 xa r2 _ hla (by omega) hl2 (by omega) hxa rfl ata at2 oka is2.1).mono ?_
  rintro e w16 ⟨v, r3, rfl, hown3, is3, hbel⟩
  obtain ⟨o3, c3, rfl, hl3, hm3, at3⟩ := hown3.shape
  clear hown3
  replace ata := ata.below hbel
  replace atb := atb.below hbel
  replace atc := atc.below hbel
  replace at1 := at1.below hbel
  replace at2 := at2.below hbel
  replace hbw := hbw.trans (hbel.mono hbw.size)
  clear hbel
  go_wp2_with fail
  refine (mul_any oa oc la ca lc cc xa xc _ hla (by omega) hlc (by omega) hxa hxc ata atc oka okc).mono ?_
  rintro e w17 ⟨v, r4, rfl, hown4, is4, hbel⟩
  obtain ⟨o4, c4, rfl, hl4, hm4, at4⟩ := hown4.shape
  clear hown4
  replace ata := ata.below hbel
  replace atb := atb.below hbel
  replace atc := atc.below hbel
  replace at1 := at1.below hbel
  replace at2 := at2.below hbel
  replace at3 := at3.below hbel
  replace hbw := hbw.trans (hbel.mono hbw.size)
  clear hbel
  go_wp2_with fail
  refine (add_any o1 o4 r1.length c1 r4.length c4 r1 r4 _ hl1 (by omega) hl4 (by omega) rfl rfl at1 at4 is1.1 is4.1).mono ?_
  rintro e w18 ⟨v, r5, rfl, hown5, is5, hbel⟩
  obtain ⟨o5, c5, rfl, hl5, hm5, at5⟩ := hown5.shape
  clear hown5
  replace ata := ata.below hbel
  replace atb := atb.below hbel
  replace atc := atc.below hbel
  replace at1 := at1.below hbel
  replace at2 := at2.below hbel
  replace at3 := at3.below hbel
  replace at4 := at4.below hbel
  replace hbw := hbw.trans (hbel.mono hbw.size)
  clear hbel
  have eq : Hid (r3 = r5) := is3.same is5 (by rw [is2.2.2, is1.2.2, is4.2.2, Nat.mul_add])
  go_wp2_with fail
  refine (same_any o3 o5 r3.length c3 r5.length c5 r3 r5 _ (by omega) rfl rfl at3 at5).mono ?_
  rintro e w19 ⟨rfl, hbel⟩
  rw [show decide (r3 = r5) = true from decide_eq_true eq.out]
  replace ata := ata.below hbel
  replace atb := atb.below hbel
  replace atc := atc.below hbel
  replace at1 := at1.below hbel
  replace at2 := at2.below hbel
  replace at3 := at3.below hbel
  replace at4 := at4.below hbel
  replace at5 := at5.below hbel
  replace hbw := hbw.trans (hbel.mono hbw.size)
  clear hbel
  clear eq
  clear at3
  clear is3 hl3 hm3
  clear at4
  clear is4 hl4 hm4
  clear at5
  clear is5 hl5 hm5
  clear at1
  clear is1 hl1 hm1
  go_wp2_with fail
  refine (sub_any o2 oc r2.length c2 lc cc r2 xc _ hl2 (by omega) hlc (by omega) rfl hxc at2 atc is2.1 okc).mono ?_
  rintro e w20 ⟨v, r3, rfl, hown3, is3, hbel⟩
  rw [if_neg (by rw [is2.2.2]; omega)]
  obtain ⟨o3, c3, rfl, hl3, hm3, at3⟩ := hown3.shape
  clear hown3
  replace ata := ata.below hbel
  replace atb := atb.below hbel
  replace atc := atc.below hbel
  replace at2 := at2.below hbel
  replace hbw := hbw.trans (hbel.mono hbw.size)
  clear hbel
  go_wp2_with fail
  refine (norm_any ob lb cb xb _ hlb (by omega) hxb atb okb).mono ?_
  rintro e w21 ⟨v, r4, rfl, hown4, is4, hbel⟩
  obtain ⟨o4, c4, rfl, hl4, hm4, at4⟩ := hown4.shape
  clear hown4
  replace ata := ata.below hbel
  replace atb := atb.below hbel
  replace atc := atc.below hbel
  replace at2 := at2.below hbel
  replace at3 := at3.below hbel
  replace hbw := hbw.trans (hbel.mono hbw.size)
  clear hbel
  have eq : Hid (r3 = r4) := is3.same is4 (by rw [is2.2.2]; omega)
  go_wp2_with fail
  refine (same_any o3 o4 r3.length c3 r4.length c4 r3 r4 _ (by omega) rfl rfl at3 at4).mono ?_
  rintro e w22 ⟨rfl, hbel⟩
  rw [show decide (r3 = r4) = true from decide_eq_true eq.out]
  replace ata := ata.below hbel
  replace atb := atb.below hbel
  replace atc := atc.below hbel
  replace at2 := at2.below hbel
  replace at3 := at3.below hbel
  replace at4 := at4.below hbel
  replace hbw := hbw.trans (hbel.mono hbw.size)
  clear hbel
  clear eq
  clear at3
  clear is3 hl3 hm3
  clear at4
  clear is4 hl4 hm4
  clear at2
  clear is2 hl2 hm2
  go_wp2_with fail
  refine (cmp_num ob none lb cb 0 0 xb [] _ (by omega) (by omega) hxb rfl atb (At.nil _ _ _) okb (Is.none (by decide)).1 1 hc.out).mono ?_
  rintro e w23 ⟨rfl, hbel⟩
  replace ata := ata.below hbel
  replace atb := atb.below hbel
  replace atc := atc.below hbel
  replace hbw := hbw.trans (hbel.mono hbw.size)
  clear hbel
  go_wp2_with fail
  refine (divmod_any oa ob la ca lb cb xa xb _ hla (by omega) hlb (by omega) hxa hxb ata atb oka okb h0.out).mono ?_
  rintro e w24 ⟨v1, r6, v2, r7, rfl, hown6, hown7, is6, is7, hbel, _⟩
  obtain ⟨o6, c6, rfl, hl6, hm6, at6⟩ := hown6.shape
  clear hown6
  obtain ⟨o7, c7, rfl, hl7, hm7, at7⟩ := hown7.shape
  clear hown7
  replace ata := ata.below hbel
  replace atb := atb.below hbel
  replace atc := atc.below hbel
  replace hbw := hbw.trans (hbel.mono hbw.size)
  clear hbel
  go_wp2_with fail
  refine (cmp_num o7 ob r7.length c7 lb cb r7 xb _ (by omega) (by omega) rfl hxb at7 atb is7.1 okb (-1) (by rw [is7.2.2]; exact hr.out)).mono ?_
  rintro e w25 ⟨rfl, hbel⟩
  replace ata := ata.below hbel
  replace atb := atb.below hbel
  replace atc := atc.below hbel
  replace at6 := at6.below hbel
  replace at7 := at7.below hbel
  replace hbw := hbw.trans (hbel.mono hbw.size)
  clear hbel
  go_wp2_with fail
  refine (mul_any o6 ob r6.length c6 lb cb r6 xb _ hl6 (by omega) hlb (by omega) rfl hxb at6 atb is6.1 okb).mono ?_
  rintro e w26 ⟨v, r8, rfl, hown8, is8, hbel⟩
  obtain ⟨o8, c8, rfl, hl8, hm8, at8⟩ := hown8.shape
  clear hown8
  replace ata := ata.below hbel
  replace atb := atb.below hbel
  replace atc := atc.below hbel
  replace at6 := at6.below hbel
  replace at7 := at7.below hbel
  replace hbw := hbw.trans (hbel.mono hbw.size)
  clear hbel
  go_wp2_with fail
  refine (add_any o8 o7 r8.length c8 r7.length c7 r8 r7 _ hl8 (by omega) hl7 (by omega) rfl rfl at8 at7 is8.1 is7.1).mono ?_
  rintro e w27 ⟨v, r9, rfl, hown9, is9, hbel⟩
  obtain ⟨o9, c9, rfl, hl9, hm9, at9⟩ := hown9.shape
  clear hown9
  replace ata := ata.below hbel
  replace atb := atb.below hbel
  replace atc := atc.below hbel
  replace at6 := at6.below hbel
  replace at7 := at7.below hbel
  replace at8 := at8.below hbel
  replace hbw := hbw.trans (hbel.mono hbw.size)
  clear hbel
  go_wp2_with fail
  refine (norm_any oa la ca xa _ hla (by omega) hxa ata oka).mono ?_
  rintro e w28 ⟨v, r1, rfl, hown1, is1, hbel⟩
  obtain ⟨o1, c1, rfl, hl1, hm1, at1⟩ := hown1.shape
  clear hown1
  replace ata := ata.below hbel
  replace atb := atb.below hbel
  replace atc := atc.below hbel
  replace at6 := at6.below hbel
  replace at7 := at7.below hbel
  replace at8 := at8.below hbel
  replace at9 := at9.below hbel
  replace hbw := hbw.trans (hbel.mono hbw.size)
  clear hbel
  have eq : Hid (r9 = r1) := is9.same is1 (by rw [is8.2.2, is6.2.2, is7.2.2, Nat.mul_comm]; exact Nat.div_add_mod _ _)
  go_wp2_with fail
  refine (same_any o9 o1 r9.length c9 r1.length c1 r9 r1 _ (by omega) rfl rfl at9 at1).mono ?_
  rintro e w29 ⟨rfl, hbel⟩
  rw [show decide (r9 = r1) = true from decide_eq_true eq.out]
  replace ata := ata.below hbel
  replace atb := atb.below hbel
  replace atc := atc.below hbel
  replace at6 := at6.below hbel
  replace at7 := at7.below hbel
  replace at8 := at8.below hbel
  replace at9 := at9.below hbel
  replace at1 := at1.below hbel
  replace hbw := hbw.trans (hbel.mono hbw.size)
  clear hbel
  clear eq
  go_wp2
  go_ret
  exact ⟨rfl, hbw⟩

theorem ring_walk (w : World) (oa : Option Addr) (la ca : Nat) (xa : List Nat) (hla : la ≤ ca) (hca : ca ≤ 1048576) (hxa : xa.length = la) (ata : At .u64 w oa xa) (oka : Ok B64 xa)
    (ob : Option Addr) (lb cb : Nat) (xb : List Nat) (hlb : lb ≤ cb) (hcb : cb ≤ 1048576) (hxb : xb.length = lb) (atb : At .u64 w ob xb) (okb : Ok B64 xb)
    (oc : Option Addr) (lc cc : Nat) (xc : List Nat) (hlc : lc ≤ cc) (hcc : cc ≤ 1048576) (hxc : xc.length = lc) (atc : At .u64 w oc xc) (okc : Ok B64 xc) :
    Calls Try.prog 4 #[.slice oa la ca, .slice ob lb cb, .slice oc lc cc] w fun e w' => e = .returned (.bool true) ∧ Below w.heap.size w w' := by
  have hn : num B64 [] = 0 := rfl
  by_cases h : num B64 xb = 0
  · exact ring_zero oa ob oc la ca lb cb lc cc xa xb xc w hla hca hlb hcb hlc hcc hxa hxb hxc ata atb atc oka okb okc (by rw [hn, h]; rfl)
  · have hm := Nat.mod_lt (num B64 xa) (show 0 < num B64 xb by omega)
    exact ring_div oa ob oc la ca lb cb lc cc xa xb xc w hla hca hlb hcb hlc hcc hxa hxb hxc ata atb atc oka okb okc (by rw [hn]; unfold cmpN; rw [if_neg (by omega), if_pos (by omega)]; rfl) h (by unfold cmpN; rw [if_pos hm]; rfl)

end Go.Proofs.Ytnlnjdieajdgfaa
