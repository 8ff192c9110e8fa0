/-
  The walk of quipulaw01.NatStands: whatever three lists are handed in, it answers true, and leaves what was there as it was.
-/
import Derived.Test.YtiehmmlapfdkbabAwake
import Derived.Test.YtiehmmlapfdkbabCmpN
namespace Go.Proofs.Ytiehmmlapfdkbab
open Go.RowKit

set_option maxRecDepth 100000 in
set_option maxHeartbeats 2000000 in
theorem stands_more (oa ob oc : Option Addr) (la ca lb cb lc cc : Nat) (xa xb xc : List Nat) (w : World) (hla : la ≤ ca) (hca : ca ≤ 1048576) (hlb : lb ≤ cb) (hcb : cb ≤ 1048576) (hlc : lc ≤ cc) (hcc : cc ≤ 1048576)
    (hxa : xa.length = la) (hxb : xb.length = lb) (hxc : xc.length = lc) (ata : At .u64 w oa xa) (atb : At .u64 w ob xb) (atc : At .u64 w oc xc) (oka : Ok B64 xa) (okb : Ok B64 xb) (okc : Ok B64 xc) (y : Int)
    (hxx : Hid (cmpN (num B64 xa) (num B64 xb) = 1)) (hxn : Hid (cmpN (num B64 xb) (num B64 xa) = -1)) (hyy : Hid (cmpN (num B64 xb) (num B64 xc) = y))
    (hss : Hid (cmpN (num B64 xa + num B64 xc) (num B64 xb + num B64 xc) = 1)) (hab : Hid (¬ num B64 xa = num B64 xb)) (hlt : Hid (¬ num B64 xa < num B64 xb)) :
    Calls Try.prog 4 #[.slice oa la ca, .slice ob lb cb, .slice oc lc cc] w fun e w' => e = .returned (.bool true) ∧ Below w.heap.size w w' := by
  go_enter Try.func4, Try.ntmps4
  have hbw : Below w.heap.size w w := Below.refl _ _
  go_wp2_with fail
  refine (cmp_num oa ob la ca lb cb xa xb _ (by omega) (by omega) hxa hxb ata atb oka okb 1 hxx.out).mono ?_
  rintro e w1 ⟨rfl, hbel⟩
  replace ata := ata.below hbel
  replace atb := atb.below hbel
  replace atc := atc.below hbel
  replace hbw := hbw.trans (hbel.mono hbw.size)
  clear hbel
  go_wp2_with fail
  refine (cmp_num ob oc lb cb lc cc xb xc _ (by omega) (by omega) hxb hxc atb atc okb okc y hyy.out).mono ?_
  rintro e w2 ⟨rfl, hbel⟩
  replace ata := ata.below hbel
  replace atb := atb.below hbel
  replace atc := atc.below hbel
  replace hbw := hbw.trans (hbel.mono hbw.size)
  clear hbel
  go_wp2_with fail
  refine (awake_true _).mono ?_
  rintro e w3 ⟨rfl, hbel⟩
  replace ata := ata.below hbel
  replace atb := atb.below hbel
  replace atc := atc.below hbel
  replace hbw := hbw.trans (hbel.mono hbw.size)
  clear hbel
  go_wp2_with fail
  refine (cmp_num ob oa lb cb la ca xb xa _ (by omega) (by omega) hxb hxa atb ata okb oka (-1) hxn.out).mono ?_
  rintro e w4 ⟨rfl, hbel⟩
  replace ata := ata.below hbel
  replace atb := atb.below hbel
  replace atc := atc.below hbel
  replace hbw := hbw.trans (hbel.mono hbw.size)
  clear hbel
  go_wp2_with fail
  refine (norm_any oa la ca xa _ hla (by omega) hxa ata oka).mono ?_
  rintro e w5 ⟨v, r1, rfl, hown1, is1, hbel⟩
  obtain ⟨o1, c1, rfl, hl1, hm1, at1⟩ := hown1.shape
  clear hown1
  replace ata := ata.below hbel
  replace atb := atb.below hbel
  replace atc := atc.below hbel
  replace hbw := hbw.trans (hbel.mono hbw.size)
  clear hbel
  go_wp2_with fail
  refine (norm_any ob lb cb xb _ hlb (by omega) hxb atb okb).mono ?_
  rintro e w6 ⟨v, r2, rfl, hown2, is2, hbel⟩
  obtain ⟨o2, c2, rfl, hl2, hm2, at2⟩ := hown2.shape
  clear hown2
  replace ata := ata.below hbel
  replace atb := atb.below hbel
  replace atc := atc.below hbel
  replace at1 := at1.below hbel
  replace hbw := hbw.trans (hbel.mono hbw.size)
  clear hbel
  have e12 : Hid (¬ r1 = r2) := by intro e; rw [e] at is1; exact hab.out (is1.2.2.symm.trans is2.2.2)
  go_wp2_with fail
  refine (same_any o1 o2 r1.length c1 r2.length c2 r1 r2 _ (by omega) rfl rfl at1 at2).mono ?_
  rintro e w7 ⟨rfl, hbel⟩
  rw [show decide (r1 = r2) = false from decide_eq_false e12.out]
  replace ata := ata.below hbel
  replace atb := atb.below hbel
  replace atc := atc.below hbel
  replace at1 := at1.below hbel
  replace at2 := at2.below hbel
  replace hbw := hbw.trans (hbel.mono hbw.size)
  clear hbel
  clear e12
  clear at1
  clear at2
  clear is1 is2 hl1 hl2 hm1 hm2
  go_wp2_with fail
  refine (add_any oa oc la ca lc cc xa xc _ hla (by omega) hlc (by omega) hxa hxc ata atc oka okc).mono ?_
  rintro e w8 ⟨v, r3, rfl, hown3, is3, hbel⟩
  obtain ⟨o3, c3, rfl, hl3, hm3, at3⟩ := hown3.shape
  clear hown3
  replace ata := ata.below hbel
  replace atb := atb.below hbel
  replace atc := atc.below hbel
  replace hbw := hbw.trans (hbel.mono hbw.size)
  clear hbel
  go_wp2_with fail
  refine (add_any ob oc lb cb lc cc xb xc _ hlb (by omega) hlc (by omega) hxb hxc atb atc okb okc).mono ?_
  rintro e w9 ⟨v, r4, rfl, hown4, is4, hbel⟩
  obtain ⟨o4, c4, rfl, hl4, hm4, at4⟩ := hown4.shape
  clear hown4
  replace ata := ata.below hbel
  replace atb := atb.below hbel
  replace atc := atc.below hbel
  replace at3 := at3.below hbel
  replace hbw := hbw.trans (hbel.mono hbw.size)
  clear hbel
  go_wp2_with fail
  refine (cmp_num o3 o4 r3.length c3 r4.length c4 r3 r4 _ (by omega) (by omega) rfl rfl at3 at4 is3.1 is4.1 1 (by rw [is3.2.2, is4.2.2]; exact hss.out)).mono ?_
  rintro e w10 ⟨rfl, hbel⟩
  replace ata := ata.below hbel
  replace atb := atb.below hbel
  replace atc := atc.below hbel
  replace at3 := at3.below hbel
  replace at4 := at4.below hbel
  replace hbw := hbw.trans (hbel.mono hbw.size)
  clear hbel
  clear at3
  clear at4
  clear is3 is4 hl3 hl4 hm3 hm4
  go_wp2_with fail
  refine (sub_any oa ob la ca lb cb xa xb _ hla (by omega) hlb (by omega) hxa hxb ata atb oka okb).mono ?_
  rintro e w11 ⟨v, r5, rfl, hown5, is5, hbel⟩
  rw [if_neg hlt.out]
  obtain ⟨o5, c5, rfl, hl5, hm5, at5⟩ := hown5.shape
  clear hown5
  replace ata := ata.below hbel
  replace atb := atb.below hbel
  replace atc := atc.below hbel
  replace hbw := hbw.trans (hbel.mono hbw.size)
  clear hbel
  clear at5
  clear is5 hl5 hm5
  go_wp2
  go_ret
  exact ⟨rfl, hbw⟩

set_option maxRecDepth 100000 in
set_option maxHeartbeats 2000000 in
theorem stands_same_le (oa ob oc : Option Addr) (la ca lb cb lc cc : Nat) (xa xb xc : List Nat) (w : World) (hla : la ≤ ca) (hca : ca ≤ 1048576) (hlb : lb ≤ cb) (hcb : cb ≤ 1048576) (hlc : lc ≤ cc) (hcc : cc ≤ 1048576)
    (hxa : xa.length = la) (hxb : xb.length = lb) (hxc : xc.length = lc) (ata : At .u64 w oa xa) (atb : At .u64 w ob xb) (atc : At .u64 w oc xc) (oka : Ok B64 xa) (okb : Ok B64 xb) (okc : Ok B64 xc) (y z : Int)
    (hxx : Hid (cmpN (num B64 xa) (num B64 xb) = 0)) (hxn : Hid (cmpN (num B64 xb) (num B64 xa) = 0)) (hyy : Hid (cmpN (num B64 xb) (num B64 xc) = y)) (hzz : Hid (cmpN (num B64 xa) (num B64 xc) = z))
    (hss : Hid (cmpN (num B64 xa + num B64 xc) (num B64 xb + num B64 xc) = 0)) (hab : Hid (num B64 xa = num B64 xb)) (hlt : Hid (¬ num B64 xa < num B64 xb)) (hyle : y ≤ 0) (hzle : ¬ 0 < z) :
    Calls Try.prog 4 #[.slice oa la ca, .slice ob lb cb, .slice oc lc cc] w fun e w' => e = .returned (.bool true) ∧ Below w.heap.size w w' := by
  go_enter Try.func4, Try.ntmps4
  have hbw : Below w.heap.size w w := Below.refl _ _
  go_wp2_with fail
  refine (cmp_num oa ob la ca lb cb xa xb _ (by omega) (by omega) hxa hxb ata atb oka okb 0 hxx.out).mono ?_
  rintro e w1 ⟨rfl, hbel⟩
  replace ata := ata.below hbel
  replace atb := atb.below hbel
  replace atc := atc.below hbel
  replace hbw := hbw.trans (hbel.mono hbw.size)
  clear hbel
  go_wp2_with fail
  refine (cmp_num ob oc lb cb lc cc xb xc _ (by omega) (by omega) hxb hxc atb atc okb okc y hyy.out).mono ?_
  rintro e w2 ⟨rfl, hbel⟩
  replace ata := ata.below hbel
  replace atb := atb.below hbel
  replace atc := atc.below hbel
  replace hbw := hbw.trans (hbel.mono hbw.size)
  clear hbel
  go_wp2_with fail
  refine (awake_true _).mono ?_
  rintro e w3 ⟨rfl, hbel⟩
  replace ata := ata.below hbel
  replace atb := atb.below hbel
  replace atc := atc.below hbel
  replace hbw := hbw.trans (hbel.mono hbw.size)
  clear hbel
  go_wp2_with fail
  refine (cmp_num ob oa lb cb la ca xb xa _ (by omega) (by omega) hxb hxa atb ata okb oka 0 hxn.out).mono ?_
  rintro e w4 ⟨rfl, hbel⟩
  replace ata := ata.below hbel
  replace atb := atb.below hbel
  replace atc := atc.below hbel
  replace hbw := hbw.trans (hbel.mono hbw.size)
  clear hbel
  go_wp2_with fail
  refine (norm_any oa la ca xa _ hla (by omega) hxa ata oka).mono ?_
  rintro e w5 ⟨v, r1, rfl, hown1, is1, hbel⟩
  obtain ⟨o1, c1, rfl, hl1, hm1, at1⟩ := hown1.shape
  clear hown1
  replace ata := ata.below hbel
  replace atb := atb.below hbel
  replace atc := atc.below hbel
  replace hbw := hbw.trans (hbel.mono hbw.size)
  clear hbel
  go_wp2_with fail
  refine (norm_any ob lb cb xb _ hlb (by omega) hxb atb okb).mono ?_
  rintro e w6 ⟨v, r2, rfl, hown2, is2, hbel⟩
  obtain ⟨o2, c2, rfl, hl2, hm2, at2⟩ := hown2.shape
  clear hown2
  replace ata := ata.below hbel
  replace atb := atb.below hbel
  replace atc := atc.below hbel
  replace at1 := at1.below hbel
  replace hbw := hbw.trans (hbel.mono hbw.size)
  clear hbel
  have e12 : Hid (r1 = r2) := is1.uniq (by decide) (by rw [hab.out]; exact is2)
  go_wp2_with fail
  refine (same_any o1 o2 r1.length c1 r2.length c2 r1 r2 _ (by omega) rfl rfl at1 at2).mono ?_
  rintro e w7 ⟨rfl, hbel⟩
  rw [show decide (r1 = r2) = true from decide_eq_true e12.out]
  replace ata := ata.below hbel
  replace atb := atb.below hbel
  replace atc := atc.below hbel
  replace at1 := at1.below hbel
  replace at2 := at2.below hbel
  replace hbw := hbw.trans (hbel.mono hbw.size)
  clear hbel
  clear e12
  clear at1
  clear at2
  clear is1 is2 hl1 hl2 hm1 hm2
  go_wp2_with fail
  refine (cmp_num oa oc la ca lc cc xa xc _ (by omega) (by omega) hxa hxc ata atc oka okc z hzz.out).mono ?_
  rintro e w8 ⟨rfl, hbel⟩
  replace ata := ata.below hbel
  replace atb := atb.below hbel
  replace atc := atc.below hbel
  replace hbw := hbw.trans (hbel.mono hbw.size)
  clear hbel
  go_wp2_with fail
  refine (add_any oa oc la ca lc cc xa xc _ hla (by omega) hlc (by omega) hxa hxc ata atc oka okc).mono ?_
  rintro e w9 ⟨v, r3, rfl, hown3, is3, hbel⟩
  obtain ⟨o3, c3, rfl, hl3, hm3, at3⟩ := hown3.shape
  clear hown3
  replace ata := ata.below hbel
  replace atb := atb.below hbel
  replace atc := atc.below hbel
  replace hbw := hbw.trans (hbel.mono hbw.size)
  clear hbel
  go_wp2_with fail
  refine (add_any ob oc lb cb lc cc xb xc _ hlb (by omega) hlc (by omega) hxb hxc atb atc okb okc).mono ?_
  rintro e w10 ⟨v, r4, rfl, hown4, is4, hbel⟩
  obtain ⟨o4, c4, rfl, hl4, hm4, at4⟩ := hown4.shape
  clear hown4
  replace ata := ata.below hbel
  replace atb := atb.below hbel
  replace atc := atc.below hbel
  replace at3 := at3.below hbel
  replace hbw := hbw.trans (hbel.mono hbw.size)
  clear hbel
  go_wp2_with fail
  refine (cmp_num o3 o4 r3.length c3 r4.length c4 r3 r4 _ (by omega) (by omega) rfl rfl at3 at4 is3.1 is4.1 0 (by rw [is3.2.2, is4.2.2]; exact hss.out)).mono ?_
  rintro e w11 ⟨rfl, hbel⟩
  replace ata := ata.below hbel
  replace atb := atb.below hbel
  replace atc := atc.below hbel
  replace at3 := at3.below hbel
  replace at4 := at4.below hbel
  replace hbw := hbw.trans (hbel.mono hbw.size)
  clear hbel
  clear at3
  clear at4
  clear is3 is4 hl3 hl4 hm3 hm4
  go_wp2_with fail
  refine (sub_any oa ob la ca lb cb xa xb _ hla (by omega) hlb (by omega) hxa hxb ata atb oka okb).mono ?_
  rintro e w12 ⟨v, r5, rfl, hown5, is5, hbel⟩
  rw [if_neg hlt.out]
  obtain ⟨o5, c5, rfl, hl5, hm5, at5⟩ := hown5.shape
  clear hown5
  replace ata := ata.below hbel
  replace atb := atb.below hbel
  replace atc := atc.below hbel
  replace hbw := hbw.trans (hbel.mono hbw.size)
  clear hbel
  clear at5
  clear is5 hl5 hm5
  go_wp2
  go_ret
  exact ⟨rfl, hbw⟩

set_option maxRecDepth 100000 in
set_option maxHeartbeats 2000000 in
theorem stands_same_gt (oa ob oc : Option Addr) (la ca lb cb lc cc : Nat) (xa xb xc : List Nat) (w : World) (hla : la ≤ ca) (hca : ca ≤ 1048576) (hlb : lb ≤ cb) (hcb : cb ≤ 1048576) (hlc : lc ≤ cc) (hcc : cc ≤ 1048576)
    (hxa : xa.length = la) (hxb : xb.length = lb) (hxc : xc.length = lc) (ata : At .u64 w oa xa) (atb : At .u64 w ob xb) (atc : At .u64 w oc xc) (oka : Ok B64 xa) (okb : Ok B64 xb) (okc : Ok B64 xc) (y : Int)
    (hxx : Hid (cmpN (num B64 xa) (num B64 xb) = 0)) (hxn : Hid (cmpN (num B64 xb) (num B64 xa) = 0)) (hyy : Hid (cmpN (num B64 xb) (num B64 xc) = y))
    (hss : Hid (cmpN (num B64 xa + num B64 xc) (num B64 xb + num B64 xc) = 0)) (hab : Hid (num B64 xa = num B64 xb)) (hlt : Hid (¬ num B64 xa < num B64 xb)) (hyle : ¬ y ≤ 0) :
    Calls Try.prog 4 #[.slice oa la ca, .slice ob lb cb, .slice oc lc cc] w fun e w' => e = .returned (.bool true) ∧ Below w.heap.size w w' := by
  go_enter Try.func4, Try.ntmps4
  have hbw : Below w.heap.size w w := Below.refl _ _
  go_wp2_with fail
  refine (cmp_num oa ob la ca lb cb xa xb _ (by omega) (by omega) hxa hxb ata atb oka okb 0 hxx.out).mono ?_
  rintro e w1 ⟨rfl, hbel⟩
  replace ata := ata.below hbel
  replace atb := atb.below hbel
  replace atc := atc.below hbel
  replace hbw := hbw.trans (hbel.mono hbw.size)
  clear hbel
  go_wp2_with fail
  refine (cmp_num ob oc lb cb lc cc xb xc _ (by omega) (by omega) hxb hxc atb atc okb okc y hyy.out).mono ?_
  rintro e w2 ⟨rfl, hbel⟩
  replace ata := ata.below hbel
  replace atb := atb.below hbel
  replace atc := atc.below hbel
  replace hbw := hbw.trans (hbel.mono hbw.size)
  clear hbel
  go_wp2_with fail
  refine (awake_true _).mono ?_
  rintro e w3 ⟨rfl, hbel⟩
  replace ata := ata.below hbel
  replace atb := atb.below hbel
  replace atc := atc.below hbel
  replace hbw := hbw.trans (hbel.mono hbw.size)
  clear hbel
  go_wp2_with fail
  refine (cmp_num ob oa lb cb la ca xb xa _ (by omega) (by omega) hxb hxa atb ata okb oka 0 hxn.out).mono ?_
  rintro e w4 ⟨rfl, hbel⟩
  replace ata := ata.below hbel
  replace atb := atb.below hbel
  replace atc := atc.below hbel
  replace hbw := hbw.trans (hbel.mono hbw.size)
  clear hbel
  go_wp2_with fail
  refine (norm_any oa la ca xa _ hla (by omega) hxa ata oka).mono ?_
  rintro e w5 ⟨v, r1, rfl, hown1, is1, hbel⟩
  obtain ⟨o1, c1, rfl, hl1, hm1, at1⟩ := hown1.shape
  clear hown1
  replace ata := ata.below hbel
  replace atb := atb.below hbel
  replace atc := atc.below hbel
  replace hbw := hbw.trans (hbel.mono hbw.size)
  clear hbel
  go_wp2_with fail
  refine (norm_any ob lb cb xb _ hlb (by omega) hxb atb okb).mono ?_
  rintro e w6 ⟨v, r2, rfl, hown2, is2, hbel⟩
  obtain ⟨o2, c2, rfl, hl2, hm2, at2⟩ := hown2.shape
  clear hown2
  replace ata := ata.below hbel
  replace atb := atb.below hbel
  replace atc := atc.below hbel
  replace at1 := at1.below hbel
  replace hbw := hbw.trans (hbel.mono hbw.size)
  clear hbel
  have e12 : Hid (r1 = r2) := is1.uniq (by decide) (by rw [hab.out]; exact is2)
  go_wp2_with fail
  refine (same_any o1 o2 r1.length c1 r2.length c2 r1 r2 _ (by omega) rfl rfl at1 at2).mono ?_
  rintro e w7 ⟨rfl, hbel⟩
  rw [show decide (r1 = r2) = true from decide_eq_true e12.out]
  replace ata := ata.below hbel
  replace atb := atb.below hbel
  replace atc := atc.below hbel
  replace at1 := at1.below hbel
  replace at2 := at2.below hbel
  replace hbw := hbw.trans (hbel.mono hbw.size)
  clear hbel
  clear e12
  clear at1
  clear at2
  clear is1 is2 hl1 hl2 hm1 hm2
  go_wp2_with fail
  refine (add_any oa oc la ca lc cc xa xc _ hla (by omega) hlc (by omega) hxa hxc ata atc oka okc).mono ?_
  rintro e w8 ⟨v, r3, rfl, hown3, is3, hbel⟩
  obtain ⟨o3, c3, rfl, hl3, hm3, at3⟩ := hown3.shape
  clear hown3
  replace ata := ata.below hbel
  replace atb := atb.below hbel
  replace atc := atc.below hbel
  replace hbw := hbw.trans (hbel.mono hbw.size)
  clear hbel
  go_wp2_with fail
  refine (add_any ob oc lb cb lc cc xb xc _ hlb (by omega) hlc (by omega) hxb hxc atb atc okb okc).mono ?_
  rintro e w9 ⟨v, r4, rfl, hown4, is4, hbel⟩
  obtain ⟨o4, c4, rfl, hl4, hm4, at4⟩ := hown4.shape
  clear hown4
  replace ata := ata.below hbel
  replace atb := atb.below hbel
  replace atc := atc.below hbel
  replace at3 := at3.below hbel
  replace hbw := hbw.trans (hbel.mono hbw.size)
  clear hbel
  go_wp2_with fail
  refine (cmp_num o3 o4 r3.length c3 r4.length c4 r3 r4 _ (by omega) (by omega) rfl rfl at3 at4 is3.1 is4.1 0 (by rw [is3.2.2, is4.2.2]; exact hss.out)).mono ?_
  rintro e w10 ⟨rfl, hbel⟩
  replace ata := ata.below hbel
  replace atb := atb.below hbel
  replace atc := atc.below hbel
  replace at3 := at3.below hbel
  replace at4 := at4.below hbel
  replace hbw := hbw.trans (hbel.mono hbw.size)
  clear hbel
  clear at3
  clear at4
  clear is3 is4 hl3 hl4 hm3 hm4
  go_wp2_with fail
  refine (sub_any oa ob la ca lb cb xa xb _ hla (by omega) hlb (by omega) hxa hxb ata atb oka okb).mono ?_
  rintro e w11 ⟨v, r5, rfl, hown5, is5, hbel⟩
  rw [if_neg hlt.out]
  obtain ⟨o5, c5, rfl, hl5, hm5, at5⟩ := hown5.shape
  clear hown5
  replace ata := ata.below hbel
  replace atb := atb.below hbel
  replace atc := atc.below hbel
  replace hbw := hbw.trans (hbel.mono hbw.size)
  clear hbel
  clear at5
  clear is5 hl5 hm5
  go_wp2
  go_ret
  exact ⟨rfl, hbw⟩

set_option maxRecDepth 100000 in
set_option maxHeartbeats 2000000 in
theorem stands_less_le (oa ob oc : Option Addr) (la ca lb cb lc cc : Nat) (xa xb xc : List Nat) (w : World) (hla : la ≤ ca) (hca : ca ≤ 1048576) (hlb : lb ≤ cb) (hcb : cb ≤ 1048576) (hlc : lc ≤ cc) (hcc : cc ≤ 1048576)
    (hxa : xa.length = la) (hxb : xb.length = lb) (hxc : xc.length = lc) (ata : At .u64 w oa xa) (atb : At .u64 w ob xb) (atc : At .u64 w oc xc) (oka : Ok B64 xa) (okb : Ok B64 xb) (okc : Ok B64 xc) (y z : Int)
    (hxx : Hid (cmpN (num B64 xa) (num B64 xb) = -1)) (hxn : Hid (cmpN (num B64 xb) (num B64 xa) = 1)) (hyy : Hid (cmpN (num B64 xb) (num B64 xc) = y)) (hzz : Hid (cmpN (num B64 xa) (num B64 xc) = z))
    (hss : Hid (cmpN (num B64 xa + num B64 xc) (num B64 xb + num B64 xc) = -1)) (hab : Hid (¬ num B64 xa = num B64 xb)) (hlt : Hid (num B64 xa < num B64 xb)) (hyle : y ≤ 0) (hzle : ¬ 0 < z) (hbits : (bitsN (num B64 xa) : Int) ≤ (bitsN (num B64 xb) : Int)) :
    Calls Try.prog 4 #[.slice oa la ca, .slice ob lb cb, .slice oc lc cc] w fun e w' => e = .returned (.bool true) ∧ Below w.heap.size w w' := by
  go_enter Try.func4, Try.ntmps4
  have hbw : Below w.heap.size w w := Below.refl _ _
  go_wp2_with fail
  refine (cmp_num oa ob la ca lb cb xa xb _ (by omega) (by omega) hxa hxb ata atb oka okb (-1) hxx.out).mono ?_
  rintro e w1 ⟨rfl, hbel⟩
  replace ata := ata.below hbel
  replace atb := atb.below hbel
  replace atc := atc.below hbel
  replace hbw := hbw.trans (hbel.mono hbw.size)
  clear hbel
  go_wp2_with fail
  refine (cmp_num ob oc lb cb lc cc xb xc _ (by omega) (by omega) hxb hxc atb atc okb okc y hyy.out).mono ?_
  rintro e w2 ⟨rfl, hbel⟩
  replace ata := ata.below hbel
  replace atb := atb.below hbel
  replace atc := atc.below hbel
  replace hbw := hbw.trans (hbel.mono hbw.size)
  clear hbel
  go_wp2_with fail
  refine (awake_true _).mono ?_
  rintro e w3 ⟨rfl, hbel⟩
  replace ata := ata.below hbel
  replace atb := atb.below hbel
  replace atc := atc.below hbel
  replace hbw := hbw.trans (hbel.mono hbw.size)
  clear hbel
  go_wp2_with fail
  refine (cmp_num ob oa lb cb la ca xb xa _ (by omega) (by omega) hxb hxa atb ata okb oka 1 hxn.out).mono ?_
  rintro e w4 ⟨rfl, hbel⟩
  replace ata := ata.below hbel
  replace atb := atb.below hbel
  replace atc := atc.below hbel
  replace hbw := hbw.trans (hbel.mono hbw.size)
  clear hbel
  go_wp2_with fail
  refine (norm_any oa la ca xa _ hla (by omega) hxa ata oka).mono ?_
  rintro e w5 ⟨v, r1, rfl, hown1, is1, hbel⟩
  obtain ⟨o1, c1, rfl, hl1, hm1, at1⟩ := hown1.shape
  clear hown1
  replace ata := ata.below hbel
  replace atb := atb.below hbel
  replace atc := atc.below hbel
  replace hbw := hbw.trans (hbel.mono hbw.size)
  clear hbel
  go_wp2_with fail
  refine (norm_any ob lb cb xb _ hlb (by omega) hxb atb okb).mono ?_
  rintro e w6 ⟨v, r2, rfl, hown2, is2, hbel⟩
  obtain ⟨o2, c2, rfl, hl2, hm2, at2⟩ := hown2.shape
  clear hown2
  replace ata := ata.below hbel
  replace atb := atb.below hbel
  replace atc := atc.below hbel
  replace at1 := at1.below hbel
  replace hbw := hbw.trans (hbel.mono hbw.size)
  clear hbel
  have e12 : Hid (¬ r1 = r2) := by intro e; rw [e] at is1; exact hab.out (is1.2.2.symm.trans is2.2.2)
  go_wp2_with fail
  refine (same_any o1 o2 r1.length c1 r2.length c2 r1 r2 _ (by omega) rfl rfl at1 at2).mono ?_
  rintro e w7 ⟨rfl, hbel⟩
  rw [show decide (r1 = r2) = false from decide_eq_false e12.out]
  replace ata := ata.below hbel
  replace atb := atb.below hbel
  replace atc := atc.below hbel
  replace at1 := at1.below hbel
  replace at2 := at2.below hbel
  replace hbw := hbw.trans (hbel.mono hbw.size)
  clear hbel
  clear e12
  clear at1
  clear at2
  clear is1 is2 hl1 hl2 hm1 hm2
  go_wp2_with fail
  refine (cmp_num oa oc la ca lc cc xa xc _ (by omega) (by omega) hxa hxc ata atc oka okc z hzz.out).mono ?_
  rintro e w8 ⟨rfl, hbel⟩
  replace ata := ata.below hbel
  replace atb := atb.below hbel
  replace atc := atc.below hbel
  replace hbw := hbw.trans (hbel.mono hbw.size)
  clear hbel
  go_wp2_with fail
  refine (add_any oa oc la ca lc cc xa xc _ hla (by omega) hlc (by omega) hxa hxc ata atc oka okc).mono ?_
  rintro e w9 ⟨v, r3, rfl, hown3, is3, hbel⟩
  obtain ⟨o3, c3, rfl, hl3, hm3, at3⟩ := hown3.shape
  clear hown3
  replace ata := ata.below hbel
  replace atb := atb.below hbel
  replace atc := atc.below hbel
  replace hbw := hbw.trans (hbel.mono hbw.size)
  clear hbel
  go_wp2_with fail
  refine (add_any ob oc lb cb lc cc xb xc _ hlb (by omega) hlc (by omega) hxb hxc atb atc okb okc).mono ?_
  rintro e w10 ⟨v, r4, rfl, hown4, is4, hbel⟩
  obtain ⟨o4, c4, rfl, hl4, hm4, at4⟩ := hown4.shape
  clear hown4
  replace ata := ata.below hbel
  replace atb := atb.below hbel
  replace atc := atc.below hbel
  replace at3 := at3.below hbel
  replace hbw := hbw.trans (hbel.mono hbw.size)
  clear hbel
  go_wp2_with fail
  refine (cmp_num o3 o4 r3.length c3 r4.length c4 r3 r4 _ (by omega) (by omega) rfl rfl at3 at4 is3.1 is4.1 (-1) (by rw [is3.2.2, is4.2.2]; exact hss.out)).mono ?_
  rintro e w11 ⟨rfl, hbel⟩
  replace ata := ata.below hbel
  replace atb := atb.below hbel
  replace atc := atc.below hbel
  replace at3 := at3.below hbel
  replace at4 := at4.below hbel
  replace hbw := hbw.trans (hbel.mono hbw.size)
  clear hbel
  clear at3
  clear at4
  clear is3 is4 hl3 hl4 hm3 hm4
  go_wp2_with fail
  refine (sub_any oa ob la ca lb cb xa xb _ hla (by omega) hlb (by omega) hxa hxb ata atb oka okb).mono ?_
  rintro e w12 ⟨v, r5, rfl, hown5, is5, hbel⟩
  rw [if_pos hlt.out]
  obtain ⟨o5, c5, rfl, hl5, hm5, at5⟩ := hown5.shape
  clear hown5
  replace ata := ata.below hbel
  replace atb := atb.below hbel
  replace atc := atc.below hbel
  replace hbw := hbw.trans (hbel.mono hbw.size)
  clear hbel
  clear at5
  clear is5 hl5 hm5
  go_wp2_with fail
  refine (bits_any oa la ca xa _ hla (by omega) hxa ata oka).mono ?_
  rintro e w' ⟨rfl, rfl⟩
  go_wp2_with fail
  refine (bits_any ob lb cb xb _ hlb (by omega) hxb atb okb).mono ?_
  rintro e w' ⟨rfl, rfl⟩
  go_wp2
  go_ret
  exact ⟨rfl, hbw⟩

set_option maxRecDepth 100000 in
set_option maxHeartbeats 2000000 in
theorem stands_less_gt (oa ob oc : Option Addr) (la ca lb cb lc cc : Nat) (xa xb xc : List Nat) (w : World) (hla : la ≤ ca) (hca : ca ≤ 1048576) (hlb : lb ≤ cb) (hcb : cb ≤ 1048576) (hlc : lc ≤ cc) (hcc : cc ≤ 1048576)
    (hxa : xa.length = la) (hxb : xb.length = lb) (hxc : xc.length = lc) (ata : At .u64 w oa xa) (atb : At .u64 w ob xb) (atc : At .u64 w oc xc) (oka : Ok B64 xa) (okb : Ok B64 xb) (okc : Ok B64 xc) (y : Int)
    (hxx : Hid (cmpN (num B64 xa) (num B64 xb) = -1)) (hxn : Hid (cmpN (num B64 xb) (num B64 xa) = 1)) (hyy : Hid (cmpN (num B64 xb) (num B64 xc) = y))
    (hss : Hid (cmpN (num B64 xa + num B64 xc) (num B64 xb + num B64 xc) = -1)) (hab : Hid (¬ num B64 xa = num B64 xb)) (hlt : Hid (num B64 xa < num B64 xb)) (hyle : ¬ y ≤ 0) (hbits : (bitsN (num B64 xa) : Int) ≤ (bitsN (num B64 xb) : Int)) :
    Calls Try.prog 4 #[.slice oa la ca, .slice ob lb cb, .slice oc lc cc] w fun e w' => e = .returned (.bool true) ∧ Below w.heap.size w w' := by
  go_enter Try.func4, Try.ntmps4
  have hbw : Below w.heap.size w w := Below.refl _ _
  go_wp2_with fail
  refine (cmp_num oa ob la ca lb cb xa xb _ (by omega) (by omega) hxa hxb ata atb oka okb (-1) hxx.out).mono ?_
  rintro e w1 ⟨rfl, hbel⟩
  replace ata := ata.below hbel
  replace atb := atb.below hbel
  replace atc := atc.below hbel
  replace hbw := hbw.trans (hbel.mono hbw.size)
  clear hbel
  go_wp2_with fail
  refine (cmp_num ob oc lb cb lc cc xb xc _ (by omega) (by omega) hxb hxc atb atc okb okc y hyy.out).mono ?_
  rintro e w2 ⟨rfl, hbel⟩
  replace ata := ata.below hbel
  replace atb := atb.below hbel
  replace atc := atc.below hbel
  replace hbw := hbw.trans (hbel.mono hbw.size)
  clear hbel
  go_wp2_with fail
  refine (awake_true _).mono ?_
  rintro e w3 ⟨rfl, hbel⟩
  replace ata := ata.below hbel
  replace atb := atb.below hbel
  replace atc := atc.below hbel
  replace hbw := hbw.trans (hbel.mono hbw.size)
  clear hbel
  go_wp2_with fail
  refine (cmp_num ob oa lb cb la ca xb xa _ (by omega) (by omega) hxb hxa atb ata okb oka 1 hxn.out).mono ?_
  rintro e w4 ⟨rfl, hbel⟩
  replace ata := ata.below hbel
  replace atb := atb.below hbel
  replace atc := atc.below hbel
  replace hbw := hbw.trans (hbel.mono hbw.size)
  clear hbel
  go_wp2_with fail
  refine (norm_any oa la ca xa _ hla (by omega) hxa ata oka).mono ?_
  rintro e w5 ⟨v, r1, rfl, hown1, is1, hbel⟩
  obtain ⟨o1, c1, rfl, hl1, hm1, at1⟩ := hown1.shape
  clear hown1
  replace ata := ata.below hbel
  replace atb := atb.below hbel
  replace atc := atc.below hbel
  replace hbw := hbw.trans (hbel.mono hbw.size)
  clear hbel
  go_wp2_with fail
  refine (norm_any ob lb cb xb _ hlb (by omega) hxb atb okb).mono ?_
  rintro e w6 ⟨v, r2, rfl, hown2, is2, hbel⟩
  obtain ⟨o2, c2, rfl, hl2, hm2, at2⟩ := hown2.shape
  clear hown2
  replace ata := ata.below hbel
  replace atb := atb.below hbel
  replace atc := atc.below hbel
  replace at1 := at1.below hbel
  replace hbw := hbw.trans (hbel.mono hbw.size)
  clear hbel
  have e12 : Hid (¬ r1 = r2) := by intro e; rw [e] at is1; exact hab.out (is1.2.2.symm.trans is2.2.2)
  go_wp2_with fail
  refine (same_any o1 o2 r1.length c1 r2.length c2 r1 r2 _ (by omega) rfl rfl at1 at2).mono ?_
  rintro e w7 ⟨rfl, hbel⟩
  rw [show decide (r1 = r2) = false from decide_eq_false e12.out]
  replace ata := ata.below hbel
  replace atb := atb.below hbel
  replace atc := atc.below hbel
  replace at1 := at1.below hbel
  replace at2 := at2.below hbel
  replace hbw := hbw.trans (hbel.mono hbw.size)
  clear hbel
  clear e12
  clear at1
  clear at2
  clear is1 is2 hl1 hl2 hm1 hm2
  go_wp2_with fail
  refine (add_any oa oc la ca lc cc xa xc _ hla (by omega) hlc (by omega) hxa hxc ata atc oka okc).mono ?_
  rintro e w8 ⟨v, r3, rfl, hown3, is3, hbel⟩
  obtain ⟨o3, c3, rfl, hl3, hm3, at3⟩ := hown3.shape
  clear hown3
  replace ata := ata.below hbel
  replace atb := atb.below hbel
  replace atc := atc.below hbel
  replace hbw := hbw.trans (hbel.mono hbw.size)
  clear hbel
  go_wp2_with fail
  refine (add_any ob oc lb cb lc cc xb xc _ hlb (by omega) hlc (by omega) hxb hxc atb atc okb okc).mono ?_
  rintro e w9 ⟨v, r4, rfl, hown4, is4, hbel⟩
  obtain ⟨o4, c4, rfl, hl4, hm4, at4⟩ := hown4.shape
  clear hown4
  replace ata := ata.below hbel
  replace atb := atb.below hbel
  replace atc := atc.below hbel
  replace at3 := at3.below hbel
  replace hbw := hbw.trans (hbel.mono hbw.size)
  clear hbel
  go_wp2_with fail
  refine (cmp_num o3 o4 r3.length c3 r4.length c4 r3 r4 _ (by omega) (by omega) rfl rfl at3 at4 is3.1 is4.1 (-1) (by rw [is3.2.2, is4.2.2]; exact hss.out)).mono ?_
  rintro e w10 ⟨rfl, hbel⟩
  replace ata := ata.below hbel
  replace atb := atb.below hbel
  replace atc := atc.below hbel
  replace at3 := at3.below hbel
  replace at4 := at4.below hbel
  replace hbw := hbw.trans (hbel.mono hbw.size)
  clear hbel
  clear at3
  clear at4
  clear is3 is4 hl3 hl4 hm3 hm4
  go_wp2_with fail
  refine (sub_any oa ob la ca lb cb xa xb _ hla (by omega) hlb (by omega) hxa hxb ata atb oka okb).mono ?_
  rintro e w11 ⟨v, r5, rfl, hown5, is5, hbel⟩
  rw [if_pos hlt.out]
  obtain ⟨o5, c5, rfl, hl5, hm5, at5⟩ := hown5.shape
  clear hown5
  replace ata := ata.below hbel
  replace atb := atb.below hbel
  replace atc := atc.below hbel
  replace hbw := hbw.trans (hbel.mono hbw.size)
  clear hbel
  clear at5
  clear is5 hl5 hm5
  go_wp2_with fail
  refine (bits_any oa la ca xa _ hla (by omega) hxa ata oka).mono ?_
  rintro e w' ⟨rfl, rfl⟩
  go_wp2_with fail
  refine (bits_any ob lb cb xb _ hlb (by omega) hxb atb okb).mono ?_
  rintro e w' ⟨rfl, rfl⟩
  go_wp2
  go_ret
  exact ⟨rfl, hbw⟩

theorem cmpN_swap (a b : Nat) : cmpN b a = - cmpN a b := by
  unfold cmpN
  rcases Nat.lt_trichotomy a b with h | h | h
  · rw [if_neg (by omega), if_pos h, if_pos h]; rfl
  · subst h; simp
  · rw [if_pos h, if_neg (by omega), if_pos h]

theorem cmpN_add (a b c : Nat) : cmpN (a + c) (b + c) = cmpN a b := by
  unfold cmpN
  rcases Nat.lt_trichotomy a b with h | h | h
  · rw [if_pos h, if_pos (by omega)]
  · subst h; simp
  · rw [if_neg (by omega), if_pos (by omega), if_neg (by omega), if_pos h]

theorem cmpN_le {a b : Nat} : cmpN a b ≤ 0 ↔ a ≤ b := by
  unfold cmpN
  rcases Nat.lt_trichotomy a b with h | h | h
  · rw [if_pos h]; omega
  · subst h; simp
  · rw [if_neg (by omega), if_pos h]; omega

theorem bitsN_mono {a b : Nat} (h : a ≤ b) : bitsN a ≤ bitsN b := by
  by_cases h0 : a = 0
  · subst h0; simp [bitsN]
  · obtain ⟨k, hk, h1, h2⟩ := bitsN_spec h0
    obtain ⟨j, hj, h3, h4⟩ := bitsN_spec (show b ≠ 0 by omega)
    rw [hk, hj]
    have : k < j + 1 := by
      rcases Nat.lt_or_ge k (j + 1) with e | e
      · exact e
      · have := Nat.pow_le_pow_right (show 0 < 2 by omega) e; omega
    omega

theorem stands_walk (w : World) (oa : Option Addr) (la ca : Nat) (xa : List Nat) (hla : la ≤ ca) (hca : ca ≤ 1048576) (hxa : xa.length = la) (ata : At .u64 w oa xa) (oka : Ok B64 xa)
    (ob : Option Addr) (lb cb : Nat) (xb : List Nat) (hlb : lb ≤ cb) (hcb : cb ≤ 1048576) (hxb : xb.length = lb) (atb : At .u64 w ob xb) (okb : Ok B64 xb)
    (oc : Option Addr) (lc cc : Nat) (xc : List Nat) (hlc : lc ≤ cc) (hcc : cc ≤ 1048576) (hxc : xc.length = lc) (atc : At .u64 w oc xc) (okc : Ok B64 xc) :
    Calls Try.prog 4 #[.slice oa la ca, .slice ob lb cb, .slice oc lc cc] w fun e w' => e = .returned (.bool true) ∧ Below w.heap.size w w' := by
  have sw := cmpN_swap (num B64 xa) (num B64 xb)
  have ad := cmpN_add (num B64 xa) (num B64 xb) (num B64 xc)
  rcases Nat.lt_trichotomy (num B64 xa) (num B64 xb) with h | h | h
  · have e : cmpN (num B64 xa) (num B64 xb) = -1 := by unfold cmpN; rw [if_pos h]
    rw [e] at sw ad
    have hb : (bitsN (num B64 xa) : Int) ≤ (bitsN (num B64 xb) : Int) := by have := bitsN_mono (Nat.le_of_lt h); omega
    by_cases hy : cmpN (num B64 xb) (num B64 xc) ≤ 0
    · have hz : cmpN (num B64 xa) (num B64 xc) ≤ 0 := cmpN_le.2 (by have := cmpN_le.1 hy; omega)
      exact stands_less_le oa ob oc la ca lb cb lc cc xa xb xc w hla hca hlb hcb hlc hcc hxa hxb hxc ata atb atc oka okb okc _ _ e sw rfl rfl ad (show ¬ _ by omega) h hy (by omega) hb
    · exact stands_less_gt oa ob oc la ca lb cb lc cc xa xb xc w hla hca hlb hcb hlc hcc hxa hxb hxc ata atb atc oka okb okc _ e sw rfl ad (show ¬ _ by omega) h hy hb
  · have e : cmpN (num B64 xa) (num B64 xb) = 0 := by unfold cmpN; rw [if_neg (by omega), if_neg (by omega)]
    rw [e] at sw ad
    by_cases hy : cmpN (num B64 xb) (num B64 xc) ≤ 0
    · have hz : cmpN (num B64 xa) (num B64 xc) ≤ 0 := cmpN_le.2 (by have := cmpN_le.1 hy; omega)
      exact stands_same_le oa ob oc la ca lb cb lc cc xa xb xc w hla hca hlb hcb hlc hcc hxa hxb hxc ata atb atc oka okb okc _ _ e sw rfl rfl ad h (show ¬ _ by omega) hy (by omega)
    · exact stands_same_gt oa ob oc la ca lb cb lc cc xa xb xc w hla hca hlb hcb hlc hcc hxa hxb hxc ata atb atc oka okb okc _ e sw rfl ad h (show ¬ _ by omega) hy
  · have e : cmpN (num B64 xa) (num B64 xb) = 1 := by unfold cmpN; rw [if_neg (by omega), if_pos h]
    rw [e] at sw ad
    exact stands_more oa ob oc la ca lb cb lc cc xa xb xc w hla hca hlb hcb hlc hcc hxa hxb hxc ata atb atc oka okb okc _ e sw rfl ad (show ¬ _ by omega) (show ¬ _ by omega)

end Go.Proofs.Ytiehmmlapfdkbab
