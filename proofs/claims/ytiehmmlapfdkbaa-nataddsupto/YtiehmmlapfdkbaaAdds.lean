/-
  The walk of quipulaw01.NatAdds: whatever two lists are handed in, it answers true, and leaves what was there as it was.
-/
import Derived.Test.YtiehmmlapfdkbaaAwake
import Derived.Test.YtiehmmlapfdkbaaRCmp
namespace Go.Proofs.Ytiehmmlapfdkbaa
open Go.RowKit

set_option maxRecDepth 100000 in
set_option maxHeartbeats 2000000 in
theorem adds_less (oa ob : Option Addr) (la ca lb cb : Nat) (xa xb : List Nat) (w : World) (hla : la ≤ ca) (hca : ca ≤ 1048576) (hlb : lb ≤ cb) (hcb : cb ≤ 1048576)
    (hxa : xa.length = la) (hxb : xb.length = lb) (ata : At .u64 w oa xa) (atb : At .u64 w ob xb) (oka : Ok B64 xa) (okb : Ok B64 xb) (z : Int)
    (hzz : Hid (cmpN (num B64 xa) (num B64 xb) = z)) (hlt : Hid (num B64 xa < num B64 xb)) :
    Calls Try.prog 3 #[.slice oa la ca, .slice ob lb cb] w fun e w' => e = .returned (.bool true) ∧ Below w.heap.size w w' := by
  go_enter Try.func3, Try.ntmps3
  have hbw : Below w.heap.size w w := Below.refl _ _
  go_wp2_with fail
  refine (in_any oa la ca xa _ (by omega) hxa ata oka).mono ?_
  rintro e w1 ⟨oi, ci, yi, rfl, hli, ati, isi, hmi, hbel⟩
  replace ata := ata.below hbel
  replace atb := atb.below hbel
  replace hbw := hbw.trans (hbel.mono hbw.size)
  clear hbel
  go_wp2_with fail
  refine (in_any ob lb cb xb _ (by omega) hxb atb okb).mono ?_
  rintro e w2 ⟨oj, cj, yj, rfl, hlj, atj, isj, hmj, hbel⟩
  replace ata := ata.below hbel
  replace atb := atb.below hbel
  replace ati := ati.below hbel
  replace hbw := hbw.trans (hbel.mono hbw.size)
  clear hbel
  go_wp2_with fail
  refine (sub_any oa ob la ca lb cb xa xb _ hla (by omega) hlb (by omega) hxa hxb ata atb oka okb).mono ?_
  rintro e w3 ⟨v, r5, rfl, hown5, is5, hbel⟩
  rw [if_pos hlt.out]
  obtain ⟨o5, c5, rfl, hl5, hm5, at5⟩ := hown5.shape
  clear hown5
  replace ata := ata.below hbel
  replace atb := atb.below hbel
  replace ati := ati.below hbel
  replace atj := atj.below hbel
  replace hbw := hbw.trans (hbel.mono hbw.size)
  clear hbel
  go_wp2_with fail
  refine (awake_true _).mono ?_
  rintro e w4 ⟨rfl, hbel⟩
  replace ata := ata.below hbel
  replace atb := atb.below hbel
  replace ati := ati.below hbel
  replace atj := atj.below hbel
  replace at5 := at5.below hbel
  replace hbw := hbw.trans (hbel.mono hbw.size)
  clear hbel
  go_wp2_with fail
  refine (add_any oa ob la ca lb cb xa xb _ hla (by omega) hlb (by omega) hxa hxb ata atb oka okb).mono ?_
  rintro e w5 ⟨v, r1, rfl, hown1, is1, hbel⟩
  obtain ⟨o1, c1, rfl, hl1, hm1, at1⟩ := hown1.shape
  clear hown1
  replace ata := ata.below hbel
  replace atb := atb.below hbel
  replace ati := ati.below hbel
  replace atj := atj.below hbel
  replace at5 := at5.below hbel
  replace hbw := hbw.trans (hbel.mono hbw.size)
  clear hbel
  go_wp2_with fail
  refine (radd_any oi oj yi.length ci yj.length cj yi yj _ (by omega) (by omega) rfl rfl ati atj isi.1 isj.1).mono ?_
  rintro e w6 ⟨os, cs, ys, rfl, hls, ats, iss, hms, hbel⟩
  replace ata := ata.below hbel
  replace atb := atb.below hbel
  replace ati := ati.below hbel
  replace atj := atj.below hbel
  replace at5 := at5.below hbel
  replace at1 := at1.below hbel
  replace hbw := hbw.trans (hbel.mono hbw.size)
  clear hbel
  rw [isi.2.2, isj.2.2] at iss
  go_wp2_with fail
  refine (out_any os ys.length cs ys _ (by omega) hls rfl ats iss.1).mono ?_
  rintro e w7 ⟨oo, co, yo, rfl, hlo, ato, iso, hmo, hbel⟩
  replace ata := ata.below hbel
  replace atb := atb.below hbel
  replace ati := ati.below hbel
  replace atj := atj.below hbel
  replace at5 := at5.below hbel
  replace at1 := at1.below hbel
  replace ats := ats.below hbel
  replace hbw := hbw.trans (hbel.mono hbw.size)
  clear hbel
  clear ats
  rw [iss.2.2] at iso
  clear iss hls
  have e1 : Hid (r1 = yo) := is1.uniq (by decide) iso
  go_wp2_with fail
  refine (same_any o1 oo r1.length c1 yo.length co r1 yo _ (by omega) rfl rfl at1 ato).mono ?_
  rintro e w8 ⟨rfl, hbel⟩
  rw [show decide (r1 = yo) = true from decide_eq_true e1.out]
  replace ata := ata.below hbel
  replace atb := atb.below hbel
  replace ati := ati.below hbel
  replace atj := atj.below hbel
  replace at5 := at5.below hbel
  replace at1 := at1.below hbel
  replace ato := ato.below hbel
  replace hbw := hbw.trans (hbel.mono hbw.size)
  clear hbel
  clear at1
  clear ato
  clear is1 hl1 hm1 e1 iso hlo hmo hms
  go_wp2_with fail
  refine (cmp_num oa ob la ca lb cb xa xb _ (by omega) (by omega) hxa hxb ata atb oka okb z hzz.out).mono ?_
  rintro e w9 ⟨rfl, hbel⟩
  replace ata := ata.below hbel
  replace atb := atb.below hbel
  replace ati := ati.below hbel
  replace atj := atj.below hbel
  replace at5 := at5.below hbel
  replace hbw := hbw.trans (hbel.mono hbw.size)
  clear hbel
  go_wp2_with fail
  refine (rcmp_any oi oj yi.length ci yj.length cj yi yj _ hli (by omega) hlj (by omega) rfl rfl ati atj isi.1 isj.1 z (by rw [isi.2.2, isj.2.2]; exact hzz.out)).mono ?_
  rintro e w10 ⟨rfl, hbel⟩
  replace ata := ata.below hbel
  replace atb := atb.below hbel
  replace ati := ati.below hbel
  replace atj := atj.below hbel
  replace at5 := at5.below hbel
  replace hbw := hbw.trans (hbel.mono hbw.size)
  clear hbel
  go_wp2_with fail
  refine (suberr_any oa ob la ca lb cb xa xb _ (by omega) (by omega) hxa hxb ata atb oka okb 10 (if_pos hlt.out)).mono ?_
  rintro e w11 ⟨rfl, hbel⟩
  replace ata := ata.below hbel
  replace atb := atb.below hbel
  replace ati := ati.below hbel
  replace atj := atj.below hbel
  replace at5 := at5.below hbel
  replace hbw := hbw.trans (hbel.mono hbw.size)
  clear hbel
  have e5 : r5.length = 0 := by rw [is5.uniq (by decide) (by rw [show num B64 xa - num B64 xb = 0 by have := hlt.out; omega]; exact Is.none (by decide))]; rfl
  rw [e5]
  clear e5
  go_wp2
  go_ret
  exact ⟨rfl, hbw⟩

set_option maxRecDepth 100000 in
set_option maxHeartbeats 2000000 in
theorem adds_more (oa ob : Option Addr) (la ca lb cb : Nat) (xa xb : List Nat) (w : World) (hla : la ≤ ca) (hca : ca ≤ 1048576) (hlb : lb ≤ cb) (hcb : cb ≤ 1048576)
    (hxa : xa.length = la) (hxb : xb.length = lb) (ata : At .u64 w oa xa) (atb : At .u64 w ob xb) (oka : Ok B64 xa) (okb : Ok B64 xb) (z : Int)
    (hzz : Hid (cmpN (num B64 xa) (num B64 xb) = z)) (hlt : Hid (¬ num B64 xa < num B64 xb)) :
    Calls Try.prog 3 #[.slice oa la ca, .slice ob lb cb] w fun e w' => e = .returned (.bool true) ∧ Below w.heap.size w w' := by
  go_enter Try.func3, Try.ntmps3
  have hbw : Below w.heap.size w w := Below.refl _ _
  go_wp2_with fail
  refine (in_any oa la ca xa _ (by omega) hxa ata oka).mono ?_
  rintro e w1 ⟨oi, ci, yi, rfl, hli, ati, isi, hmi, hbel⟩
  replace ata := ata.below hbel
  replace atb := atb.below hbel
  replace hbw := hbw.trans (hbel.mono hbw.size)
  clear hbel
  go_wp2_with fail
  refine (in_any ob lb cb xb _ (by omega) hxb atb okb).mono ?_
  rintro e w2 ⟨oj, cj, yj, rfl, hlj, atj, isj, hmj, hbel⟩
  replace ata := ata.below hbel
  replace atb := atb.below hbel
  replace ati := ati.below hbel
  replace hbw := hbw.trans (hbel.mono hbw.size)
  clear hbel
  go_wp2_with fail
  refine (sub_any oa ob la ca lb cb xa xb _ hla (by omega) hlb (by omega) hxa hxb ata atb oka okb).mono ?_
  rintro e w3 ⟨v, r5, rfl, hown5, is5, hbel⟩
  rw [if_neg hlt.out]
  obtain ⟨o5, c5, rfl, hl5, hm5, at5⟩ := hown5.shape
  clear hown5
  replace ata := ata.below hbel
  replace atb := atb.below hbel
  replace ati := ati.below hbel
  replace atj := atj.below hbel
  replace hbw := hbw.trans (hbel.mono hbw.size)
  clear hbel
  go_wp2_with fail
  refine (awake_true _).mono ?_
  rintro e w4 ⟨rfl, hbel⟩
  replace ata := ata.below hbel
  replace atb := atb.below hbel
  replace ati := ati.below hbel
  replace atj := atj.below hbel
  replace at5 := at5.below hbel
  replace hbw := hbw.trans (hbel.mono hbw.size)
  clear hbel
  go_wp2_with fail
  refine (add_any oa ob la ca lb cb xa xb _ hla (by omega) hlb (by omega) hxa hxb ata atb oka okb).mono ?_
  rintro e w5 ⟨v, r1, rfl, hown1, is1, hbel⟩
  obtain ⟨o1, c1, rfl, hl1, hm1, at1⟩ := hown1.shape
  clear hown1
  replace ata := ata.below hbel
  replace atb := atb.below hbel
  replace ati := ati.below hbel
  replace atj := atj.below hbel
  replace at5 := at5.below hbel
  replace hbw := hbw.trans (hbel.mono hbw.size)
  clear hbel
  go_wp2_with fail
  refine (radd_any oi oj yi.length ci yj.length cj yi yj _ (by omega) (by omega) rfl rfl ati atj isi.1 isj.1).mono ?_
  rintro e w6 ⟨os, cs, ys, rfl, hls, ats, iss, hms, hbel⟩
  replace ata := ata.below hbel
  replace atb := atb.below hbel
  replace ati := ati.below hbel
  replace atj := atj.below hbel
  replace at5 := at5.below hbel
  replace at1 := at1.below hbel
  replace hbw := hbw.trans (hbel.mono hbw.size)
  clear hbel
  rw [isi.2.2, isj.2.2] at iss
  go_wp2_with fail
  refine (out_any os ys.length cs ys _ (by omega) hls rfl ats iss.1).mono ?_
  rintro e w7 ⟨oo, co, yo, rfl, hlo, ato, iso, hmo, hbel⟩
  replace ata := ata.below hbel
  replace atb := atb.below hbel
  replace ati := ati.below hbel
  replace atj := atj.below hbel
  replace at5 := at5.below hbel
  replace at1 := at1.below hbel
  replace ats := ats.below hbel
  replace hbw := hbw.trans (hbel.mono hbw.size)
  clear hbel
  clear ats
  rw [iss.2.2] at iso
  clear iss hls
  have e1 : Hid (r1 = yo) := is1.uniq (by decide) iso
  go_wp2_with fail
  refine (same_any o1 oo r1.length c1 yo.length co r1 yo _ (by omega) rfl rfl at1 ato).mono ?_
  rintro e w8 ⟨rfl, hbel⟩
  rw [show decide (r1 = yo) = true from decide_eq_true e1.out]
  replace ata := ata.below hbel
  replace atb := atb.below hbel
  replace ati := ati.below hbel
  replace atj := atj.below hbel
  replace at5 := at5.below hbel
  replace at1 := at1.below hbel
  replace ato := ato.below hbel
  replace hbw := hbw.trans (hbel.mono hbw.size)
  clear hbel
  clear at1
  clear ato
  clear is1 hl1 hm1 e1 iso hlo hmo hms
  go_wp2_with fail
  refine (cmp_num oa ob la ca lb cb xa xb _ (by omega) (by omega) hxa hxb ata atb oka okb z hzz.out).mono ?_
  rintro e w9 ⟨rfl, hbel⟩
  replace ata := ata.below hbel
  replace atb := atb.below hbel
  replace ati := ati.below hbel
  replace atj := atj.below hbel
  replace at5 := at5.below hbel
  replace hbw := hbw.trans (hbel.mono hbw.size)
  clear hbel
  go_wp2_with fail
  refine (rcmp_any oi oj yi.length ci yj.length cj yi yj _ hli (by omega) hlj (by omega) rfl rfl ati atj isi.1 isj.1 z (by rw [isi.2.2, isj.2.2]; exact hzz.out)).mono ?_
  rintro e w10 ⟨rfl, hbel⟩
  replace ata := ata.below hbel
  replace atb := atb.below hbel
  replace ati := ati.below hbel
  replace atj := atj.below hbel
  replace at5 := at5.below hbel
  replace hbw := hbw.trans (hbel.mono hbw.size)
  clear hbel
  go_wp2_with fail
  refine (suberr_any oa ob la ca lb cb xa xb _ (by omega) (by omega) hxa hxb ata atb oka okb 0 (if_neg hlt.out)).mono ?_
  rintro e w11 ⟨rfl, hbel⟩
  replace ata := ata.below hbel
  replace atb := atb.below hbel
  replace ati := ati.below hbel
  replace atj := atj.below hbel
  replace at5 := at5.below hbel
  replace hbw := hbw.trans (hbel.mono hbw.size)
  clear hbel
  go_wp2_with fail
  have hjl : Hid (yj.length ≤ yi.length) := len_le (by omega) isi.1 isj.2.1 (by rw [isi.2.2, isj.2.2]; have := hlt.out; omega)
  refine (rsub_any oi oj yi.length ci yj.length cj yi yj _ (by omega) hjl.out rfl rfl ati atj isi.1 isj.1 (by rw [isi.2.2, isj.2.2]; have := hlt.out; omega)).mono ?_
  rintro e w12 ⟨ot, ct, yt, rfl, hlt', att, ist, hmt, hbel⟩
  replace ata := ata.below hbel
  replace atb := atb.below hbel
  replace ati := ati.below hbel
  replace atj := atj.below hbel
  replace at5 := at5.below hbel
  replace hbw := hbw.trans (hbel.mono hbw.size)
  clear hbel
  rw [isi.2.2, isj.2.2] at ist
  go_wp2_with fail
  refine (out_any ot yt.length ct yt _ (by omega) hlt' rfl att ist.1).mono ?_
  rintro e w13 ⟨op, cp, yp, rfl, hlp, atp, isp, hmp, hbel⟩
  replace ata := ata.below hbel
  replace atb := atb.below hbel
  replace ati := ati.below hbel
  replace atj := atj.below hbel
  replace at5 := at5.below hbel
  replace att := att.below hbel
  replace hbw := hbw.trans (hbel.mono hbw.size)
  clear hbel
  rw [ist.2.2] at isp
  clear att
  clear ist
  have e5 : Hid (r5 = yp) := is5.uniq (by decide) isp
  go_wp2_with fail
  refine (same_any o5 op r5.length c5 yp.length cp r5 yp _ (by omega) rfl rfl at5 atp).mono ?_
  rintro e w14 ⟨rfl, hbel⟩
  rw [show decide (r5 = yp) = true from decide_eq_true e5.out]
  replace ata := ata.below hbel
  replace atb := atb.below hbel
  replace ati := ati.below hbel
  replace atj := atj.below hbel
  replace at5 := at5.below hbel
  replace atp := atp.below hbel
  replace hbw := hbw.trans (hbel.mono hbw.size)
  clear hbel
  go_wp2
  go_ret
  exact ⟨rfl, hbw⟩

theorem adds_walk (w : World) (oa : Option Addr) (la ca : Nat) (xa : List Nat) (hla : la ≤ ca) (hca : ca ≤ 1048576) (hxa : xa.length = la) (ata : At .u64 w oa xa) (oka : Ok B64 xa)
    (ob : Option Addr) (lb cb : Nat) (xb : List Nat) (hlb : lb ≤ cb) (hcb : cb ≤ 1048576) (hxb : xb.length = lb) (atb : At .u64 w ob xb) (okb : Ok B64 xb) :
    Calls Try.prog 3 #[.slice oa la ca, .slice ob lb cb] w fun e w' => e = .returned (.bool true) ∧ Below w.heap.size w w' := by
  by_cases h : num B64 xa < num B64 xb
  · exact adds_less oa ob la ca lb cb xa xb w hla hca hlb hcb hxa hxb ata atb oka okb _ rfl h
  · exact adds_more oa ob la ca lb cb xa xb w hla hca hlb hcb hxa hxb ata atb oka okb _ rfl h

end Go.Proofs.Ytiehmmlapfdkbaa
