/-
  The walk of quipulaw01.NatDivides: whatever two lists are handed in, it answers true, and leaves what was there as it was.
-/
import Derived.Test.YtnlnjdieajdgfaaAwake
import Derived.Test.YtnlnjdieajdgfaaDivAny
import Derived.Test.YtnlnjdieajdgfaaRDiv2
import Derived.Test.YtnlnjdieajdgfaaIn
import Derived.Test.YtnlnjdieajdgfaaOut
namespace Go.Proofs.Ytnlnjdieajdgfaa
open Go.RowKit

set_option maxHeartbeats 1000000 in
theorem rdivmod_nil (ao bo : Option Addr) (ca lb cb B : Nat) (w : World) :
    Calls Try.prog 10 #[.slice ao 0 ca, .slice bo lb cb] w (RDivPost w 0 lb (0 / B) (0 % B)) := by
  obtain ⟨i0, hi, hz0, hz1, hz2⟩ := info_parts Try.infoD
  go_enter Try.func10, Try.ntmps10
  go_wp2_with (at_make; refine wpList_make_full _ rfl _ _ 27 rfl w.heap.size 50 i0 (.int .u32 0) 1 Try.underlying27 hi hz0 hz1 _ _ _ _ 0 rfl rfl (by omega) (by omega) (by rw [hz2]; omega) (by unfold maxLen; omega) (Nat.le_refl _) ?_)
  intro w1 hown hgrow
  have hb1 : Below w.heap.size w w1 := (Below.refl _ _).grown hgrow (Nat.le_refl _) (fun k hk => by cases hk)
  clear hown hgrow
  go_wp2
  refine wp_loop_rounds 1 ?_
  rw [rounds_succ]
  go_wp2_with fail
  refine (rtrim_nil _ _ _).mono ?_
  rintro e w' ⟨rfl, rfl⟩
  go_wp2
  go_ret2
  refine ⟨_, _, [], _, _, [], rfl, Nat.zero_le _, Nat.zero_le _, At.nil _ _ _, At.nil _ _ _, ?_, ?_, Nat.zero_le _, Nat.zero_le _, hb1.alloc hb1.size _⟩
  · rw [Nat.zero_div]; exact Is.none (by omega)
  · rw [Nat.zero_mod]; exact Is.none (by omega)

theorem rdivmod_any (ao bo : Option Addr) (la ca lb cb : Nat) (xs ys : List Nat) (w : World) (hla : la ≤ 10000000) (hlb : lb ≤ 10000000) (hlbc : lb ≤ cb) (hx : xs.length = la) (hy : ys.length = lb)
    (hax : At .u32 w ao xs) (hay : At .u32 w bo ys) (ox : Ok 65536 xs) (oy : Ok 65536 ys) (ty : Top ys) (hB : 0 < num 65536 ys) :
    Calls Try.prog 10 #[.slice ao la ca, .slice bo lb cb] w (RDivPost w la lb (num 65536 xs / num 65536 ys) (num 65536 xs % num 65536 ys)) := by
  rcases hax with rfl | ⟨b, o, rfl, hb, hc⟩
  · obtain rfl : la = 0 := hx.symm
    exact rdivmod_nil ao bo ca lb cb (num 65536 ys) w
  · exact rdivmod_at b o la ca lb cb bo xs ys w hla hlb hlbc hx hy hb (fun i hi => hc i (by omega)) ox hay oy ty hB

set_option maxRecDepth 100000 in
set_option maxHeartbeats 2000000 in
theorem divides_zero (oa ob : Option Addr) (la ca lb cb : Nat) (xa xb : List Nat) (w : World) (hla : la ≤ ca) (hca : ca ≤ 1048576) (hlb : lb ≤ cb) (hcb : cb ≤ 1048576)
    (hxa : xa.length = la) (hxb : xb.length = lb) (ata : At .u64 w oa xa) (atb : At .u64 w ob xb) (_oka : Ok B64 xa) (okb : Ok B64 xb) (h0 : Hid (num B64 xb = 0)) :
    Calls Try.prog 3 #[.slice oa la ca, .slice ob lb cb] w fun e w' => e = .returned (.bool true) ∧ Below w.heap.size w w' := by
  go_enter Try.func3, Try.ntmps3
  have hbw : Below w.heap.size w w := Below.refl _ _
  go_wp2_with fail
  refine (divmod_by_zero oa ob la ca lb cb xa xb _ hla (by omega) hlb (by omega) hxa hxb ata atb h0.out).mono ?_
  rintro e w1 ⟨v1, r1, v2, r2, rfl, hown1, hown2, is1, is2, hbel, _⟩
  obtain ⟨o1, c1, rfl, hl1, hm1, at1⟩ := hown1.shape
  clear hown1
  obtain ⟨o2, c2, rfl, hl2, hm2, at2⟩ := hown2.shape
  clear hown2
  replace ata := ata.below hbel
  replace atb := atb.below hbel
  replace hbw := hbw.trans (hbel.mono hbw.size)
  clear hbel
  have e1 : r1.length = 0 := by rw [is1.uniq (by decide) (Is.none (by decide))]; rfl
  rw [e1]
  clear e1 is1 at1 hl1 hm1
  have e2 : r2.length = 0 := by rw [is2.uniq (by decide) (Is.none (by decide))]; rfl
  rw [e2]
  clear e2 is2 at2 hl2 hm2
  go_wp2_with fail
  refine (in_any ob lb cb xb _ (by omega) hxb atb okb).mono ?_
  rintro e w2 ⟨oy, cy, yy, rfl, hly, aty, isy, hmy, hbel⟩
  replace ata := ata.below hbel
  replace atb := atb.below hbel
  replace hbw := hbw.trans (hbel.mono hbw.size)
  clear hbel
  have ey : yy.length = 0 := by rw [isy.uniq (by decide) (by rw [h0.out]; exact Is.none (by decide))]; rfl
  rw [ey]
  clear aty
  clear isy hly hmy ey
  go_wp2_with fail
  refine (awake_true _).mono ?_
  rintro e w3 ⟨rfl, hbel⟩
  replace ata := ata.below hbel
  replace atb := atb.below hbel
  replace hbw := hbw.trans (hbel.mono hbw.size)
  clear hbel
  go_wp2
  go_ret
  exact ⟨rfl, hbw⟩

set_option maxRecDepth 100000 in
set_option maxHeartbeats 2000000 in
theorem divides_by (oa ob : Option Addr) (la ca lb cb : Nat) (xa xb : List Nat) (w : World) (hla : la ≤ ca) (hca : ca ≤ 1048576) (hlb : lb ≤ cb) (hcb : cb ≤ 1048576)
    (hxa : xa.length = la) (hxb : xb.length = lb) (ata : At .u64 w oa xa) (atb : At .u64 w ob xb) (oka : Ok B64 xa) (okb : Ok B64 xb) (h0 : Hid (num B64 xb ≠ 0)) :
    Calls Try.prog 3 #[.slice oa la ca, .slice ob lb cb] w fun e w' => e = .returned (.bool true) ∧ Below w.heap.size w w' := by
  go_enter Try.func3, Try.ntmps3
  have hbw : Below w.heap.size w w := Below.refl _ _
  go_wp2_with fail
  refine (divmod_any oa ob la ca lb cb xa xb _ hla (by omega) hlb (by omega) hxa hxb ata atb oka okb h0.out).mono ?_
  rintro e w1 ⟨v1, r1, v2, r2, rfl, hown1, hown2, is1, is2, hbel, _⟩
  obtain ⟨o1, c1, rfl, hl1, hm1, at1⟩ := hown1.shape
  clear hown1
  obtain ⟨o2, c2, rfl, hl2, hm2, at2⟩ := hown2.shape
  clear hown2
  replace ata := ata.below hbel
  replace atb := atb.below hbel
  replace hbw := hbw.trans (hbel.mono hbw.size)
  clear hbel
  go_wp2_with fail
  refine (in_any ob lb cb xb _ (by omega) hxb atb okb).mono ?_
  rintro e w2 ⟨oy, cy, yy, rfl, hly, aty, isy, hmy, hbel⟩
  replace ata := ata.below hbel
  replace atb := atb.below hbel
  replace at1 := at1.below hbel
  replace at2 := at2.below hbel
  replace hbw := hbw.trans (hbel.mono hbw.size)
  clear hbel
  have ey : (((yy.length : Nat) : Int) == 0) = false := by
    rw [beq_eq_false_iff_ne]; intro e
    have e2 : yy = [] := List.length_eq_zero_iff.1 (by omega)
    have e3 := isy.2.2; rw [e2] at e3; exact h0.out e3.symm
  go_wp2_with fail
  refine (awake_true _).mono ?_
  rintro e w3 ⟨rfl, hbel⟩
  replace ata := ata.below hbel
  replace atb := atb.below hbel
  replace at1 := at1.below hbel
  replace at2 := at2.below hbel
  replace aty := aty.below hbel
  replace hbw := hbw.trans (hbel.mono hbw.size)
  clear hbel
  go_wp2_with fail
  refine (in_any oa la ca xa _ (by omega) hxa ata oka).mono ?_
  rintro e w4 ⟨ox, cx, yx, rfl, hlx, atx, isx, hmx, hbel⟩
  replace ata := ata.below hbel
  replace atb := atb.below hbel
  replace at1 := at1.below hbel
  replace at2 := at2.below hbel
  replace aty := aty.below hbel
  replace hbw := hbw.trans (hbel.mono hbw.size)
  clear hbel
  go_wp2_with fail
  refine (rdivmod_any ox oy yx.length cx yy.length cy yx yy _ (by omega) (by omega) hly rfl rfl atx aty isx.1 isy.1 isy.2.1 (by rw [isy.2.2]; have := h0.out; omega)).mono ?_
  rintro e w5 ⟨ou, cu, yu, ov, cv, yv, rfl, hlu, hlv, atu, atv, isu, isv, hmu, hmv, hbel⟩
  replace ata := ata.below hbel
  replace atb := atb.below hbel
  replace at1 := at1.below hbel
  replace at2 := at2.below hbel
  replace aty := aty.below hbel
  replace atx := atx.below hbel
  replace hbw := hbw.trans (hbel.mono hbw.size)
  clear hbel
  rw [isx.2.2, isy.2.2] at isu isv
  clear atx
  clear aty
  clear isx hlx isy hly ey
  go_wp2_with fail
  refine (out_any ou yu.length cu yu _ (by omega) hlu rfl atu isu.1).mono ?_
  rintro e w6 ⟨op, cp, yp, rfl, hlp, atp, isp, hmp, hbel⟩
  replace ata := ata.below hbel
  replace atb := atb.below hbel
  replace at1 := at1.below hbel
  replace at2 := at2.below hbel
  replace atu := atu.below hbel
  replace atv := atv.below hbel
  replace hbw := hbw.trans (hbel.mono hbw.size)
  clear hbel
  rw [isu.2.2] at isp
  clear atu
  clear isu hlu
  have e1 : Hid (r1 = yp) := is1.uniq (by decide) isp
  go_wp2_with fail
  refine (same_any o1 op r1.length c1 yp.length cp r1 yp _ (by omega) rfl rfl at1 atp).mono ?_
  rintro e w7 ⟨rfl, hbel⟩
  rw [show decide (r1 = yp) = true from decide_eq_true e1.out]
  replace ata := ata.below hbel
  replace atb := atb.below hbel
  replace at1 := at1.below hbel
  replace at2 := at2.below hbel
  replace atv := atv.below hbel
  replace atp := atp.below hbel
  replace hbw := hbw.trans (hbel.mono hbw.size)
  clear hbel
  clear at1
  clear atp
  clear e1 is1 isp hl1 hm1 hlp hmp hmu
  go_wp2_with fail
  refine (out_any ov yv.length cv yv _ (by omega) hlv rfl atv isv.1).mono ?_
  rintro e w8 ⟨os, cs, ys, rfl, hls, ats, iss, hms, hbel⟩
  replace ata := ata.below hbel
  replace atb := atb.below hbel
  replace at2 := at2.below hbel
  replace atv := atv.below hbel
  replace hbw := hbw.trans (hbel.mono hbw.size)
  clear hbel
  rw [isv.2.2] at iss
  clear atv
  clear isv hlv
  have e1 : Hid (r2 = ys) := is2.uniq (by decide) iss
  go_wp2_with fail
  refine (same_any o2 os r2.length c2 ys.length cs r2 ys _ (by omega) rfl rfl at2 ats).mono ?_
  rintro e w9 ⟨rfl, hbel⟩
  rw [show decide (r2 = ys) = true from decide_eq_true e1.out]
  replace ata := ata.below hbel
  replace atb := atb.below hbel
  replace at2 := at2.below hbel
  replace ats := ats.below hbel
  replace hbw := hbw.trans (hbel.mono hbw.size)
  clear hbel
  go_wp2
  go_ret
  exact ⟨rfl, hbw⟩

theorem divides_walk (w : World) (oa : Option Addr) (la ca : Nat) (xa : List Nat) (hla : la ≤ ca) (hca : ca ≤ 1048576) (hxa : xa.length = la) (ata : At .u64 w oa xa) (oka : Ok B64 xa)
    (ob : Option Addr) (lb cb : Nat) (xb : List Nat) (hlb : lb ≤ cb) (hcb : cb ≤ 1048576) (hxb : xb.length = lb) (atb : At .u64 w ob xb) (okb : Ok B64 xb) :
    Calls Try.prog 3 #[.slice oa la ca, .slice ob lb cb] w fun e w' => e = .returned (.bool true) ∧ Below w.heap.size w w' := by
  by_cases h : num B64 xb = 0
  · exact divides_zero oa ob la ca lb cb xa xb w hla hca hlb hcb hxa hxb ata atb oka okb h
  · exact divides_by oa ob la ca lb cb xa xb w hla hca hlb hcb hxa hxb ata atb oka okb h

end Go.Proofs.Ytnlnjdieajdgfaa
