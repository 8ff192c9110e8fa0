/-
  The walk of quipulaw01.NatShifts: whatever list and number of bits are handed in, it answers true, and leaves what was there as it was.
-/
import Derived.Test.YtiehmmlapfdkbaaAwake
import Derived.Test.YtiehmmlapfdkbaaRShr
namespace Go.Proofs.Ytiehmmlapfdkbaa
open Go.RowKit

set_option maxRecDepth 100000 in
set_option maxHeartbeats 2000000 in
theorem shifts_neg (oa : Option Addr) (la ca : Nat) (xa : List Nat) (w : World) (_hla : la ≤ ca) (_hca : ca ≤ 1048576) (_hxa : xa.length = la) (ata : At .u64 w oa xa) (_oka : Ok B64 xa) (n : Int) (hn : n < 0) :
    Calls Try.prog 6 #[.slice oa la ca, .int .i64 n] w fun e w' => e = .returned (.bool true) ∧ Below w.heap.size w w' := by
  go_enter Try.func6, Try.ntmps6
  have hbw : Below w.heap.size w w := Below.refl _ _
  go_wp2_with fail
  refine (shl_bad oa la ca n _ (.inl hn)).mono ?_
  rintro e w1 ⟨v, r1, rfl, hown1, is1, hbel⟩
  obtain ⟨o1, c1, rfl, hl1, hm1, at1⟩ := hown1.shape
  clear hown1
  replace ata := ata.below hbel
  replace hbw := hbw.trans (hbel.mono hbw.size)
  clear hbel
  have e1 : r1.length = 0 := by rw [is1.uniq (by decide) (Is.none (by decide))]; rfl
  rw [e1]
  clear at1
  clear e1 is1 hl1 hm1
  go_wp2_with fail
  refine (shr_bad oa la ca n _ hn).mono ?_
  rintro e w2 ⟨v, r2, rfl, hown2, is2, hbel⟩
  obtain ⟨o2, c2, rfl, hl2, hm2, at2⟩ := hown2.shape
  clear hown2
  replace ata := ata.below hbel
  replace hbw := hbw.trans (hbel.mono hbw.size)
  clear hbel
  have e2 : r2.length = 0 := by rw [is2.uniq (by decide) (Is.none (by decide))]; rfl
  rw [e2]
  clear at2
  clear e2 is2 hl2 hm2
  go_wp2_with fail
  refine (awake_true _).mono ?_
  rintro e w3 ⟨rfl, hbel⟩
  replace ata := ata.below hbel
  replace hbw := hbw.trans (hbel.mono hbw.size)
  clear hbel
  go_wp2
  go_ret
  exact ⟨rfl, hbw⟩

set_option maxRecDepth 100000 in
set_option maxHeartbeats 2000000 in
theorem shifts_above (oa : Option Addr) (la ca : Nat) (xa : List Nat) (w : World) (hla : la ≤ ca) (hca : ca ≤ 1048576) (hxa : xa.length = la) (ata : At .u64 w oa xa) (oka : Ok B64 xa) (n : Nat) (hn : 65536 < (n : Int)) (hN : Hid (n ≤ 9223372036854775807)) (h0 : ¬ (n : Int) < 0) :
    Calls Try.prog 6 #[.slice oa la ca, .int .i64 (n : Int)] w fun e w' => e = .returned (.bool true) ∧ Below w.heap.size w w' := by
  go_enter Try.func6, Try.ntmps6
  have hbw : Below w.heap.size w w := Below.refl _ _
  go_wp2_with fail
  refine (shl_bad oa la ca (n : Int) _ (.inr hn)).mono ?_
  rintro e w1 ⟨v, r1, rfl, hown1, is1, hbel⟩
  obtain ⟨o1, c1, rfl, hl1, hm1, at1⟩ := hown1.shape
  clear hown1
  replace ata := ata.below hbel
  replace hbw := hbw.trans (hbel.mono hbw.size)
  clear hbel
  have e1 : r1.length = 0 := by rw [is1.uniq (by decide) (Is.none (by decide))]; rfl
  rw [e1]
  clear at1
  clear e1 is1 hl1 hm1
  go_wp2_with fail
  refine (shr_any oa la ca n xa _ hN.out hla (by omega) hxa ata oka).mono ?_
  rintro e w2 ⟨v, r2, rfl, hown2, is2, hbel⟩
  obtain ⟨o2, c2, rfl, hl2, hm2, at2⟩ := hown2.shape
  clear hown2
  replace ata := ata.below hbel
  replace hbw := hbw.trans (hbel.mono hbw.size)
  clear hbel
  go_wp2_with fail
  refine (awake_true _).mono ?_
  rintro e w3 ⟨rfl, hbel⟩
  replace ata := ata.below hbel
  replace at2 := at2.below hbel
  replace hbw := hbw.trans (hbel.mono hbw.size)
  clear hbel
  go_wp2_with fail
  refine (in_any oa la ca xa _ (by omega) hxa ata oka).mono ?_
  rintro e w4 ⟨oi, ci, yi, rfl, hli, ati, isi, hmi, hbel⟩
  replace ata := ata.below hbel
  replace at2 := at2.below hbel
  replace hbw := hbw.trans (hbel.mono hbw.size)
  clear hbel
  go_wp2_with fail
  refine (rshr_any oi yi.length ci n yi _ hN.out hli (by omega) rfl ati isi.1).mono ?_
  rintro e w5 ⟨os, cs, ys, rfl, hls, ats, iss, hms, hbel⟩
  replace ata := ata.below hbel
  replace at2 := at2.below hbel
  replace ati := ati.below hbel
  replace hbw := hbw.trans (hbel.mono hbw.size)
  clear hbel
  rw [isi.2.2] at iss
  clear ati
  go_wp2_with fail
  refine (out_any os ys.length cs ys _ (by omega) hls rfl ats iss.1).mono ?_
  rintro e w6 ⟨oo, co, yo, rfl, hlo, ato, iso, hmo, hbel⟩
  replace ata := ata.below hbel
  replace at2 := at2.below hbel
  replace ats := ats.below hbel
  replace hbw := hbw.trans (hbel.mono hbw.size)
  clear hbel
  clear ats
  rw [iss.2.2] at iso
  clear iss hls
  have e1 : Hid (r2 = yo) := is2.uniq (by decide) iso
  go_wp2_with fail
  refine (same_any o2 oo r2.length c2 yo.length co r2 yo _ (by omega) rfl rfl at2 ato).mono ?_
  rintro e w7 ⟨rfl, hbel⟩
  rw [show decide (r2 = yo) = true from decide_eq_true e1.out]
  replace ata := ata.below hbel
  replace at2 := at2.below hbel
  replace ato := ato.below hbel
  replace hbw := hbw.trans (hbel.mono hbw.size)
  clear hbel
  go_wp2
  go_ret
  exact ⟨rfl, hbw⟩

set_option maxRecDepth 100000 in
set_option maxHeartbeats 2000000 in
theorem shifts_in (oa : Option Addr) (la ca : Nat) (xa : List Nat) (w : World) (hla : la ≤ ca) (hca : ca ≤ 1048576) (hxa : xa.length = la) (ata : At .u64 w oa xa) (oka : Ok B64 xa) (n : Nat) (hn : n ≤ 65536) (h0 : ¬ (n : Int) < 0) (h1 : ¬ 65536 < (n : Int)) :
    Calls Try.prog 6 #[.slice oa la ca, .int .i64 (n : Int)] w fun e w' => e = .returned (.bool true) ∧ Below w.heap.size w w' := by
  go_enter Try.func6, Try.ntmps6
  have hbw : Below w.heap.size w w := Below.refl _ _
  go_wp2_with fail
  refine (shl_any oa la ca n xa _ hn hla (by omega) hxa ata oka).mono ?_
  rintro e w1 ⟨v, r1, rfl, hown1, is1, hbel⟩
  obtain ⟨o1, c1, rfl, hl1, hm1, at1⟩ := hown1.shape
  clear hown1
  replace ata := ata.below hbel
  replace hbw := hbw.trans (hbel.mono hbw.size)
  clear hbel
  go_wp2_with fail
  refine (shr_any oa la ca n xa _ (by omega) hla (by omega) hxa ata oka).mono ?_
  rintro e w2 ⟨v, r2, rfl, hown2, is2, hbel⟩
  obtain ⟨o2, c2, rfl, hl2, hm2, at2⟩ := hown2.shape
  clear hown2
  replace ata := ata.below hbel
  replace at1 := at1.below hbel
  replace hbw := hbw.trans (hbel.mono hbw.size)
  clear hbel
  go_wp2_with fail
  refine (awake_true _).mono ?_
  rintro e w3 ⟨rfl, hbel⟩
  replace ata := ata.below hbel
  replace at1 := at1.below hbel
  replace at2 := at2.below hbel
  replace hbw := hbw.trans (hbel.mono hbw.size)
  clear hbel
  go_wp2_with fail
  refine (in_any oa la ca xa _ (by omega) hxa ata oka).mono ?_
  rintro e w4 ⟨oi, ci, yi, rfl, hli, ati, isi, hmi, hbel⟩
  replace ata := ata.below hbel
  replace at1 := at1.below hbel
  replace at2 := at2.below hbel
  replace hbw := hbw.trans (hbel.mono hbw.size)
  clear hbel
  go_wp2_with fail
  refine (rshl_any oi yi.length ci n yi _ hn hli (by omega) rfl ati isi.1).mono ?_
  rintro e w5 ⟨os, cs, ys, rfl, hls, ats, iss, hms, hbel⟩
  replace ata := ata.below hbel
  replace at1 := at1.below hbel
  replace at2 := at2.below hbel
  replace ati := ati.below hbel
  replace hbw := hbw.trans (hbel.mono hbw.size)
  clear hbel
  rw [isi.2.2] at iss
  clear ati
  go_wp2_with fail
  refine (out_any os ys.length cs ys _ (by omega) hls rfl ats iss.1).mono ?_
  rintro e w6 ⟨oo, co, yo, rfl, hlo, ato, iso, hmo, hbel⟩
  replace ata := ata.below hbel
  replace at1 := at1.below hbel
  replace at2 := at2.below hbel
  replace ats := ats.below hbel
  replace hbw := hbw.trans (hbel.mono hbw.size)
  clear hbel
  clear ats
  rw [iss.2.2] at iso
  clear iss hls
  have e1 : Hid (r1 = yo) := is1.uniq (by decide) iso
  go_wp2_with fail
  refine (same_any o1 oo r1.length c1 yo.length co r1 yo _ (by omega) rfl rfl at1 ato).mono ?_
  rintro e w7 ⟨rfl, hbel⟩
  rw [show decide (r1 = yo) = true from decide_eq_true e1.out]
  replace ata := ata.below hbel
  replace at1 := at1.below hbel
  replace at2 := at2.below hbel
  replace ato := ato.below hbel
  replace hbw := hbw.trans (hbel.mono hbw.size)
  clear hbel
  clear at1
  clear ato
  clear is1 e1 iso hl1 hm1 hlo hmo hms isi hli hmi
  go_wp2_with fail
  refine (in_any oa la ca xa _ (by omega) hxa ata oka).mono ?_
  rintro e w8 ⟨oj, cj, yj, rfl, hlj, atj, isj, hmj, hbel⟩
  replace ata := ata.below hbel
  replace at2 := at2.below hbel
  replace hbw := hbw.trans (hbel.mono hbw.size)
  clear hbel
  go_wp2_with fail
  refine (rshr_any oj yj.length cj n yj _ (by omega) hlj (by omega) rfl atj isj.1).mono ?_
  rintro e w9 ⟨ot, ct, yt, rfl, hlt, att, ist, hmt, hbel⟩
  replace ata := ata.below hbel
  replace at2 := at2.below hbel
  replace atj := atj.below hbel
  replace hbw := hbw.trans (hbel.mono hbw.size)
  clear hbel
  rw [isj.2.2] at ist
  clear atj
  go_wp2_with fail
  refine (out_any ot yt.length ct yt _ (by omega) hlt rfl att ist.1).mono ?_
  rintro e w10 ⟨op, cp, yp, rfl, hlp, atp, isp, hmp, hbel⟩
  replace ata := ata.below hbel
  replace at2 := at2.below hbel
  replace att := att.below hbel
  replace hbw := hbw.trans (hbel.mono hbw.size)
  clear hbel
  clear att
  rw [ist.2.2] at isp
  clear ist
  have e2 : Hid (r2 = yp) := is2.uniq (by decide) isp
  go_wp2_with fail
  refine (same_any o2 op r2.length c2 yp.length cp r2 yp _ (by omega) rfl rfl at2 atp).mono ?_
  rintro e w11 ⟨rfl, hbel⟩
  rw [show decide (r2 = yp) = true from decide_eq_true e2.out]
  replace ata := ata.below hbel
  replace at2 := at2.below hbel
  replace atp := atp.below hbel
  replace hbw := hbw.trans (hbel.mono hbw.size)
  clear hbel
  go_wp2
  go_ret
  exact ⟨rfl, hbw⟩

theorem shifts_walk (w : World) (oa : Option Addr) (la ca : Nat) (xa : List Nat) (hla : la ≤ ca) (hca : ca ≤ 1048576) (hxa : xa.length = la) (ata : At .u64 w oa xa) (oka : Ok B64 xa) (nb : Int) (wfb : (Lit.int .i64 nb).wf = true) :
    Calls Try.prog 6 #[.slice oa la ca, .int .i64 nb] w fun e w' => e = .returned (.bool true) ∧ Below w.heap.size w w' := by
  have hb : -9223372036854775808 ≤ nb ∧ nb ≤ 9223372036854775807 := by
    simp [Lit.wf, IntKind.min, IntKind.max, IntKind.signed, IntKind.bits] at wfb
    omega
  by_cases h : nb < 0
  · exact shifts_neg oa la ca xa w hla hca hxa ata oka nb h
  · obtain ⟨n, rfl⟩ := Int.eq_ofNat_of_zero_le (show 0 ≤ nb by omega)
    by_cases h1 : 65536 < (n : Int)
    · exact shifts_above oa la ca xa w hla hca hxa ata oka n h1 (show n ≤ 9223372036854775807 by omega) h
    · exact shifts_in oa la ca xa w hla hca hxa ata oka n (by omega) h h1

end Go.Proofs.Ytiehmmlapfdkbaa
