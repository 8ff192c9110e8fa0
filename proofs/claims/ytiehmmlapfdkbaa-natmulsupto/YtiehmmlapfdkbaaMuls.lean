/-
  The walk of quipulaw01.NatMuls: whatever two lists are handed in, it answers true, and leaves what was there as it was.
-/
import Derived.Test.YtiehmmlapfdkbaaAwake
import Derived.Test.YtiehmmlapfdkbaaRMul
namespace Go.Proofs.Ytiehmmlapfdkbaa
open Go.RowKit

set_option maxRecDepth 100000 in
set_option maxHeartbeats 2000000 in
theorem muls_walk (w : World) (oa : Option Addr) (la ca : Nat) (xa : List Nat) (hla : la ≤ ca) (hca : ca ≤ 1048576) (hxa : xa.length = la) (ata : At .u64 w oa xa) (oka : Ok B64 xa)
    (ob : Option Addr) (lb cb : Nat) (xb : List Nat) (hlb : lb ≤ cb) (hcb : cb ≤ 1048576) (hxb : xb.length = lb) (atb : At .u64 w ob xb) (okb : Ok B64 xb) :
    Calls Try.prog 4 #[.slice oa la ca, .slice ob lb cb] w fun e w' => e = .returned (.bool true) ∧ Below w.heap.size w w' := by
  go_enter Try.func4, Try.ntmps4
  have hbw : Below w.heap.size w w := Below.refl _ _
  go_wp2_with fail
  refine (awake_true _).mono ?_
  rintro e w1 ⟨rfl, hbel⟩
  replace ata := ata.below hbel
  replace atb := atb.below hbel
  replace hbw := hbw.trans (hbel.mono hbw.size)
  clear hbel
  go_wp2_with fail
  refine (mul_any oa ob la ca lb cb xa xb _ hla (by omega) hlb (by omega) hxa hxb ata atb oka okb).mono ?_
  rintro e w2 ⟨v, r1, rfl, hown1, is1, hbel⟩
  obtain ⟨o1, c1, rfl, hl1, hm1, at1⟩ := hown1.shape
  clear hown1
  replace ata := ata.below hbel
  replace atb := atb.below hbel
  replace hbw := hbw.trans (hbel.mono hbw.size)
  clear hbel
  go_wp2_with fail
  refine (in_any oa la ca xa _ (by omega) hxa ata oka).mono ?_
  rintro e w3 ⟨oi, ci, yi, rfl, hli, ati, isi, hmi, hbel⟩
  replace ata := ata.below hbel
  replace atb := atb.below hbel
  replace at1 := at1.below hbel
  replace hbw := hbw.trans (hbel.mono hbw.size)
  clear hbel
  go_wp2_with fail
  refine (in_any ob lb cb xb _ (by omega) hxb atb okb).mono ?_
  rintro e w4 ⟨oj, cj, yj, rfl, hlj, atj, isj, hmj, hbel⟩
  replace ata := ata.below hbel
  replace atb := atb.below hbel
  replace at1 := at1.below hbel
  replace ati := ati.below hbel
  replace hbw := hbw.trans (hbel.mono hbw.size)
  clear hbel
  go_wp2_with fail
  refine (rmul_any oi oj yi.length ci yj.length cj yi yj _ (by omega) (by omega) rfl rfl ati atj isi.1 isj.1).mono ?_
  rintro e w5 ⟨os, cs, ys, rfl, hls, ats, iss, hms, hbel⟩
  replace ata := ata.below hbel
  replace atb := atb.below hbel
  replace at1 := at1.below hbel
  replace ati := ati.below hbel
  replace atj := atj.below hbel
  replace hbw := hbw.trans (hbel.mono hbw.size)
  clear hbel
  rw [isi.2.2, isj.2.2] at iss
  go_wp2_with fail
  refine (out_any os ys.length cs ys _ (by omega) hls rfl ats iss.1).mono ?_
  rintro e w6 ⟨oo, co, yo, rfl, hlo, ato, iso, hmo, hbel⟩
  replace ata := ata.below hbel
  replace atb := atb.below hbel
  replace at1 := at1.below hbel
  replace ati := ati.below hbel
  replace atj := atj.below hbel
  replace ats := ats.below hbel
  replace hbw := hbw.trans (hbel.mono hbw.size)
  clear hbel
  clear ats
  rw [iss.2.2] at iso
  clear iss hls
  have e1 : Hid (r1 = yo) := is1.uniq (by decide) iso
  go_wp2_with fail
  refine (same_any o1 oo r1.length c1 yo.length co r1 yo _ (by omega) rfl rfl at1 ato).mono ?_
  rintro e w7 ⟨rfl, hbel⟩
  rw [show decide (r1 = yo) = true from decide_eq_true e1.out]
  replace ata := ata.below hbel
  replace atb := atb.below hbel
  replace at1 := at1.below hbel
  replace ati := ati.below hbel
  replace atj := atj.below hbel
  replace ato := ato.below hbel
  replace hbw := hbw.trans (hbel.mono hbw.size)
  clear hbel
  go_wp2
  go_ret
  exact ⟨rfl, hbw⟩

end Go.Proofs.Ytiehmmlapfdkbaa
