/-
  The walk of quipulaw02.WholePowers: whatever number is handed in, it answers true, and leaves what was there as it was.
-/
import Derived.Test.YtnlnjdieajdgfabDoorWAwake
import Derived.Test.YtnlnjdieajdgfabDoorZRMul
import Derived.Test.YtnlnjdieajdgfabDoorRShl
import Derived.Test.YtnlnjdieajdgfabDoorOut
namespace Go.Proofs.YtnlnjdieajdgfabDoor
open Go.RowKit

set_option maxRecDepth 100000 in
set_option maxHeartbeats 2000000 in
theorem wpowers_neg (w : World) (tab : Tab w) (n : Int) (hn : n < 0) :
    Calls Tryd.prog 3 #[.int .i64 n] w fun e w' => e = .returned (.bool true) ∧ Below w.heap.size w w' := by
  go_enter Tryd.func3, Tryd.ntmps3
  have hbw : Below w.heap.size w w := Below.refl _ _
  go_wp2_with fail
  refine (pow5_bad n _ (.inl hn)).mono ?_
  rintro e w1 ⟨v, r1, rfl, hown1, is1, hbel⟩
  obtain ⟨o1, c1, rfl, hl1, hm1, at1⟩ := hown1.shape
  clear hown1
  replace tab := tab.below hbel
  replace hbw := hbw.trans (hbel.mono hbw.size)
  clear hbel
  have e1 : r1.length = 0 := by rw [is1.uniq (by decide) (Is.none (by decide))]; rfl
  rw [e1]
  clear at1
  clear e1 is1 hl1 hm1
  go_wp2_with fail
  refine (pow10_bad n _ (.inl hn)).mono ?_
  rintro e w2 ⟨v, r2, rfl, hown2, is2, hbel⟩
  obtain ⟨o2, c2, rfl, hl2, hm2, at2⟩ := hown2.shape
  clear hown2
  replace tab := tab.below hbel
  replace hbw := hbw.trans (hbel.mono hbw.size)
  clear hbel
  have e2 : r2.length = 0 := by rw [is2.uniq (by decide) (Is.none (by decide))]; rfl
  rw [e2]
  clear at2
  clear e2 is2 hl2 hm2
  go_wp2_with fail
  refine (wawake_true _ tab).mono ?_
  rintro e w3 ⟨rfl, hbel⟩
  replace tab := tab.below hbel
  replace hbw := hbw.trans (hbel.mono hbw.size)
  clear hbel
  go_wp2
  go_ret
  exact ⟨rfl, hbw⟩

set_option maxRecDepth 100000 in
set_option maxHeartbeats 2000000 in
theorem wpowers_more (w : World) (tab : Tab w) (n : Int) (h0 : ¬ n < 0) (hn : 8192 < n) :
    Calls Tryd.prog 3 #[.int .i64 n] w fun e w' => e = .returned (.bool true) ∧ Below w.heap.size w w' := by
  go_enter Tryd.func3, Tryd.ntmps3
  have hbw : Below w.heap.size w w := Below.refl _ _
  go_wp2_with fail
  refine (pow5_bad n _ (.inr hn)).mono ?_
  rintro e w1 ⟨v, r1, rfl, hown1, is1, hbel⟩
  obtain ⟨o1, c1, rfl, hl1, hm1, at1⟩ := hown1.shape
  clear hown1
  replace tab := tab.below hbel
  replace hbw := hbw.trans (hbel.mono hbw.size)
  clear hbel
  have e1 : r1.length = 0 := by rw [is1.uniq (by decide) (Is.none (by decide))]; rfl
  rw [e1]
  clear at1
  clear e1 is1 hl1 hm1
  go_wp2_with fail
  refine (pow10_bad n _ (.inr hn)).mono ?_
  rintro e w2 ⟨v, r2, rfl, hown2, is2, hbel⟩
  obtain ⟨o2, c2, rfl, hl2, hm2, at2⟩ := hown2.shape
  clear hown2
  replace tab := tab.below hbel
  replace hbw := hbw.trans (hbel.mono hbw.size)
  clear hbel
  have e2 : r2.length = 0 := by rw [is2.uniq (by decide) (Is.none (by decide))]; rfl
  rw [e2]
  clear at2
  clear e2 is2 hl2 hm2
  go_wp2_with fail
  refine (wawake_true _ tab).mono ?_
  rintro e w3 ⟨rfl, hbel⟩
  replace tab := tab.below hbel
  replace hbw := hbw.trans (hbel.mono hbw.size)
  clear hbel
  go_wp2
  go_ret
  exact ⟨rfl, hbw⟩

set_option maxRecDepth 100000 in
set_option maxHeartbeats 2000000 in
theorem wpowers_in (w : World) (tab : Tab w) (n : Nat) (hn : n ≤ 8192) (h0 : ¬ (n : Int) < 0) (_h1 : ¬ 8192 < (n : Int)) :
    Calls Tryd.prog 3 #[.int .i64 (n : Int)] w fun e w' => e = .returned (.bool true) ∧ Below w.heap.size w w' := by
  go_enter Tryd.func3, Tryd.ntmps3
  have hbw : Below w.heap.size w w := Below.refl _ _
  go_wp2_with fail
  refine (pow5_in n _ hn).mono ?_
  rintro e w1 ⟨v, r1, rfl, hown1, is1, hbel⟩
  obtain ⟨o1, c1, rfl, hl1, hm1, at1⟩ := hown1.shape
  clear hown1
  replace tab := tab.below hbel
  replace hbw := hbw.trans (hbel.mono hbw.size)
  clear hbel
  go_wp2_with fail
  refine (pow10_in n _ hn).mono ?_
  rintro e w2 ⟨v, r2, rfl, hown2, is2, hbel⟩
  obtain ⟨o2, c2, rfl, hl2, hm2, at2⟩ := hown2.shape
  clear hown2
  replace at1 := at1.below hbel
  replace tab := tab.below hbel
  replace hbw := hbw.trans (hbel.mono hbw.size)
  clear hbel
  go_wp2_with fail
  refine (wawake_true _ tab).mono ?_
  rintro e w3 ⟨rfl, hbel⟩
  replace at1 := at1.below hbel
  replace at2 := at2.below hbel
  replace tab := tab.below hbel
  replace hbw := hbw.trans (hbel.mono hbw.size)
  clear hbel
  go_wp2_with fail
  refine (rpow5 n hn _).mono ?_
  rintro e w4 ⟨ox, cx, yx, rfl, hlx, atx, isx, hmx, hbel⟩
  replace at1 := at1.below hbel
  replace at2 := at2.below hbel
  replace tab := tab.below hbel
  replace hbw := hbw.trans (hbel.mono hbw.size)
  clear hbel
  go_wp2_with fail
  refine (out_any ox yx.length cx yx _ (by omega) hlx rfl atx isx.1).mono ?_
  rintro e w5 ⟨oo, co, yo, rfl, hlo, ato, iso, hmo, hbel⟩
  replace at1 := at1.below hbel
  replace at2 := at2.below hbel
  replace atx := atx.below hbel
  replace tab := tab.below hbel
  replace hbw := hbw.trans (hbel.mono hbw.size)
  clear hbel
  rw [isx.2.2] at iso
  have e1 : Hid (r1 = yo) := is1.uniq (by decide) iso
  go_wp2_with fail
  refine (same_any o1 oo r1.length c1 yo.length co r1 yo _ (by omega) rfl rfl at1 ato).mono ?_
  rintro e w6 ⟨rfl, hbel⟩
  rw [show decide (r1 = yo) = true from decide_eq_true e1.out]
  replace at1 := at1.below hbel
  replace at2 := at2.below hbel
  replace atx := atx.below hbel
  replace ato := ato.below hbel
  replace tab := tab.below hbel
  replace hbw := hbw.trans (hbel.mono hbw.size)
  clear hbel
  clear at1
  clear ato
  clear e1 is1 iso hl1 hm1 hlo hmo
  go_wp2_with fail
  refine (rshl_any ox yx.length cx n yx _ (by omega) hlx (by omega) rfl atx isx.1).mono ?_
  rintro e w7 ⟨os, cs, ys, rfl, hls, ats, iss, hms, hbel⟩
  replace at2 := at2.below hbel
  replace atx := atx.below hbel
  replace tab := tab.below hbel
  replace hbw := hbw.trans (hbel.mono hbw.size)
  clear hbel
  rw [isx.2.2, ← Nat.mul_pow] at iss
  clear atx
  clear isx hlx
  go_wp2_with fail
  refine (out_any os ys.length cs ys _ (by omega) hls rfl ats iss.1).mono ?_
  rintro e w8 ⟨op, cp, yp, rfl, hlp, atp, isp, hmp, hbel⟩
  replace at2 := at2.below hbel
  replace ats := ats.below hbel
  replace tab := tab.below hbel
  replace hbw := hbw.trans (hbel.mono hbw.size)
  clear hbel
  rw [iss.2.2] at isp
  clear ats
  clear iss hls
  have e2 : Hid (r2 = yp) := is2.uniq (by decide) isp
  go_wp2_with fail
  refine (same_any o2 op r2.length c2 yp.length cp r2 yp _ (by omega) rfl rfl at2 atp).mono ?_
  rintro e w9 ⟨rfl, hbel⟩
  rw [show decide (r2 = yp) = true from decide_eq_true e2.out]
  replace at2 := at2.below hbel
  replace atp := atp.below hbel
  replace tab := tab.below hbel
  replace hbw := hbw.trans (hbel.mono hbw.size)
  clear hbel
  go_wp2
  go_ret
  exact ⟨rfl, hbw⟩

theorem wpowers_walk (w : World) (tab : Tab w) (n : Int) :
    Calls Tryd.prog 3 #[.int .i64 n] w fun e w' => e = .returned (.bool true) ∧ Below w.heap.size w w' := by
  by_cases h : n < 0
  · exact wpowers_neg w tab n h
  · by_cases h1 : 8192 < n
    · exact wpowers_more w tab n h h1
    · obtain ⟨m, rfl⟩ := Int.eq_ofNat_of_zero_le (show 0 ≤ n by omega)
      exact wpowers_in w tab m (by omega) h h1

end Go.Proofs.YtnlnjdieajdgfabDoor
