/-
  The walk of quipulaw02.WholeBack: whatever list and text are handed in, it answers true, and leaves what was there as it was.
-/
import Derived.Test.YtnlnjdieajdgfabDoorWAwake
import Derived.Test.YtnlnjdieajdgfabDoorWBackM
import Derived.Test.YtnlnjdieajdgfabDoorIsSame
namespace Go.Proofs.YtnlnjdieajdgfabDoor
open Go.RowKit

set_option maxRecDepth 100000 in
set_option maxHeartbeats 2000000 in
theorem wback_s0 (w : World) (tab : Tab w) (oa : Option Addr) (la ca : Nat) (xa : List Nat) (hla : la ≤ ca) (hca : ca ≤ 1048576) (hxa : xa.length = la) (ata : At .u64 w oa xa) (oka : Ok B64 xa) (s ds : ByteArray)
    (TX : Hid (Calls Tryd.prog 16 #[.slice oa la ca] w fun e w' => e = .returned (.string ds) ∧ Below w.heap.size w w')) (z1 z2 : Nat) (hlen : ((ds.size : Nat) : Int) ≤ 8192) (hz1 : PR ds z1 0) (hzn : Hid (z1 = num B64 xa)) (hz2 : PR s z2 0) (hts : Hid ((⟨(Lib.decDigits z2).toArray⟩ : ByteArray) = s)) :
    Calls Tryd.prog 6 #[.slice oa la ca, .string s] w fun e w' => e = .returned (.bool true) ∧ Below w.heap.size w w' := by
  go_enter Tryd.func6, Tryd.ntmps6
  have hbw : Below w.heap.size w w := Below.refl _ _
  go_wp2_with fail
  refine (TX.out).mono ?_
  rintro e w1 ⟨rfl, hbel⟩
  replace ata := ata.below hbel
  replace tab := tab.below hbel
  replace hbw := hbw.trans (hbel.mono hbw.size)
  clear hbel
  go_wp2_with fail
  refine (parse_pr ds _ z1 0 hz1).mono ?_
  rintro e w2 ⟨v, r1, rfl, hown1, is1, hbel⟩
  obtain ⟨o1, c1, rfl, hl1, hm1, at1⟩ := hown1.shape
  clear hown1
  replace ata := ata.below hbel
  replace tab := tab.below hbel
  replace hbw := hbw.trans (hbel.mono hbw.size)
  clear hbel
  go_wp2_with fail
  refine (wawake_true _ tab).mono ?_
  rintro e w3 ⟨rfl, hbel⟩
  replace ata := ata.below hbel
  replace at1 := at1.below hbel
  replace tab := tab.below hbel
  replace hbw := hbw.trans (hbel.mono hbw.size)
  clear hbel
  go_wp2_with fail
  refine (norm_any oa la ca xa _ hla (by omega) hxa ata oka).mono ?_
  rintro e w4 ⟨v, r2, rfl, hown2, is2, hbel⟩
  obtain ⟨o2, c2, rfl, hl2, hm2, at2⟩ := hown2.shape
  clear hown2
  replace ata := ata.below hbel
  replace at1 := at1.below hbel
  replace tab := tab.below hbel
  replace hbw := hbw.trans (hbel.mono hbw.size)
  clear hbel
  have e1 : Hid (r1 = r2) := is1.same is2 hzn.out
  go_wp2_with fail
  refine (same_any o1 o2 r1.length c1 r2.length c2 r1 r2 _ (by omega) rfl rfl at1 at2).mono ?_
  rintro e w5 ⟨rfl, hbel⟩
  rw [show decide (r1 = r2) = true from decide_eq_true e1.out]
  replace ata := ata.below hbel
  replace at1 := at1.below hbel
  replace at2 := at2.below hbel
  replace tab := tab.below hbel
  replace hbw := hbw.trans (hbel.mono hbw.size)
  clear hbel
  clear at1
  clear at2
  clear e1 is1 is2 hl1 hm1 hl2 hm2
  go_wp2_with fail
  refine (parse_pr s _ z2 0 hz2).mono ?_
  rintro e w6 ⟨v, r3, rfl, hown3, is3, hbel⟩
  obtain ⟨o3, c3, rfl, hl3, hm3, at3⟩ := hown3.shape
  clear hown3
  replace ata := ata.below hbel
  replace tab := tab.below hbel
  replace hbw := hbw.trans (hbel.mono hbw.size)
  clear hbel
  go_wp2_with fail
  refine (text_any o3 r3.length c3 r3 _ hl3 (by omega) rfl at3 is3.1 tab).mono ?_
  rintro e w7 ⟨rfl, hbel⟩
  rw [is3.2.2, hts.out]
  replace ata := ata.below hbel
  replace at3 := at3.below hbel
  replace tab := tab.below hbel
  replace hbw := hbw.trans (hbel.mono hbw.size)
  clear hbel
  go_wp2
  go_ret
  exact ⟨rfl, hbw⟩

set_option maxRecDepth 100000 in
set_option maxHeartbeats 2000000 in
theorem wback_s20 (w : World) (tab : Tab w) (oa : Option Addr) (la ca : Nat) (xa : List Nat) (hla : la ≤ ca) (hca : ca ≤ 1048576) (hxa : xa.length = la) (ata : At .u64 w oa xa) (oka : Ok B64 xa) (s ds : ByteArray)
    (TX : Hid (Calls Tryd.prog 16 #[.slice oa la ca] w fun e w' => e = .returned (.string ds) ∧ Below w.heap.size w w')) (z1 z2 : Nat) (hlen : ((ds.size : Nat) : Int) ≤ 8192) (hz1 : PR ds z1 0) (hzn : Hid (z1 = num B64 xa)) (hz2 : PR s z2 20) :
    Calls Tryd.prog 6 #[.slice oa la ca, .string s] w fun e w' => e = .returned (.bool true) ∧ Below w.heap.size w w' := by
  go_enter Tryd.func6, Tryd.ntmps6
  have hbw : Below w.heap.size w w := Below.refl _ _
  go_wp2_with fail
  refine (TX.out).mono ?_
  rintro e w1 ⟨rfl, hbel⟩
  replace ata := ata.below hbel
  replace tab := tab.below hbel
  replace hbw := hbw.trans (hbel.mono hbw.size)
  clear hbel
  go_wp2_with fail
  refine (parse_pr ds _ z1 0 hz1).mono ?_
  rintro e w2 ⟨v, r1, rfl, hown1, is1, hbel⟩
  obtain ⟨o1, c1, rfl, hl1, hm1, at1⟩ := hown1.shape
  clear hown1
  replace ata := ata.below hbel
  replace tab := tab.below hbel
  replace hbw := hbw.trans (hbel.mono hbw.size)
  clear hbel
  go_wp2_with fail
  refine (wawake_true _ tab).mono ?_
  rintro e w3 ⟨rfl, hbel⟩
  replace ata := ata.below hbel
  replace at1 := at1.below hbel
  replace tab := tab.below hbel
  replace hbw := hbw.trans (hbel.mono hbw.size)
  clear hbel
  go_wp2_with fail
  refine (norm_any oa la ca xa _ hla (by omega) hxa ata oka).mono ?_
  rintro e w4 ⟨v, r2, rfl, hown2, is2, hbel⟩
  obtain ⟨o2, c2, rfl, hl2, hm2, at2⟩ := hown2.shape
  clear hown2
  replace ata := ata.below hbel
  replace at1 := at1.below hbel
  replace tab := tab.below hbel
  replace hbw := hbw.trans (hbel.mono hbw.size)
  clear hbel
  have e1 : Hid (r1 = r2) := is1.same is2 hzn.out
  go_wp2_with fail
  refine (same_any o1 o2 r1.length c1 r2.length c2 r1 r2 _ (by omega) rfl rfl at1 at2).mono ?_
  rintro e w5 ⟨rfl, hbel⟩
  rw [show decide (r1 = r2) = true from decide_eq_true e1.out]
  replace ata := ata.below hbel
  replace at1 := at1.below hbel
  replace at2 := at2.below hbel
  replace tab := tab.below hbel
  replace hbw := hbw.trans (hbel.mono hbw.size)
  clear hbel
  clear at1
  clear at2
  clear e1 is1 is2 hl1 hm1 hl2 hm2
  go_wp2_with fail
  refine (parse_pr s _ z2 20 hz2).mono ?_
  rintro e w6 ⟨v, r3, rfl, hown3, is3, hbel⟩
  obtain ⟨o3, c3, rfl, hl3, hm3, at3⟩ := hown3.shape
  clear hown3
  replace ata := ata.below hbel
  replace tab := tab.below hbel
  replace hbw := hbw.trans (hbel.mono hbw.size)
  clear hbel
  go_wp2
  go_ret
  exact ⟨rfl, hbw⟩

set_option maxRecDepth 100000 in
set_option maxHeartbeats 2000000 in
theorem wback_s21 (w : World) (tab : Tab w) (oa : Option Addr) (la ca : Nat) (xa : List Nat) (hla : la ≤ ca) (hca : ca ≤ 1048576) (hxa : xa.length = la) (ata : At .u64 w oa xa) (oka : Ok B64 xa) (s ds : ByteArray)
    (TX : Hid (Calls Tryd.prog 16 #[.slice oa la ca] w fun e w' => e = .returned (.string ds) ∧ Below w.heap.size w w')) (z1 z2 : Nat) (hlen : ((ds.size : Nat) : Int) ≤ 8192) (hz1 : PR ds z1 0) (hzn : Hid (z1 = num B64 xa)) (hz2 : PR s z2 21) :
    Calls Tryd.prog 6 #[.slice oa la ca, .string s] w fun e w' => e = .returned (.bool true) ∧ Below w.heap.size w w' := by
  go_enter Tryd.func6, Tryd.ntmps6
  have hbw : Below w.heap.size w w := Below.refl _ _
  go_wp2_with fail
  refine (TX.out).mono ?_
  rintro e w1 ⟨rfl, hbel⟩
  replace ata := ata.below hbel
  replace tab := tab.below hbel
  replace hbw := hbw.trans (hbel.mono hbw.size)
  clear hbel
  go_wp2_with fail
  refine (parse_pr ds _ z1 0 hz1).mono ?_
  rintro e w2 ⟨v, r1, rfl, hown1, is1, hbel⟩
  obtain ⟨o1, c1, rfl, hl1, hm1, at1⟩ := hown1.shape
  clear hown1
  replace ata := ata.below hbel
  replace tab := tab.below hbel
  replace hbw := hbw.trans (hbel.mono hbw.size)
  clear hbel
  go_wp2_with fail
  refine (wawake_true _ tab).mono ?_
  rintro e w3 ⟨rfl, hbel⟩
  replace ata := ata.below hbel
  replace at1 := at1.below hbel
  replace tab := tab.below hbel
  replace hbw := hbw.trans (hbel.mono hbw.size)
  clear hbel
  go_wp2_with fail
  refine (norm_any oa la ca xa _ hla (by omega) hxa ata oka).mono ?_
  rintro e w4 ⟨v, r2, rfl, hown2, is2, hbel⟩
  obtain ⟨o2, c2, rfl, hl2, hm2, at2⟩ := hown2.shape
  clear hown2
  replace ata := ata.below hbel
  replace at1 := at1.below hbel
  replace tab := tab.below hbel
  replace hbw := hbw.trans (hbel.mono hbw.size)
  clear hbel
  have e1 : Hid (r1 = r2) := is1.same is2 hzn.out
  go_wp2_with fail
  refine (same_any o1 o2 r1.length c1 r2.length c2 r1 r2 _ (by omega) rfl rfl at1 at2).mono ?_
  rintro e w5 ⟨rfl, hbel⟩
  rw [show decide (r1 = r2) = true from decide_eq_true e1.out]
  replace ata := ata.below hbel
  replace at1 := at1.below hbel
  replace at2 := at2.below hbel
  replace tab := tab.below hbel
  replace hbw := hbw.trans (hbel.mono hbw.size)
  clear hbel
  clear at1
  clear at2
  clear e1 is1 is2 hl1 hm1 hl2 hm2
  go_wp2_with fail
  refine (parse_pr s _ z2 21 hz2).mono ?_
  rintro e w6 ⟨v, r3, rfl, hown3, is3, hbel⟩
  obtain ⟨o3, c3, rfl, hl3, hm3, at3⟩ := hown3.shape
  clear hown3
  replace ata := ata.below hbel
  replace tab := tab.below hbel
  replace hbw := hbw.trans (hbel.mono hbw.size)
  clear hbel
  go_wp2
  go_ret
  exact ⟨rfl, hbw⟩

set_option maxRecDepth 100000 in
set_option maxHeartbeats 2000000 in
theorem wback_l0 (w : World) (tab : Tab w) (oa : Option Addr) (la ca : Nat) (xa : List Nat) (_hla : la ≤ ca) (_hca : ca ≤ 1048576) (_hxa : xa.length = la) (ata : At .u64 w oa xa) (_oka : Ok B64 xa) (s ds : ByteArray)
    (TX : Hid (Calls Tryd.prog 16 #[.slice oa la ca] w fun e w' => e = .returned (.string ds) ∧ Below w.heap.size w w')) (z1 z2 : Nat) (hlen : ¬ ((ds.size : Nat) : Int) ≤ 8192) (hz1 : PR ds z1 21) (hz2 : PR s z2 0) (hts : Hid ((⟨(Lib.decDigits z2).toArray⟩ : ByteArray) = s)) :
    Calls Tryd.prog 6 #[.slice oa la ca, .string s] w fun e w' => e = .returned (.bool true) ∧ Below w.heap.size w w' := by
  go_enter Tryd.func6, Tryd.ntmps6
  have hbw : Below w.heap.size w w := Below.refl _ _
  go_wp2_with fail
  refine (TX.out).mono ?_
  rintro e w1 ⟨rfl, hbel⟩
  replace ata := ata.below hbel
  replace tab := tab.below hbel
  replace hbw := hbw.trans (hbel.mono hbw.size)
  clear hbel
  go_wp2_with fail
  refine (parse_pr ds _ z1 21 hz1).mono ?_
  rintro e w2 ⟨v, r1, rfl, hown1, is1, hbel⟩
  obtain ⟨o1, c1, rfl, hl1, hm1, at1⟩ := hown1.shape
  clear hown1
  replace ata := ata.below hbel
  replace tab := tab.below hbel
  replace hbw := hbw.trans (hbel.mono hbw.size)
  clear hbel
  go_wp2_with fail
  refine (wawake_true _ tab).mono ?_
  rintro e w3 ⟨rfl, hbel⟩
  replace ata := ata.below hbel
  replace at1 := at1.below hbel
  replace tab := tab.below hbel
  replace hbw := hbw.trans (hbel.mono hbw.size)
  clear hbel
  clear at1
  clear is1 hl1 hm1
  go_wp2_with fail
  refine (parse_pr s _ z2 0 hz2).mono ?_
  rintro e w4 ⟨v, r3, rfl, hown3, is3, hbel⟩
  obtain ⟨o3, c3, rfl, hl3, hm3, at3⟩ := hown3.shape
  clear hown3
  replace ata := ata.below hbel
  replace tab := tab.below hbel
  replace hbw := hbw.trans (hbel.mono hbw.size)
  clear hbel
  go_wp2_with fail
  refine (text_any o3 r3.length c3 r3 _ hl3 (by omega) rfl at3 is3.1 tab).mono ?_
  rintro e w5 ⟨rfl, hbel⟩
  rw [is3.2.2, hts.out]
  replace ata := ata.below hbel
  replace at3 := at3.below hbel
  replace tab := tab.below hbel
  replace hbw := hbw.trans (hbel.mono hbw.size)
  clear hbel
  go_wp2
  go_ret
  exact ⟨rfl, hbw⟩

set_option maxRecDepth 100000 in
set_option maxHeartbeats 2000000 in
theorem wback_l20 (w : World) (tab : Tab w) (oa : Option Addr) (la ca : Nat) (xa : List Nat) (_hla : la ≤ ca) (_hca : ca ≤ 1048576) (_hxa : xa.length = la) (ata : At .u64 w oa xa) (_oka : Ok B64 xa) (s ds : ByteArray)
    (TX : Hid (Calls Tryd.prog 16 #[.slice oa la ca] w fun e w' => e = .returned (.string ds) ∧ Below w.heap.size w w')) (z1 z2 : Nat) (hlen : ¬ ((ds.size : Nat) : Int) ≤ 8192) (hz1 : PR ds z1 21) (hz2 : PR s z2 20) :
    Calls Tryd.prog 6 #[.slice oa la ca, .string s] w fun e w' => e = .returned (.bool true) ∧ Below w.heap.size w w' := by
  go_enter Tryd.func6, Tryd.ntmps6
  have hbw : Below w.heap.size w w := Below.refl _ _
  go_wp2_with fail
  refine (TX.out).mono ?_
  rintro e w1 ⟨rfl, hbel⟩
  replace ata := ata.below hbel
  replace tab := tab.below hbel
  replace hbw := hbw.trans (hbel.mono hbw.size)
  clear hbel
  go_wp2_with fail
  refine (parse_pr ds _ z1 21 hz1).mono ?_
  rintro e w2 ⟨v, r1, rfl, hown1, is1, hbel⟩
  obtain ⟨o1, c1, rfl, hl1, hm1, at1⟩ := hown1.shape
  clear hown1
  replace ata := ata.below hbel
  replace tab := tab.below hbel
  replace hbw := hbw.trans (hbel.mono hbw.size)
  clear hbel
  go_wp2_with fail
  refine (wawake_true _ tab).mono ?_
  rintro e w3 ⟨rfl, hbel⟩
  replace ata := ata.below hbel
  replace at1 := at1.below hbel
  replace tab := tab.below hbel
  replace hbw := hbw.trans (hbel.mono hbw.size)
  clear hbel
  clear at1
  clear is1 hl1 hm1
  go_wp2_with fail
  refine (parse_pr s _ z2 20 hz2).mono ?_
  rintro e w4 ⟨v, r3, rfl, hown3, is3, hbel⟩
  obtain ⟨o3, c3, rfl, hl3, hm3, at3⟩ := hown3.shape
  clear hown3
  replace ata := ata.below hbel
  replace tab := tab.below hbel
  replace hbw := hbw.trans (hbel.mono hbw.size)
  clear hbel
  go_wp2
  go_ret
  exact ⟨rfl, hbw⟩

set_option maxRecDepth 100000 in
set_option maxHeartbeats 2000000 in
theorem wback_l21 (w : World) (tab : Tab w) (oa : Option Addr) (la ca : Nat) (xa : List Nat) (_hla : la ≤ ca) (_hca : ca ≤ 1048576) (_hxa : xa.length = la) (ata : At .u64 w oa xa) (_oka : Ok B64 xa) (s ds : ByteArray)
    (TX : Hid (Calls Tryd.prog 16 #[.slice oa la ca] w fun e w' => e = .returned (.string ds) ∧ Below w.heap.size w w')) (z1 z2 : Nat) (hlen : ¬ ((ds.size : Nat) : Int) ≤ 8192) (hz1 : PR ds z1 21) (hz2 : PR s z2 21) :
    Calls Tryd.prog 6 #[.slice oa la ca, .string s] w fun e w' => e = .returned (.bool true) ∧ Below w.heap.size w w' := by
  go_enter Tryd.func6, Tryd.ntmps6
  have hbw : Below w.heap.size w w := Below.refl _ _
  go_wp2_with fail
  refine (TX.out).mono ?_
  rintro e w1 ⟨rfl, hbel⟩
  replace ata := ata.below hbel
  replace tab := tab.below hbel
  replace hbw := hbw.trans (hbel.mono hbw.size)
  clear hbel
  go_wp2_with fail
  refine (parse_pr ds _ z1 21 hz1).mono ?_
  rintro e w2 ⟨v, r1, rfl, hown1, is1, hbel⟩
  obtain ⟨o1, c1, rfl, hl1, hm1, at1⟩ := hown1.shape
  clear hown1
  replace ata := ata.below hbel
  replace tab := tab.below hbel
  replace hbw := hbw.trans (hbel.mono hbw.size)
  clear hbel
  go_wp2_with fail
  refine (wawake_true _ tab).mono ?_
  rintro e w3 ⟨rfl, hbel⟩
  replace ata := ata.below hbel
  replace at1 := at1.below hbel
  replace tab := tab.below hbel
  replace hbw := hbw.trans (hbel.mono hbw.size)
  clear hbel
  clear at1
  clear is1 hl1 hm1
  go_wp2_with fail
  refine (parse_pr s _ z2 21 hz2).mono ?_
  rintro e w4 ⟨v, r3, rfl, hown3, is3, hbel⟩
  obtain ⟨o3, c3, rfl, hl3, hm3, at3⟩ := hown3.shape
  clear hown3
  replace ata := ata.below hbel
  replace tab := tab.below hbel
  replace hbw := hbw.trans (hbel.mono hbw.size)
  clear hbel
  go_wp2
  go_ret
  exact ⟨rfl, hbw⟩

theorem wback_walk (w : World) (tab : Tab w) (oa : Option Addr) (la ca : Nat) (xa : List Nat) (hla : la ≤ ca) (hca : ca ≤ 1048576) (hxa : xa.length = la) (ata : At .u64 w oa xa) (oka : Ok B64 xa) (s : ByteArray) :
    Calls Tryd.prog 6 #[.slice oa la ca, .string s] w fun e w' => e = .returned (.bool true) ∧ Below w.heap.size w w' := by
  obtain ⟨ds, hds⟩ : ∃ ds : ByteArray, ds = ⟨(Lib.decDigits (num B64 xa)).toArray⟩ := ⟨_, rfl⟩
  have tx := text_any oa la ca xa w hla (by omega) hxa ata oka tab
  rw [← hds] at tx
  have hbd : bys ds = Lib.decDigits (num B64 xa) := by rw [hds]; rfl
  have okd : OkT (bys ds) := by rw [hbd]; exact dd_okT _
  have hvd : decV (bys ds) = num B64 xa := by rw [hbd]; exact dd_val _
  have TX : Hid (Calls Tryd.prog 16 #[.slice oa la ca] w fun e w' => e = .returned (.string ds) ∧ Below w.heap.size w w') := tx
  by_cases hl : ds.size ≤ 8192
  · by_cases hs : s.size ≤ 8192
    · by_cases hok : OkT (bys s)
      · exact wback_s0 w tab oa la ca xa hla hca hxa ata oka s ds TX _ _ (by omega) (.inr (.inr ⟨hl, okd, rfl, rfl⟩)) hvd (.inr (.inr ⟨hs, hok, rfl, rfl⟩)) (text_of s hok)
      · exact wback_s20 w tab oa la ca xa hla hca hxa ata oka s ds TX _ _ (by omega) (.inr (.inr ⟨hl, okd, rfl, rfl⟩)) hvd (.inr (.inl ⟨hs, hok, rfl, rfl⟩))
    · exact wback_s21 w tab oa la ca xa hla hca hxa ata oka s ds TX _ _ (by omega) (.inr (.inr ⟨hl, okd, rfl, rfl⟩)) hvd (.inl ⟨by omega, rfl, rfl⟩)
  · by_cases hs : s.size ≤ 8192
    · by_cases hok : OkT (bys s)
      · exact wback_l0 w tab oa la ca xa hla hca hxa ata oka s ds TX _ _ (by omega) (.inl ⟨by omega, rfl, rfl⟩) (.inr (.inr ⟨hs, hok, rfl, rfl⟩)) (text_of s hok)
      · exact wback_l20 w tab oa la ca xa hla hca hxa ata oka s ds TX _ _ (by omega) (.inl ⟨by omega, rfl, rfl⟩) (.inr (.inl ⟨hs, hok, rfl, rfl⟩))
    · exact wback_l21 w tab oa la ca xa hla hca hxa ata oka s ds TX _ _ (by omega) (.inl ⟨by omega, rfl, rfl⟩) (.inl ⟨by omega, rfl, rfl⟩)

end Go.Proofs.YtnlnjdieajdgfabDoor
