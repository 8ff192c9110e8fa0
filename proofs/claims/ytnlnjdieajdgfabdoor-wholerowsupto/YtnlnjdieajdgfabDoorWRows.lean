/-
  The walk of quipulaw02.WholeRows: whatever list and text are handed in, it answers true, and leaves what was there as it was.
-/
import Derived.Test.YtnlnjdieajdgfabDoorWAwake
import Derived.Test.YtnlnjdieajdgfabDoorWRowsM
import Derived.Test.YtnlnjdieajdgfabDoorIsSame
namespace Go.Proofs.YtnlnjdieajdgfabDoor
open Go.RowKit

set_option maxRecDepth 100000 in
set_option maxHeartbeats 2000000 in
theorem wrows_0_0_m (w : World) (tab : Tab w) (oa : Option Addr) (la ca : Nat) (xa : List Nat) (hla : la ≤ ca) (hca : ca ≤ 1048576) (hxa : xa.length = la) (ata : At .u64 w oa xa) (oka : Ok B64 xa) (s : ByteArray) (hs : s.size ≤ 1048576) (ds : ByteArray) (hpos : 0 < ds.size) (hdsz : ds.size ≤ 30000000) (hne : (ds.toList == [48]) = false) (z2 z3 : Nat) (hfs : s.size ≤ 8192) (hz2 : PR s z2 0) (hz3 : PR (ds ++ s) z3 0) (hsum : Hid (z3 = num B64 xa * 10 ^ s.size + z2)) (k : Nat) (hk : ds.size = k + 1) (hk8 : k ≤ 8192) (_hshort : ¬ 8193 < (ds.size : Int)) (zc : Int) (hzc : zc ≤ 0) (hlow : Hid (cmpN (10 ^ k) (num B64 xa) = zc)) (hhi : Hid (cmpN (num B64 xa) (10 ^ k * 10) = -1))
    (TX : Hid (Calls Tryd.prog 16 #[.slice oa la ca] w fun e w' => e = .returned (.string ds) ∧ Below w.heap.size w w')) :
    Calls Tryd.prog 8 #[.slice oa la ca, .string s] w fun e w' => e = .returned (.bool true) ∧ Below w.heap.size w w' := by
  go_enter Tryd.func8, Tryd.ntmps8
  have hbw : Below w.heap.size w w := Below.refl _ _
  go_wp2_with fail
  refine (TX.out).mono ?_
  rintro e w1 ⟨rfl, hbel⟩
  replace ata := ata.below hbel
  replace tab := tab.below hbel
  replace hbw := hbw.trans (hbel.mono hbw.size)
  clear hbel
  go_wp2_with fail
  refine (wawake_true _ tab).mono ?_
  rintro e w2 ⟨rfl, hbel⟩
  replace ata := ata.below hbel
  replace tab := tab.below hbel
  replace hbw := hbw.trans (hbel.mono hbw.size)
  clear hbel
  clear tab
  go_wp2_with fail
  refine (parse_pr s _ z2 0 hz2).mono ?_
  rintro e w3 ⟨v, r1, rfl, hown1, is1, hbel⟩
  obtain ⟨o1, c1, rfl, hl1, hm1, at1⟩ := hown1.shape
  clear hown1
  replace ata := ata.below hbel
  replace hbw := hbw.trans (hbel.mono hbw.size)
  clear hbel
  go_wp2_with fail
  refine (pow10_at _ s.size _ rfl hfs).mono ?_
  rintro e w4 ⟨v, r2, rfl, hown2, is2, hbel⟩
  obtain ⟨o2, c2, rfl, hl2, hm2, at2⟩ := hown2.shape
  clear hown2
  replace ata := ata.below hbel
  replace at1 := at1.below hbel
  replace hbw := hbw.trans (hbel.mono hbw.size)
  clear hbel
  go_wp2_with fail
  refine (parse_pr _ _ z3 0 hz3).mono ?_
  rintro e w5 ⟨v, r3, rfl, hown3, is3, hbel⟩
  obtain ⟨o3, c3, rfl, hl3, hm3, at3⟩ := hown3.shape
  clear hown3
  replace ata := ata.below hbel
  replace at1 := at1.below hbel
  replace at2 := at2.below hbel
  replace hbw := hbw.trans (hbel.mono hbw.size)
  clear hbel
  go_wp2_with fail
  refine (mul_any oa o2 la ca r2.length c2 xa r2 _ hla (by omega) hl2 (by omega) hxa rfl ata at2 oka is2.1).mono ?_
  rintro e w6 ⟨v, r7, rfl, hown7, is7, hbel⟩
  obtain ⟨o7, c7, rfl, hl7, hm7, at7⟩ := hown7.shape
  clear hown7
  replace ata := ata.below hbel
  replace at1 := at1.below hbel
  replace at2 := at2.below hbel
  replace at3 := at3.below hbel
  replace hbw := hbw.trans (hbel.mono hbw.size)
  clear hbel
  go_wp2_with fail
  refine (add_any o7 o1 r7.length c7 r1.length c1 r7 r1 _ hl7 (by omega) hl1 (by omega) rfl rfl at7 at1 is7.1 is1.1).mono ?_
  rintro e w7 ⟨v, r8, rfl, hown8, is8, hbel⟩
  obtain ⟨o8, c8, rfl, hl8, hm8, at8⟩ := hown8.shape
  clear hown8
  replace ata := ata.below hbel
  replace at1 := at1.below hbel
  replace at2 := at2.below hbel
  replace at3 := at3.below hbel
  replace at7 := at7.below hbel
  replace hbw := hbw.trans (hbel.mono hbw.size)
  clear hbel
  have eq : Hid (r3 = r8) := is3.same is8 (by rw [is7.2.2, is2.2.2, is1.2.2]; exact hsum.out)
  go_wp2_with fail
  refine (same_any o3 o8 r3.length c3 r8.length c8 r3 r8 _ (by omega) rfl rfl at3 at8).mono ?_
  rintro e w8 ⟨rfl, hbel⟩
  rw [show decide (r3 = r8) = true from decide_eq_true eq.out]
  replace ata := ata.below hbel
  replace at1 := at1.below hbel
  replace at2 := at2.below hbel
  replace at3 := at3.below hbel
  replace at7 := at7.below hbel
  replace at8 := at8.below hbel
  replace hbw := hbw.trans (hbel.mono hbw.size)
  clear hbel
  clear eq
  clear at7
  clear is7 hl7 hm7
  clear at8
  clear is8 hl8 hm8
  clear at1
  clear is1 hl1 hm1
  clear at2
  clear is2 hl2 hm2
  clear at3
  clear is3 hl3 hm3
  go_wp2_with fail
  refine (pow10_at _ k _ ?hn hk8).mono ?_
  case hn => go_num
  rintro e w9 ⟨v, r4, rfl, hown4, is4, hbel⟩
  obtain ⟨o4, c4, rfl, hl4, hm4, at4⟩ := hown4.shape
  clear hown4
  replace ata := ata.below hbel
  replace hbw := hbw.trans (hbel.mono hbw.size)
  clear hbel
  go_wp2_with fail
  replace ata := ata.alloc (Obj.cells #[Value.int IntKind.u64 10] 56)
  replace at4 := at4.alloc (Obj.cells #[Value.int IntKind.u64 10] 56)
  have atL : At .u64 (w9.alloc (Obj.cells #[Value.int IntKind.u64 10] 56)) (some ⟨w9.heap.size, 0, none⟩) [10] := lit_new _ _ rfl [10]
  replace hbw := hbw.alloc hbw.size (Obj.cells #[Value.int IntKind.u64 10] 56)
  go_wp2_with fail
  refine (mul_any o4 (some ⟨w9.heap.size, 0, none⟩) r4.length c4 1 1 r4 [10] _ hl4 (by omega) (Nat.le_refl _) (by omega) rfl rfl at4 atL is4.1 (ok_of (by decide +kernel) : Ok B64 [10])).mono ?_
  rintro e w10 ⟨v, r6, rfl, hown6, is6, hbel⟩
  obtain ⟨o6, c6, rfl, hl6, hm6, at6⟩ := hown6.shape
  clear hown6
  replace ata := ata.below hbel
  replace at4 := at4.below hbel
  replace atL := atL.below hbel
  replace hbw := hbw.trans (hbel.mono hbw.size)
  clear hbel
  go_wp2_with fail
  refine (cmp_num o4 oa r4.length c4 la ca r4 xa _ (by omega) (by omega) rfl hxa at4 ata is4.1 oka zc (by rw [is4.2.2]; exact hlow.out)).mono ?_
  rintro e w11 ⟨rfl, hbel⟩
  replace ata := ata.below hbel
  replace at4 := at4.below hbel
  replace atL := atL.below hbel
  replace at6 := at6.below hbel
  replace hbw := hbw.trans (hbel.mono hbw.size)
  clear hbel
  go_wp2_with fail
  refine (cmp_num oa o6 la ca r6.length c6 xa r6 _ (by omega) (by omega) hxa rfl ata at6 oka is6.1 (-1) (by rw [is6.2.2, is4.2.2, num10]; exact hhi.out)).mono ?_
  rintro e w12 ⟨rfl, hbel⟩
  replace ata := ata.below hbel
  replace at4 := at4.below hbel
  replace atL := atL.below hbel
  replace at6 := at6.below hbel
  replace hbw := hbw.trans (hbel.mono hbw.size)
  clear hbel
  go_wp2
  go_ret
  exact ⟨rfl, hbw⟩

set_option maxRecDepth 100000 in
set_option maxHeartbeats 2000000 in
theorem wrows_0_20_z (w : World) (tab : Tab w) (oa : Option Addr) (la ca : Nat) (xa : List Nat) (hla : la ≤ ca) (hca : ca ≤ 1048576) (hxa : xa.length = la) (ata : At .u64 w oa xa) (oka : Ok B64 xa) (s : ByteArray) (hs : s.size ≤ 1048576) (z2 z3 : Nat) (hfs : s.size ≤ 8192) (hz2 : PR s z2 0) (hz3 : PR ((⟨#[48]⟩ : ByteArray) ++ s) z3 20) (hnum : Hid (cmpN (num B64 xa) (num B64 []) = 0))
    (TX : Hid (Calls Tryd.prog 16 #[.slice oa la ca] w fun e w' => e = .returned (.string (⟨#[48]⟩ : ByteArray)) ∧ Below w.heap.size w w')) :
    Calls Tryd.prog 8 #[.slice oa la ca, .string s] w fun e w' => e = .returned (.bool true) ∧ Below w.heap.size w w' := by
  go_enter Tryd.func8, Tryd.ntmps8
  have hbw : Below w.heap.size w w := Below.refl _ _
  go_wp2_with fail
  refine (TX.out).mono ?_
  rintro e w1 ⟨rfl, hbel⟩
  replace ata := ata.below hbel
  replace tab := tab.below hbel
  replace hbw := hbw.trans (hbel.mono hbw.size)
  clear hbel
  go_wp2_with fail
  refine (wawake_true _ tab).mono ?_
  rintro e w2 ⟨rfl, hbel⟩
  replace ata := ata.below hbel
  replace tab := tab.below hbel
  replace hbw := hbw.trans (hbel.mono hbw.size)
  clear hbel
  clear tab
  go_wp2_with fail
  refine (parse_pr s _ z2 0 hz2).mono ?_
  rintro e w3 ⟨v, r1, rfl, hown1, is1, hbel⟩
  obtain ⟨o1, c1, rfl, hl1, hm1, at1⟩ := hown1.shape
  clear hown1
  replace ata := ata.below hbel
  replace hbw := hbw.trans (hbel.mono hbw.size)
  clear hbel
  go_wp2_with fail
  refine (pow10_at _ s.size _ rfl hfs).mono ?_
  rintro e w4 ⟨v, r2, rfl, hown2, is2, hbel⟩
  obtain ⟨o2, c2, rfl, hl2, hm2, at2⟩ := hown2.shape
  clear hown2
  replace ata := ata.below hbel
  replace at1 := at1.below hbel
  replace hbw := hbw.trans (hbel.mono hbw.size)
  clear hbel
  go_wp2_with fail
  refine (parse_pr _ _ z3 20 hz3).mono ?_
  rintro e w5 ⟨v, r3, rfl, hown3, is3, hbel⟩
  obtain ⟨o3, c3, rfl, hl3, hm3, at3⟩ := hown3.shape
  clear hown3
  replace ata := ata.below hbel
  replace at1 := at1.below hbel
  replace at2 := at2.below hbel
  replace hbw := hbw.trans (hbel.mono hbw.size)
  clear hbel
  clear at1
  clear is1 hl1 hm1
  clear at2
  clear is2 hl2 hm2
  clear at3
  clear is3 hl3 hm3
  go_wp2_with fail
  refine (cmp_num oa none la ca 0 0 xa [] _ (by omega) (by omega) hxa rfl ata (At.nil _ _ _) oka (Is.none (by decide)).1 0 hnum.out).mono ?_
  rintro e w6 ⟨rfl, hbel⟩
  replace ata := ata.below hbel
  replace hbw := hbw.trans (hbel.mono hbw.size)
  clear hbel
  go_wp2
  go_ret
  exact ⟨rfl, hbw⟩

set_option maxRecDepth 100000 in
set_option maxHeartbeats 2000000 in
theorem wrows_0_21_z (w : World) (tab : Tab w) (oa : Option Addr) (la ca : Nat) (xa : List Nat) (hla : la ≤ ca) (hca : ca ≤ 1048576) (hxa : xa.length = la) (ata : At .u64 w oa xa) (oka : Ok B64 xa) (s : ByteArray) (hs : s.size ≤ 1048576) (z2 z3 : Nat) (hfs : s.size ≤ 8192) (hz2 : PR s z2 0) (hz3 : PR ((⟨#[48]⟩ : ByteArray) ++ s) z3 21) (hnum : Hid (cmpN (num B64 xa) (num B64 []) = 0))
    (TX : Hid (Calls Tryd.prog 16 #[.slice oa la ca] w fun e w' => e = .returned (.string (⟨#[48]⟩ : ByteArray)) ∧ Below w.heap.size w w')) :
    Calls Tryd.prog 8 #[.slice oa la ca, .string s] w fun e w' => e = .returned (.bool true) ∧ Below w.heap.size w w' := by
  go_enter Tryd.func8, Tryd.ntmps8
  have hbw : Below w.heap.size w w := Below.refl _ _
  go_wp2_with fail
  refine (TX.out).mono ?_
  rintro e w1 ⟨rfl, hbel⟩
  replace ata := ata.below hbel
  replace tab := tab.below hbel
  replace hbw := hbw.trans (hbel.mono hbw.size)
  clear hbel
  go_wp2_with fail
  refine (wawake_true _ tab).mono ?_
  rintro e w2 ⟨rfl, hbel⟩
  replace ata := ata.below hbel
  replace tab := tab.below hbel
  replace hbw := hbw.trans (hbel.mono hbw.size)
  clear hbel
  clear tab
  go_wp2_with fail
  refine (parse_pr s _ z2 0 hz2).mono ?_
  rintro e w3 ⟨v, r1, rfl, hown1, is1, hbel⟩
  obtain ⟨o1, c1, rfl, hl1, hm1, at1⟩ := hown1.shape
  clear hown1
  replace ata := ata.below hbel
  replace hbw := hbw.trans (hbel.mono hbw.size)
  clear hbel
  go_wp2_with fail
  refine (pow10_at _ s.size _ rfl hfs).mono ?_
  rintro e w4 ⟨v, r2, rfl, hown2, is2, hbel⟩
  obtain ⟨o2, c2, rfl, hl2, hm2, at2⟩ := hown2.shape
  clear hown2
  replace ata := ata.below hbel
  replace at1 := at1.below hbel
  replace hbw := hbw.trans (hbel.mono hbw.size)
  clear hbel
  go_wp2_with fail
  refine (parse_pr _ _ z3 21 hz3).mono ?_
  rintro e w5 ⟨v, r3, rfl, hown3, is3, hbel⟩
  obtain ⟨o3, c3, rfl, hl3, hm3, at3⟩ := hown3.shape
  clear hown3
  replace ata := ata.below hbel
  replace at1 := at1.below hbel
  replace at2 := at2.below hbel
  replace hbw := hbw.trans (hbel.mono hbw.size)
  clear hbel
  clear at1
  clear is1 hl1 hm1
  clear at2
  clear is2 hl2 hm2
  clear at3
  clear is3 hl3 hm3
  go_wp2_with fail
  refine (cmp_num oa none la ca 0 0 xa [] _ (by omega) (by omega) hxa rfl ata (At.nil _ _ _) oka (Is.none (by decide)).1 0 hnum.out).mono ?_
  rintro e w6 ⟨rfl, hbel⟩
  replace ata := ata.below hbel
  replace hbw := hbw.trans (hbel.mono hbw.size)
  clear hbel
  go_wp2
  go_ret
  exact ⟨rfl, hbw⟩

set_option maxRecDepth 100000 in
set_option maxHeartbeats 2000000 in
theorem wrows_0_21_l (w : World) (tab : Tab w) (oa : Option Addr) (la ca : Nat) (xa : List Nat) (_hla : la ≤ ca) (_hca : ca ≤ 1048576) (_hxa : xa.length = la) (ata : At .u64 w oa xa) (_oka : Ok B64 xa) (s : ByteArray) (hs : s.size ≤ 1048576) (ds : ByteArray) (hpos : 0 < ds.size) (hdsz : ds.size ≤ 30000000) (hne : (ds.toList == [48]) = false) (z2 z3 : Nat) (hfs : s.size ≤ 8192) (hz2 : PR s z2 0) (hz3 : PR (ds ++ s) z3 21) (hlen : ¬ ((ds.size : Int) + (s.size : Int) ≤ 8192)) (hlong : 8193 < (ds.size : Int))
    (TX : Hid (Calls Tryd.prog 16 #[.slice oa la ca] w fun e w' => e = .returned (.string ds) ∧ Below w.heap.size w w')) :
    Calls Tryd.prog 8 #[.slice oa la ca, .string s] w fun e w' => e = .returned (.bool true) ∧ Below w.heap.size w w' := by
  go_enter Tryd.func8, Tryd.ntmps8
  have hbw : Below w.heap.size w w := Below.refl _ _
  go_wp2_with fail
  refine (TX.out).mono ?_
  rintro e w1 ⟨rfl, hbel⟩
  replace ata := ata.below hbel
  replace tab := tab.below hbel
  replace hbw := hbw.trans (hbel.mono hbw.size)
  clear hbel
  go_wp2_with fail
  refine (wawake_true _ tab).mono ?_
  rintro e w2 ⟨rfl, hbel⟩
  replace ata := ata.below hbel
  replace tab := tab.below hbel
  replace hbw := hbw.trans (hbel.mono hbw.size)
  clear hbel
  clear tab
  go_wp2_with fail
  refine (parse_pr s _ z2 0 hz2).mono ?_
  rintro e w3 ⟨v, r1, rfl, hown1, is1, hbel⟩
  obtain ⟨o1, c1, rfl, hl1, hm1, at1⟩ := hown1.shape
  clear hown1
  replace ata := ata.below hbel
  replace hbw := hbw.trans (hbel.mono hbw.size)
  clear hbel
  go_wp2_with fail
  refine (pow10_at _ s.size _ rfl hfs).mono ?_
  rintro e w4 ⟨v, r2, rfl, hown2, is2, hbel⟩
  obtain ⟨o2, c2, rfl, hl2, hm2, at2⟩ := hown2.shape
  clear hown2
  replace ata := ata.below hbel
  replace at1 := at1.below hbel
  replace hbw := hbw.trans (hbel.mono hbw.size)
  clear hbel
  go_wp2_with fail
  refine (parse_pr _ _ z3 21 hz3).mono ?_
  rintro e w5 ⟨v, r3, rfl, hown3, is3, hbel⟩
  obtain ⟨o3, c3, rfl, hl3, hm3, at3⟩ := hown3.shape
  clear hown3
  replace ata := ata.below hbel
  replace at1 := at1.below hbel
  replace at2 := at2.below hbel
  replace hbw := hbw.trans (hbel.mono hbw.size)
  clear hbel
  clear at1
  clear is1 hl1 hm1
  clear at2
  clear is2 hl2 hm2
  clear at3
  clear is3 hl3 hm3
  go_wp2
  go_ret
  exact ⟨rfl, hbw⟩

set_option maxRecDepth 100000 in
set_option maxHeartbeats 2000000 in
theorem wrows_0_21_m (w : World) (tab : Tab w) (oa : Option Addr) (la ca : Nat) (xa : List Nat) (hla : la ≤ ca) (hca : ca ≤ 1048576) (hxa : xa.length = la) (ata : At .u64 w oa xa) (oka : Ok B64 xa) (s : ByteArray) (hs : s.size ≤ 1048576) (ds : ByteArray) (hpos : 0 < ds.size) (hdsz : ds.size ≤ 30000000) (hne : (ds.toList == [48]) = false) (z2 z3 : Nat) (hfs : s.size ≤ 8192) (hz2 : PR s z2 0) (hz3 : PR (ds ++ s) z3 21) (hlen : ¬ ((ds.size : Int) + (s.size : Int) ≤ 8192)) (k : Nat) (hk : ds.size = k + 1) (hk8 : k ≤ 8192) (_hshort : ¬ 8193 < (ds.size : Int)) (zc : Int) (hzc : zc ≤ 0) (hlow : Hid (cmpN (10 ^ k) (num B64 xa) = zc)) (hhi : Hid (cmpN (num B64 xa) (10 ^ k * 10) = -1))
    (TX : Hid (Calls Tryd.prog 16 #[.slice oa la ca] w fun e w' => e = .returned (.string ds) ∧ Below w.heap.size w w')) :
    Calls Tryd.prog 8 #[.slice oa la ca, .string s] w fun e w' => e = .returned (.bool true) ∧ Below w.heap.size w w' := by
  go_enter Tryd.func8, Tryd.ntmps8
  have hbw : Below w.heap.size w w := Below.refl _ _
  go_wp2_with fail
  refine (TX.out).mono ?_
  rintro e w1 ⟨rfl, hbel⟩
  replace ata := ata.below hbel
  replace tab := tab.below hbel
  replace hbw := hbw.trans (hbel.mono hbw.size)
  clear hbel
  go_wp2_with fail
  refine (wawake_true _ tab).mono ?_
  rintro e w2 ⟨rfl, hbel⟩
  replace ata := ata.below hbel
  replace tab := tab.below hbel
  replace hbw := hbw.trans (hbel.mono hbw.size)
  clear hbel
  clear tab
  go_wp2_with fail
  refine (parse_pr s _ z2 0 hz2).mono ?_
  rintro e w3 ⟨v, r1, rfl, hown1, is1, hbel⟩
  obtain ⟨o1, c1, rfl, hl1, hm1, at1⟩ := hown1.shape
  clear hown1
  replace ata := ata.below hbel
  replace hbw := hbw.trans (hbel.mono hbw.size)
  clear hbel
  go_wp2_with fail
  refine (pow10_at _ s.size _ rfl hfs).mono ?_
  rintro e w4 ⟨v, r2, rfl, hown2, is2, hbel⟩
  obtain ⟨o2, c2, rfl, hl2, hm2, at2⟩ := hown2.shape
  clear hown2
  replace ata := ata.below hbel
  replace at1 := at1.below hbel
  replace hbw := hbw.trans (hbel.mono hbw.size)
  clear hbel
  go_wp2_with fail
  refine (parse_pr _ _ z3 21 hz3).mono ?_
  rintro e w5 ⟨v, r3, rfl, hown3, is3, hbel⟩
  obtain ⟨o3, c3, rfl, hl3, hm3, at3⟩ := hown3.shape
  clear hown3
  replace ata := ata.below hbel
  replace at1 := at1.below hbel
  replace at2 := at2.below hbel
  replace hbw := hbw.trans (hbel.mono hbw.size)
  clear hbel
  clear at1
  clear is1 hl1 hm1
  clear at2
  clear is2 hl2 hm2
  clear at3
  clear is3 hl3 hm3
  go_wp2_with fail
  refine (pow10_at _ k _ ?hn hk8).mono ?_
  case hn => go_num
  rintro e w6 ⟨v, r4, rfl, hown4, is4, hbel⟩
  obtain ⟨o4, c4, rfl, hl4, hm4, at4⟩ := hown4.shape
  clear hown4
  replace ata := ata.below hbel
  replace hbw := hbw.trans (hbel.mono hbw.size)
  clear hbel
  go_wp2_with fail
  replace ata := ata.alloc (Obj.cells #[Value.int IntKind.u64 10] 56)
  replace at4 := at4.alloc (Obj.cells #[Value.int IntKind.u64 10] 56)
  have atL : At .u64 (w6.alloc (Obj.cells #[Value.int IntKind.u64 10] 56)) (some ⟨w6.heap.size, 0, none⟩) [10] := lit_new _ _ rfl [10]
  replace hbw := hbw.alloc hbw.size (Obj.cells #[Value.int IntKind.u64 10] 56)
  go_wp2_with fail
  refine (mul_any o4 (some ⟨w6.heap.size, 0, none⟩) r4.length c4 1 1 r4 [10] _ hl4 (by omega) (Nat.le_refl _) (by omega) rfl rfl at4 atL is4.1 (ok_of (by decide +kernel) : Ok B64 [10])).mono ?_
  rintro e w7 ⟨v, r6, rfl, hown6, is6, hbel⟩
  obtain ⟨o6, c6, rfl, hl6, hm6, at6⟩ := hown6.shape
  clear hown6
  replace ata := ata.below hbel
  replace at4 := at4.below hbel
  replace atL := atL.below hbel
  replace hbw := hbw.trans (hbel.mono hbw.size)
  clear hbel
  go_wp2_with fail
  refine (cmp_num o4 oa r4.length c4 la ca r4 xa _ (by omega) (by omega) rfl hxa at4 ata is4.1 oka zc (by rw [is4.2.2]; exact hlow.out)).mono ?_
  rintro e w8 ⟨rfl, hbel⟩
  replace ata := ata.below hbel
  replace at4 := at4.below hbel
  replace atL := atL.below hbel
  replace at6 := at6.below hbel
  replace hbw := hbw.trans (hbel.mono hbw.size)
  clear hbel
  go_wp2_with fail
  refine (cmp_num oa o6 la ca r6.length c6 xa r6 _ (by omega) (by omega) hxa rfl ata at6 oka is6.1 (-1) (by rw [is6.2.2, is4.2.2, num10]; exact hhi.out)).mono ?_
  rintro e w9 ⟨rfl, hbel⟩
  replace ata := ata.below hbel
  replace at4 := at4.below hbel
  replace atL := atL.below hbel
  replace at6 := at6.below hbel
  replace hbw := hbw.trans (hbel.mono hbw.size)
  clear hbel
  go_wp2
  go_ret
  exact ⟨rfl, hbw⟩

set_option maxRecDepth 100000 in
set_option maxHeartbeats 2000000 in
theorem wrows_20_0_z (w : World) (tab : Tab w) (oa : Option Addr) (la ca : Nat) (xa : List Nat) (hla : la ≤ ca) (hca : ca ≤ 1048576) (hxa : xa.length = la) (ata : At .u64 w oa xa) (oka : Ok B64 xa) (s : ByteArray) (hs : s.size ≤ 1048576) (z2 z3 : Nat) (hfs : s.size ≤ 8192) (hz2 : PR s z2 20) (hz3 : PR ((⟨#[48]⟩ : ByteArray) ++ s) z3 0) (hnum : Hid (cmpN (num B64 xa) (num B64 []) = 0))
    (TX : Hid (Calls Tryd.prog 16 #[.slice oa la ca] w fun e w' => e = .returned (.string (⟨#[48]⟩ : ByteArray)) ∧ Below w.heap.size w w')) :
    Calls Tryd.prog 8 #[.slice oa la ca, .string s] w fun e w' => e = .returned (.bool true) ∧ Below w.heap.size w w' := by
  go_enter Tryd.func8, Tryd.ntmps8
  have hbw : Below w.heap.size w w := Below.refl _ _
  go_wp2_with fail
  refine (TX.out).mono ?_
  rintro e w1 ⟨rfl, hbel⟩
  replace ata := ata.below hbel
  replace tab := tab.below hbel
  replace hbw := hbw.trans (hbel.mono hbw.size)
  clear hbel
  go_wp2_with fail
  refine (wawake_true _ tab).mono ?_
  rintro e w2 ⟨rfl, hbel⟩
  replace ata := ata.below hbel
  replace tab := tab.below hbel
  replace hbw := hbw.trans (hbel.mono hbw.size)
  clear hbel
  clear tab
  go_wp2_with fail
  refine (parse_pr s _ z2 20 hz2).mono ?_
  rintro e w3 ⟨v, r1, rfl, hown1, is1, hbel⟩
  obtain ⟨o1, c1, rfl, hl1, hm1, at1⟩ := hown1.shape
  clear hown1
  replace ata := ata.below hbel
  replace hbw := hbw.trans (hbel.mono hbw.size)
  clear hbel
  go_wp2_with fail
  refine (pow10_at _ s.size _ rfl hfs).mono ?_
  rintro e w4 ⟨v, r2, rfl, hown2, is2, hbel⟩
  obtain ⟨o2, c2, rfl, hl2, hm2, at2⟩ := hown2.shape
  clear hown2
  replace ata := ata.below hbel
  replace at1 := at1.below hbel
  replace hbw := hbw.trans (hbel.mono hbw.size)
  clear hbel
  go_wp2_with fail
  refine (parse_pr _ _ z3 0 hz3).mono ?_
  rintro e w5 ⟨v, r3, rfl, hown3, is3, hbel⟩
  obtain ⟨o3, c3, rfl, hl3, hm3, at3⟩ := hown3.shape
  clear hown3
  replace ata := ata.below hbel
  replace at1 := at1.below hbel
  replace at2 := at2.below hbel
  replace hbw := hbw.trans (hbel.mono hbw.size)
  clear hbel
  clear at1
  clear is1 hl1 hm1
  clear at2
  clear is2 hl2 hm2
  clear at3
  clear is3 hl3 hm3
  go_wp2_with fail
  refine (cmp_num oa none la ca 0 0 xa [] _ (by omega) (by omega) hxa rfl ata (At.nil _ _ _) oka (Is.none (by decide)).1 0 hnum.out).mono ?_
  rintro e w6 ⟨rfl, hbel⟩
  replace ata := ata.below hbel
  replace hbw := hbw.trans (hbel.mono hbw.size)
  clear hbel
  go_wp2
  go_ret
  exact ⟨rfl, hbw⟩

set_option maxRecDepth 100000 in
set_option maxHeartbeats 2000000 in
theorem wrows_20_0_m (w : World) (tab : Tab w) (oa : Option Addr) (la ca : Nat) (xa : List Nat) (hla : la ≤ ca) (hca : ca ≤ 1048576) (hxa : xa.length = la) (ata : At .u64 w oa xa) (oka : Ok B64 xa) (s : ByteArray) (hs : s.size ≤ 1048576) (ds : ByteArray) (hpos : 0 < ds.size) (hdsz : ds.size ≤ 30000000) (hne : (ds.toList == [48]) = false) (z2 z3 : Nat) (hfs : s.size ≤ 8192) (hz2 : PR s z2 20) (hz3 : PR (ds ++ s) z3 0) (k : Nat) (hk : ds.size = k + 1) (hk8 : k ≤ 8192) (_hshort : ¬ 8193 < (ds.size : Int)) (zc : Int) (hzc : zc ≤ 0) (hlow : Hid (cmpN (10 ^ k) (num B64 xa) = zc)) (hhi : Hid (cmpN (num B64 xa) (10 ^ k * 10) = -1))
    (TX : Hid (Calls Tryd.prog 16 #[.slice oa la ca] w fun e w' => e = .returned (.string ds) ∧ Below w.heap.size w w')) :
    Calls Tryd.prog 8 #[.slice oa la ca, .string s] w fun e w' => e = .returned (.bool true) ∧ Below w.heap.size w w' := by
  go_enter Tryd.func8, Tryd.ntmps8
  have hbw : Below w.heap.size w w := Below.refl _ _
  go_wp2_with fail
  refine (TX.out).mono ?_
  rintro e w1 ⟨rfl, hbel⟩
  replace ata := ata.below hbel
  replace tab := tab.below hbel
  replace hbw := hbw.trans (hbel.mono hbw.size)
  clear hbel
  go_wp2_with fail
  refine (wawake_true _ tab).mono ?_
  rintro e w2 ⟨rfl, hbel⟩
  replace ata := ata.below hbel
  replace tab := tab.below hbel
  replace hbw := hbw.trans (hbel.mono hbw.size)
  clear hbel
  clear tab
  go_wp2_with fail
  refine (parse_pr s _ z2 20 hz2).mono ?_
  rintro e w3 ⟨v, r1, rfl, hown1, is1, hbel⟩
  obtain ⟨o1, c1, rfl, hl1, hm1, at1⟩ := hown1.shape
  clear hown1
  replace ata := ata.below hbel
  replace hbw := hbw.trans (hbel.mono hbw.size)
  clear hbel
  go_wp2_with fail
  refine (pow10_at _ s.size _ rfl hfs).mono ?_
  rintro e w4 ⟨v, r2, rfl, hown2, is2, hbel⟩
  obtain ⟨o2, c2, rfl, hl2, hm2, at2⟩ := hown2.shape
  clear hown2
  replace ata := ata.below hbel
  replace at1 := at1.below hbel
  replace hbw := hbw.trans (hbel.mono hbw.size)
  clear hbel
  go_wp2_with fail
  refine (parse_pr _ _ z3 0 hz3).mono ?_
  rintro e w5 ⟨v, r3, rfl, hown3, is3, hbel⟩
  obtain ⟨o3, c3, rfl, hl3, hm3, at3⟩ := hown3.shape
  clear hown3
  replace ata := ata.below hbel
  replace at1 := at1.below hbel
  replace at2 := at2.below hbel
  replace hbw := hbw.trans (hbel.mono hbw.size)
  clear hbel
  clear at1
  clear is1 hl1 hm1
  clear at2
  clear is2 hl2 hm2
  clear at3
  clear is3 hl3 hm3
  go_wp2_with fail
  refine (pow10_at _ k _ ?hn hk8).mono ?_
  case hn => go_num
  rintro e w6 ⟨v, r4, rfl, hown4, is4, hbel⟩
  obtain ⟨o4, c4, rfl, hl4, hm4, at4⟩ := hown4.shape
  clear hown4
  replace ata := ata.below hbel
  replace hbw := hbw.trans (hbel.mono hbw.size)
  clear hbel
  go_wp2_with fail
  replace ata := ata.alloc (Obj.cells #[Value.int IntKind.u64 10] 56)
  replace at4 := at4.alloc (Obj.cells #[Value.int IntKind.u64 10] 56)
  have atL : At .u64 (w6.alloc (Obj.cells #[Value.int IntKind.u64 10] 56)) (some ⟨w6.heap.size, 0, none⟩) [10] := lit_new _ _ rfl [10]
  replace hbw := hbw.alloc hbw.size (Obj.cells #[Value.int IntKind.u64 10] 56)
  go_wp2_with fail
  refine (mul_any o4 (some ⟨w6.heap.size, 0, none⟩) r4.length c4 1 1 r4 [10] _ hl4 (by omega) (Nat.le_refl _) (by omega) rfl rfl at4 atL is4.1 (ok_of (by decide +kernel) : Ok B64 [10])).mono ?_
  rintro e w7 ⟨v, r6, rfl, hown6, is6, hbel⟩
  obtain ⟨o6, c6, rfl, hl6, hm6, at6⟩ := hown6.shape
  clear hown6
  replace ata := ata.below hbel
  replace at4 := at4.below hbel
  replace atL := atL.below hbel
  replace hbw := hbw.trans (hbel.mono hbw.size)
  clear hbel
  go_wp2_with fail
  refine (cmp_num o4 oa r4.length c4 la ca r4 xa _ (by omega) (by omega) rfl hxa at4 ata is4.1 oka zc (by rw [is4.2.2]; exact hlow.out)).mono ?_
  rintro e w8 ⟨rfl, hbel⟩
  replace ata := ata.below hbel
  replace at4 := at4.below hbel
  replace atL := atL.below hbel
  replace at6 := at6.below hbel
  replace hbw := hbw.trans (hbel.mono hbw.size)
  clear hbel
  go_wp2_with fail
  refine (cmp_num oa o6 la ca r6.length c6 xa r6 _ (by omega) (by omega) hxa rfl ata at6 oka is6.1 (-1) (by rw [is6.2.2, is4.2.2, num10]; exact hhi.out)).mono ?_
  rintro e w9 ⟨rfl, hbel⟩
  replace ata := ata.below hbel
  replace at4 := at4.below hbel
  replace atL := atL.below hbel
  replace at6 := at6.below hbel
  replace hbw := hbw.trans (hbel.mono hbw.size)
  clear hbel
  go_wp2
  go_ret
  exact ⟨rfl, hbw⟩

set_option maxRecDepth 100000 in
set_option maxHeartbeats 2000000 in
theorem wrows_20_20_z (w : World) (tab : Tab w) (oa : Option Addr) (la ca : Nat) (xa : List Nat) (hla : la ≤ ca) (hca : ca ≤ 1048576) (hxa : xa.length = la) (ata : At .u64 w oa xa) (oka : Ok B64 xa) (s : ByteArray) (hs : s.size ≤ 1048576) (z2 z3 : Nat) (hfs : s.size ≤ 8192) (hz2 : PR s z2 20) (hz3 : PR ((⟨#[48]⟩ : ByteArray) ++ s) z3 20) (hnum : Hid (cmpN (num B64 xa) (num B64 []) = 0))
    (TX : Hid (Calls Tryd.prog 16 #[.slice oa la ca] w fun e w' => e = .returned (.string (⟨#[48]⟩ : ByteArray)) ∧ Below w.heap.size w w')) :
    Calls Tryd.prog 8 #[.slice oa la ca, .string s] w fun e w' => e = .returned (.bool true) ∧ Below w.heap.size w w' := by
  go_enter Tryd.func8, Tryd.ntmps8
  have hbw : Below w.heap.size w w := Below.refl _ _
  go_wp2_with fail
  refine (TX.out).mono ?_
  rintro e w1 ⟨rfl, hbel⟩
  replace ata := ata.below hbel
  replace tab := tab.below hbel
  replace hbw := hbw.trans (hbel.mono hbw.size)
  clear hbel
  go_wp2_with fail
  refine (wawake_true _ tab).mono ?_
  rintro e w2 ⟨rfl, hbel⟩
  replace ata := ata.below hbel
  replace tab := tab.below hbel
  replace hbw := hbw.trans (hbel.mono hbw.size)
  clear hbel
  clear tab
  go_wp2_with fail
  refine (parse_pr s _ z2 20 hz2).mono ?_
  rintro e w3 ⟨v, r1, rfl, hown1, is1, hbel⟩
  obtain ⟨o1, c1, rfl, hl1, hm1, at1⟩ := hown1.shape
  clear hown1
  replace ata := ata.below hbel
  replace hbw := hbw.trans (hbel.mono hbw.size)
  clear hbel
  go_wp2_with fail
  refine (pow10_at _ s.size _ rfl hfs).mono ?_
  rintro e w4 ⟨v, r2, rfl, hown2, is2, hbel⟩
  obtain ⟨o2, c2, rfl, hl2, hm2, at2⟩ := hown2.shape
  clear hown2
  replace ata := ata.below hbel
  replace at1 := at1.below hbel
  replace hbw := hbw.trans (hbel.mono hbw.size)
  clear hbel
  go_wp2_with fail
  refine (parse_pr _ _ z3 20 hz3).mono ?_
  rintro e w5 ⟨v, r3, rfl, hown3, is3, hbel⟩
  obtain ⟨o3, c3, rfl, hl3, hm3, at3⟩ := hown3.shape
  clear hown3
  replace ata := ata.below hbel
  replace at1 := at1.below hbel
  replace at2 := at2.below hbel
  replace hbw := hbw.trans (hbel.mono hbw.size)
  clear hbel
  clear at1
  clear is1 hl1 hm1
  clear at2
  clear is2 hl2 hm2
  clear at3
  clear is3 hl3 hm3
  go_wp2_with fail
  refine (cmp_num oa none la ca 0 0 xa [] _ (by omega) (by omega) hxa rfl ata (At.nil _ _ _) oka (Is.none (by decide)).1 0 hnum.out).mono ?_
  rintro e w6 ⟨rfl, hbel⟩
  replace ata := ata.below hbel
  replace hbw := hbw.trans (hbel.mono hbw.size)
  clear hbel
  go_wp2
  go_ret
  exact ⟨rfl, hbw⟩

set_option maxRecDepth 100000 in
set_option maxHeartbeats 2000000 in
theorem wrows_20_20_m (w : World) (tab : Tab w) (oa : Option Addr) (la ca : Nat) (xa : List Nat) (hla : la ≤ ca) (hca : ca ≤ 1048576) (hxa : xa.length = la) (ata : At .u64 w oa xa) (oka : Ok B64 xa) (s : ByteArray) (hs : s.size ≤ 1048576) (ds : ByteArray) (hpos : 0 < ds.size) (hdsz : ds.size ≤ 30000000) (hne : (ds.toList == [48]) = false) (z2 z3 : Nat) (hfs : s.size ≤ 8192) (hz2 : PR s z2 20) (hz3 : PR (ds ++ s) z3 20) (k : Nat) (hk : ds.size = k + 1) (hk8 : k ≤ 8192) (_hshort : ¬ 8193 < (ds.size : Int)) (zc : Int) (hzc : zc ≤ 0) (hlow : Hid (cmpN (10 ^ k) (num B64 xa) = zc)) (hhi : Hid (cmpN (num B64 xa) (10 ^ k * 10) = -1))
    (TX : Hid (Calls Tryd.prog 16 #[.slice oa la ca] w fun e w' => e = .returned (.string ds) ∧ Below w.heap.size w w')) :
    Calls Tryd.prog 8 #[.slice oa la ca, .string s] w fun e w' => e = .returned (.bool true) ∧ Below w.heap.size w w' := by
  go_enter Tryd.func8, Tryd.ntmps8
  have hbw : Below w.heap.size w w := Below.refl _ _
  go_wp2_with fail
  refine (TX.out).mono ?_
  rintro e w1 ⟨rfl, hbel⟩
  replace ata := ata.below hbel
  replace tab := tab.below hbel
  replace hbw := hbw.trans (hbel.mono hbw.size)
  clear hbel
  go_wp2_with fail
  refine (wawake_true _ tab).mono ?_
  rintro e w2 ⟨rfl, hbel⟩
  replace ata := ata.below hbel
  replace tab := tab.below hbel
  replace hbw := hbw.trans (hbel.mono hbw.size)
  clear hbel
  clear tab
  go_wp2_with fail
  refine (parse_pr s _ z2 20 hz2).mono ?_
  rintro e w3 ⟨v, r1, rfl, hown1, is1, hbel⟩
  obtain ⟨o1, c1, rfl, hl1, hm1, at1⟩ := hown1.shape
  clear hown1
  replace ata := ata.below hbel
  replace hbw := hbw.trans (hbel.mono hbw.size)
  clear hbel
  go_wp2_with fail
  refine (pow10_at _ s.size _ rfl hfs).mono ?_
  rintro e w4 ⟨v, r2, rfl, hown2, is2, hbel⟩
  obtain ⟨o2, c2, rfl, hl2, hm2, at2⟩ := hown2.shape
  clear hown2
  replace ata := ata.below hbel
  replace at1 := at1.below hbel
  replace hbw := hbw.trans (hbel.mono hbw.size)
  clear hbel
  go_wp2_with fail
  refine (parse_pr _ _ z3 20 hz3).mono ?_
  rintro e w5 ⟨v, r3, rfl, hown3, is3, hbel⟩
  obtain ⟨o3, c3, rfl, hl3, hm3, at3⟩ := hown3.shape
  clear hown3
  replace ata := ata.below hbel
  replace at1 := at1.below hbel
  replace at2 := at2.below hbel
  replace hbw := hbw.trans (hbel.mono hbw.size)
  clear hbel
  clear at1
  clear is1 hl1 hm1
  clear at2
  clear is2 hl2 hm2
  clear at3
  clear is3 hl3 hm3
  go_wp2_with fail
  refine (pow10_at _ k _ ?hn hk8).mono ?_
  case hn => go_num
  rintro e w6 ⟨v, r4, rfl, hown4, is4, hbel⟩
  obtain ⟨o4, c4, rfl, hl4, hm4, at4⟩ := hown4.shape
  clear hown4
  replace ata := ata.below hbel
  replace hbw := hbw.trans (hbel.mono hbw.size)
  clear hbel
  go_wp2_with fail
  replace ata := ata.alloc (Obj.cells #[Value.int IntKind.u64 10] 56)
  replace at4 := at4.alloc (Obj.cells #[Value.int IntKind.u64 10] 56)
  have atL : At .u64 (w6.alloc (Obj.cells #[Value.int IntKind.u64 10] 56)) (some ⟨w6.heap.size, 0, none⟩) [10] := lit_new _ _ rfl [10]
  replace hbw := hbw.alloc hbw.size (Obj.cells #[Value.int IntKind.u64 10] 56)
  go_wp2_with fail
  refine (mul_any o4 (some ⟨w6.heap.size, 0, none⟩) r4.length c4 1 1 r4 [10] _ hl4 (by omega) (Nat.le_refl _) (by omega) rfl rfl at4 atL is4.1 (ok_of (by decide +kernel) : Ok B64 [10])).mono ?_
  rintro e w7 ⟨v, r6, rfl, hown6, is6, hbel⟩
  obtain ⟨o6, c6, rfl, hl6, hm6, at6⟩ := hown6.shape
  clear hown6
  replace ata := ata.below hbel
  replace at4 := at4.below hbel
  replace atL := atL.below hbel
  replace hbw := hbw.trans (hbel.mono hbw.size)
  clear hbel
  go_wp2_with fail
  refine (cmp_num o4 oa r4.length c4 la ca r4 xa _ (by omega) (by omega) rfl hxa at4 ata is4.1 oka zc (by rw [is4.2.2]; exact hlow.out)).mono ?_
  rintro e w8 ⟨rfl, hbel⟩
  replace ata := ata.below hbel
  replace at4 := at4.below hbel
  replace atL := atL.below hbel
  replace at6 := at6.below hbel
  replace hbw := hbw.trans (hbel.mono hbw.size)
  clear hbel
  go_wp2_with fail
  refine (cmp_num oa o6 la ca r6.length c6 xa r6 _ (by omega) (by omega) hxa rfl ata at6 oka is6.1 (-1) (by rw [is6.2.2, is4.2.2, num10]; exact hhi.out)).mono ?_
  rintro e w9 ⟨rfl, hbel⟩
  replace ata := ata.below hbel
  replace at4 := at4.below hbel
  replace atL := atL.below hbel
  replace at6 := at6.below hbel
  replace hbw := hbw.trans (hbel.mono hbw.size)
  clear hbel
  go_wp2
  go_ret
  exact ⟨rfl, hbw⟩

set_option maxRecDepth 100000 in
set_option maxHeartbeats 2000000 in
theorem wrows_20_21_z (w : World) (tab : Tab w) (oa : Option Addr) (la ca : Nat) (xa : List Nat) (hla : la ≤ ca) (hca : ca ≤ 1048576) (hxa : xa.length = la) (ata : At .u64 w oa xa) (oka : Ok B64 xa) (s : ByteArray) (hs : s.size ≤ 1048576) (z2 z3 : Nat) (hfs : s.size ≤ 8192) (hz2 : PR s z2 20) (hz3 : PR ((⟨#[48]⟩ : ByteArray) ++ s) z3 21) (hnum : Hid (cmpN (num B64 xa) (num B64 []) = 0))
    (TX : Hid (Calls Tryd.prog 16 #[.slice oa la ca] w fun e w' => e = .returned (.string (⟨#[48]⟩ : ByteArray)) ∧ Below w.heap.size w w')) :
    Calls Tryd.prog 8 #[.slice oa la ca, .string s] w fun e w' => e = .returned (.bool true) ∧ Below w.heap.size w w' := by
  go_enter Tryd.func8, Tryd.ntmps8
  have hbw : Below w.heap.size w w := Below.refl _ _
  go_wp2_with fail
  refine (TX.out).mono ?_
  rintro e w1 ⟨rfl, hbel⟩
  replace ata := ata.below hbel
  replace tab := tab.below hbel
  replace hbw := hbw.trans (hbel.mono hbw.size)
  clear hbel
  go_wp2_with fail
  refine (wawake_true _ tab).mono ?_
  rintro e w2 ⟨rfl, hbel⟩
  replace ata := ata.below hbel
  replace tab := tab.below hbel
  replace hbw := hbw.trans (hbel.mono hbw.size)
  clear hbel
  clear tab
  go_wp2_with fail
  refine (parse_pr s _ z2 20 hz2).mono ?_
  rintro e w3 ⟨v, r1, rfl, hown1, is1, hbel⟩
  obtain ⟨o1, c1, rfl, hl1, hm1, at1⟩ := hown1.shape
  clear hown1
  replace ata := ata.below hbel
  replace hbw := hbw.trans (hbel.mono hbw.size)
  clear hbel
  go_wp2_with fail
  refine (pow10_at _ s.size _ rfl hfs).mono ?_
  rintro e w4 ⟨v, r2, rfl, hown2, is2, hbel⟩
  obtain ⟨o2, c2, rfl, hl2, hm2, at2⟩ := hown2.shape
  clear hown2
  replace ata := ata.below hbel
  replace at1 := at1.below hbel
  replace hbw := hbw.trans (hbel.mono hbw.size)
  clear hbel
  go_wp2_with fail
  refine (parse_pr _ _ z3 21 hz3).mono ?_
  rintro e w5 ⟨v, r3, rfl, hown3, is3, hbel⟩
  obtain ⟨o3, c3, rfl, hl3, hm3, at3⟩ := hown3.shape
  clear hown3
  replace ata := ata.below hbel
  replace at1 := at1.below hbel
  replace at2 := at2.below hbel
  replace hbw := hbw.trans (hbel.mono hbw.size)
  clear hbel
  clear at1
  clear is1 hl1 hm1
  clear at2
  clear is2 hl2 hm2
  clear at3
  clear is3 hl3 hm3
  go_wp2_with fail
  refine (cmp_num oa none la ca 0 0 xa [] _ (by omega) (by omega) hxa rfl ata (At.nil _ _ _) oka (Is.none (by decide)).1 0 hnum.out).mono ?_
  rintro e w6 ⟨rfl, hbel⟩
  replace ata := ata.below hbel
  replace hbw := hbw.trans (hbel.mono hbw.size)
  clear hbel
  go_wp2
  go_ret
  exact ⟨rfl, hbw⟩

set_option maxRecDepth 100000 in
set_option maxHeartbeats 2000000 in
theorem wrows_20_21_l (w : World) (tab : Tab w) (oa : Option Addr) (la ca : Nat) (xa : List Nat) (_hla : la ≤ ca) (_hca : ca ≤ 1048576) (_hxa : xa.length = la) (ata : At .u64 w oa xa) (_oka : Ok B64 xa) (s : ByteArray) (hs : s.size ≤ 1048576) (ds : ByteArray) (hpos : 0 < ds.size) (hdsz : ds.size ≤ 30000000) (hne : (ds.toList == [48]) = false) (z2 z3 : Nat) (hfs : s.size ≤ 8192) (hz2 : PR s z2 20) (hz3 : PR (ds ++ s) z3 21) (hlong : 8193 < (ds.size : Int))
    (TX : Hid (Calls Tryd.prog 16 #[.slice oa la ca] w fun e w' => e = .returned (.string ds) ∧ Below w.heap.size w w')) :
    Calls Tryd.prog 8 #[.slice oa la ca, .string s] w fun e w' => e = .returned (.bool true) ∧ Below w.heap.size w w' := by
  go_enter Tryd.func8, Tryd.ntmps8
  have hbw : Below w.heap.size w w := Below.refl _ _
  go_wp2_with fail
  refine (TX.out).mono ?_
  rintro e w1 ⟨rfl, hbel⟩
  replace ata := ata.below hbel
  replace tab := tab.below hbel
  replace hbw := hbw.trans (hbel.mono hbw.size)
  clear hbel
  go_wp2_with fail
  refine (wawake_true _ tab).mono ?_
  rintro e w2 ⟨rfl, hbel⟩
  replace ata := ata.below hbel
  replace tab := tab.below hbel
  replace hbw := hbw.trans (hbel.mono hbw.size)
  clear hbel
  clear tab
  go_wp2_with fail
  refine (parse_pr s _ z2 20 hz2).mono ?_
  rintro e w3 ⟨v, r1, rfl, hown1, is1, hbel⟩
  obtain ⟨o1, c1, rfl, hl1, hm1, at1⟩ := hown1.shape
  clear hown1
  replace ata := ata.below hbel
  replace hbw := hbw.trans (hbel.mono hbw.size)
  clear hbel
  go_wp2_with fail
  refine (pow10_at _ s.size _ rfl hfs).mono ?_
  rintro e w4 ⟨v, r2, rfl, hown2, is2, hbel⟩
  obtain ⟨o2, c2, rfl, hl2, hm2, at2⟩ := hown2.shape
  clear hown2
  replace ata := ata.below hbel
  replace at1 := at1.below hbel
  replace hbw := hbw.trans (hbel.mono hbw.size)
  clear hbel
  go_wp2_with fail
  refine (parse_pr _ _ z3 21 hz3).mono ?_
  rintro e w5 ⟨v, r3, rfl, hown3, is3, hbel⟩
  obtain ⟨o3, c3, rfl, hl3, hm3, at3⟩ := hown3.shape
  clear hown3
  replace ata := ata.below hbel
  replace at1 := at1.below hbel
  replace at2 := at2.below hbel
  replace hbw := hbw.trans (hbel.mono hbw.size)
  clear hbel
  clear at1
  clear is1 hl1 hm1
  clear at2
  clear is2 hl2 hm2
  clear at3
  clear is3 hl3 hm3
  go_wp2
  go_ret
  exact ⟨rfl, hbw⟩

set_option maxRecDepth 100000 in
set_option maxHeartbeats 2000000 in
theorem wrows_20_21_m (w : World) (tab : Tab w) (oa : Option Addr) (la ca : Nat) (xa : List Nat) (hla : la ≤ ca) (hca : ca ≤ 1048576) (hxa : xa.length = la) (ata : At .u64 w oa xa) (oka : Ok B64 xa) (s : ByteArray) (hs : s.size ≤ 1048576) (ds : ByteArray) (hpos : 0 < ds.size) (hdsz : ds.size ≤ 30000000) (hne : (ds.toList == [48]) = false) (z2 z3 : Nat) (hfs : s.size ≤ 8192) (hz2 : PR s z2 20) (hz3 : PR (ds ++ s) z3 21) (k : Nat) (hk : ds.size = k + 1) (hk8 : k ≤ 8192) (_hshort : ¬ 8193 < (ds.size : Int)) (zc : Int) (hzc : zc ≤ 0) (hlow : Hid (cmpN (10 ^ k) (num B64 xa) = zc)) (hhi : Hid (cmpN (num B64 xa) (10 ^ k * 10) = -1))
    (TX : Hid (Calls Tryd.prog 16 #[.slice oa la ca] w fun e w' => e = .returned (.string ds) ∧ Below w.heap.size w w')) :
    Calls Tryd.prog 8 #[.slice oa la ca, .string s] w fun e w' => e = .returned (.bool true) ∧ Below w.heap.size w w' := by
  go_enter Tryd.func8, Tryd.ntmps8
  have hbw : Below w.heap.size w w := Below.refl _ _
  go_wp2_with fail
  refine (TX.out).mono ?_
  rintro e w1 ⟨rfl, hbel⟩
  replace ata := ata.below hbel
  replace tab := tab.below hbel
  replace hbw := hbw.trans (hbel.mono hbw.size)
  clear hbel
  go_wp2_with fail
  refine (wawake_true _ tab).mono ?_
  rintro e w2 ⟨rfl, hbel⟩
  replace ata := ata.below hbel
  replace tab := tab.below hbel
  replace hbw := hbw.trans (hbel.mono hbw.size)
  clear hbel
  clear tab
  go_wp2_with fail
  refine (parse_pr s _ z2 20 hz2).mono ?_
  rintro e w3 ⟨v, r1, rfl, hown1, is1, hbel⟩
  obtain ⟨o1, c1, rfl, hl1, hm1, at1⟩ := hown1.shape
  clear hown1
  replace ata := ata.below hbel
  replace hbw := hbw.trans (hbel.mono hbw.size)
  clear hbel
  go_wp2_with fail
  refine (pow10_at _ s.size _ rfl hfs).mono ?_
  rintro e w4 ⟨v, r2, rfl, hown2, is2, hbel⟩
  obtain ⟨o2, c2, rfl, hl2, hm2, at2⟩ := hown2.shape
  clear hown2
  replace ata := ata.below hbel
  replace at1 := at1.below hbel
  replace hbw := hbw.trans (hbel.mono hbw.size)
  clear hbel
  go_wp2_with fail
  refine (parse_pr _ _ z3 21 hz3).mono ?_
  rintro e w5 ⟨v, r3, rfl, hown3, is3, hbel⟩
  obtain ⟨o3, c3, rfl, hl3, hm3, at3⟩ := hown3.shape
  clear hown3
  replace ata := ata.below hbel
  replace at1 := at1.below hbel
  replace at2 := at2.below hbel
  replace hbw := hbw.trans (hbel.mono hbw.size)
  clear hbel
  clear at1
  clear is1 hl1 hm1
  clear at2
  clear is2 hl2 hm2
  clear at3
  clear is3 hl3 hm3
  go_wp2_with fail
  refine (pow10_at _ k _ ?hn hk8).mono ?_
  case hn => go_num
  rintro e w6 ⟨v, r4, rfl, hown4, is4, hbel⟩
  obtain ⟨o4, c4, rfl, hl4, hm4, at4⟩ := hown4.shape
  clear hown4
  replace ata := ata.below hbel
  replace hbw := hbw.trans (hbel.mono hbw.size)
  clear hbel
  go_wp2_with fail
  replace ata := ata.alloc (Obj.cells #[Value.int IntKind.u64 10] 56)
  replace at4 := at4.alloc (Obj.cells #[Value.int IntKind.u64 10] 56)
  have atL : At .u64 (w6.alloc (Obj.cells #[Value.int IntKind.u64 10] 56)) (some ⟨w6.heap.size, 0, none⟩) [10] := lit_new _ _ rfl [10]
  replace hbw := hbw.alloc hbw.size (Obj.cells #[Value.int IntKind.u64 10] 56)
  go_wp2_with fail
  refine (mul_any o4 (some ⟨w6.heap.size, 0, none⟩) r4.length c4 1 1 r4 [10] _ hl4 (by omega) (Nat.le_refl _) (by omega) rfl rfl at4 atL is4.1 (ok_of (by decide +kernel) : Ok B64 [10])).mono ?_
  rintro e w7 ⟨v, r6, rfl, hown6, is6, hbel⟩
  obtain ⟨o6, c6, rfl, hl6, hm6, at6⟩ := hown6.shape
  clear hown6
  replace ata := ata.below hbel
  replace at4 := at4.below hbel
  replace atL := atL.below hbel
  replace hbw := hbw.trans (hbel.mono hbw.size)
  clear hbel
  go_wp2_with fail
  refine (cmp_num o4 oa r4.length c4 la ca r4 xa _ (by omega) (by omega) rfl hxa at4 ata is4.1 oka zc (by rw [is4.2.2]; exact hlow.out)).mono ?_
  rintro e w8 ⟨rfl, hbel⟩
  replace ata := ata.below hbel
  replace at4 := at4.below hbel
  replace atL := atL.below hbel
  replace at6 := at6.below hbel
  replace hbw := hbw.trans (hbel.mono hbw.size)
  clear hbel
  go_wp2_with fail
  refine (cmp_num oa o6 la ca r6.length c6 xa r6 _ (by omega) (by omega) hxa rfl ata at6 oka is6.1 (-1) (by rw [is6.2.2, is4.2.2, num10]; exact hhi.out)).mono ?_
  rintro e w9 ⟨rfl, hbel⟩
  replace ata := ata.below hbel
  replace at4 := at4.below hbel
  replace atL := atL.below hbel
  replace at6 := at6.below hbel
  replace hbw := hbw.trans (hbel.mono hbw.size)
  clear hbel
  go_wp2
  go_ret
  exact ⟨rfl, hbw⟩

set_option maxRecDepth 100000 in
set_option maxHeartbeats 2000000 in
theorem wrows_21_21_z (w : World) (tab : Tab w) (oa : Option Addr) (la ca : Nat) (xa : List Nat) (hla : la ≤ ca) (hca : ca ≤ 1048576) (hxa : xa.length = la) (ata : At .u64 w oa xa) (oka : Ok B64 xa) (s : ByteArray) (hs : s.size ≤ 1048576) (z2 z3 : Nat) (hfs : 8192 < (s.size : Int)) (hz2 : PR s z2 21) (hz3 : PR ((⟨#[48]⟩ : ByteArray) ++ s) z3 21) (hnum : Hid (cmpN (num B64 xa) (num B64 []) = 0))
    (TX : Hid (Calls Tryd.prog 16 #[.slice oa la ca] w fun e w' => e = .returned (.string (⟨#[48]⟩ : ByteArray)) ∧ Below w.heap.size w w')) :
    Calls Tryd.prog 8 #[.slice oa la ca, .string s] w fun e w' => e = .returned (.bool true) ∧ Below w.heap.size w w' := by
  go_enter Tryd.func8, Tryd.ntmps8
  have hbw : Below w.heap.size w w := Below.refl _ _
  go_wp2_with fail
  refine (TX.out).mono ?_
  rintro e w1 ⟨rfl, hbel⟩
  replace ata := ata.below hbel
  replace tab := tab.below hbel
  replace hbw := hbw.trans (hbel.mono hbw.size)
  clear hbel
  go_wp2_with fail
  refine (wawake_true _ tab).mono ?_
  rintro e w2 ⟨rfl, hbel⟩
  replace ata := ata.below hbel
  replace tab := tab.below hbel
  replace hbw := hbw.trans (hbel.mono hbw.size)
  clear hbel
  clear tab
  go_wp2_with fail
  refine (parse_pr s _ z2 21 hz2).mono ?_
  rintro e w3 ⟨v, r1, rfl, hown1, is1, hbel⟩
  obtain ⟨o1, c1, rfl, hl1, hm1, at1⟩ := hown1.shape
  clear hown1
  replace ata := ata.below hbel
  replace hbw := hbw.trans (hbel.mono hbw.size)
  clear hbel
  go_wp2_with fail
  refine (pow10_bad _ _ (.inr hfs)).mono ?_
  rintro e w4 ⟨v, r2, rfl, hown2, is2, hbel⟩
  obtain ⟨o2, c2, rfl, hl2, hm2, at2⟩ := hown2.shape
  clear hown2
  replace ata := ata.below hbel
  replace at1 := at1.below hbel
  replace hbw := hbw.trans (hbel.mono hbw.size)
  clear hbel
  go_wp2_with fail
  refine (parse_pr _ _ z3 21 hz3).mono ?_
  rintro e w5 ⟨v, r3, rfl, hown3, is3, hbel⟩
  obtain ⟨o3, c3, rfl, hl3, hm3, at3⟩ := hown3.shape
  clear hown3
  replace ata := ata.below hbel
  replace at1 := at1.below hbel
  replace at2 := at2.below hbel
  replace hbw := hbw.trans (hbel.mono hbw.size)
  clear hbel
  clear at1
  clear is1 hl1 hm1
  clear at2
  clear is2 hl2 hm2
  clear at3
  clear is3 hl3 hm3
  go_wp2_with fail
  refine (cmp_num oa none la ca 0 0 xa [] _ (by omega) (by omega) hxa rfl ata (At.nil _ _ _) oka (Is.none (by decide)).1 0 hnum.out).mono ?_
  rintro e w6 ⟨rfl, hbel⟩
  replace ata := ata.below hbel
  replace hbw := hbw.trans (hbel.mono hbw.size)
  clear hbel
  go_wp2
  go_ret
  exact ⟨rfl, hbw⟩

set_option maxRecDepth 100000 in
set_option maxHeartbeats 2000000 in
theorem wrows_21_21_l (w : World) (tab : Tab w) (oa : Option Addr) (la ca : Nat) (xa : List Nat) (_hla : la ≤ ca) (_hca : ca ≤ 1048576) (_hxa : xa.length = la) (ata : At .u64 w oa xa) (_oka : Ok B64 xa) (s : ByteArray) (hs : s.size ≤ 1048576) (ds : ByteArray) (hpos : 0 < ds.size) (hdsz : ds.size ≤ 30000000) (hne : (ds.toList == [48]) = false) (z2 z3 : Nat) (hfs : 8192 < (s.size : Int)) (hz2 : PR s z2 21) (hz3 : PR (ds ++ s) z3 21) (hlong : 8193 < (ds.size : Int))
    (TX : Hid (Calls Tryd.prog 16 #[.slice oa la ca] w fun e w' => e = .returned (.string ds) ∧ Below w.heap.size w w')) :
    Calls Tryd.prog 8 #[.slice oa la ca, .string s] w fun e w' => e = .returned (.bool true) ∧ Below w.heap.size w w' := by
  go_enter Tryd.func8, Tryd.ntmps8
  have hbw : Below w.heap.size w w := Below.refl _ _
  go_wp2_with fail
  refine (TX.out).mono ?_
  rintro e w1 ⟨rfl, hbel⟩
  replace ata := ata.below hbel
  replace tab := tab.below hbel
  replace hbw := hbw.trans (hbel.mono hbw.size)
  clear hbel
  go_wp2_with fail
  refine (wawake_true _ tab).mono ?_
  rintro e w2 ⟨rfl, hbel⟩
  replace ata := ata.below hbel
  replace tab := tab.below hbel
  replace hbw := hbw.trans (hbel.mono hbw.size)
  clear hbel
  clear tab
  go_wp2_with fail
  refine (parse_pr s _ z2 21 hz2).mono ?_
  rintro e w3 ⟨v, r1, rfl, hown1, is1, hbel⟩
  obtain ⟨o1, c1, rfl, hl1, hm1, at1⟩ := hown1.shape
  clear hown1
  replace ata := ata.below hbel
  replace hbw := hbw.trans (hbel.mono hbw.size)
  clear hbel
  go_wp2_with fail
  refine (pow10_bad _ _ (.inr hfs)).mono ?_
  rintro e w4 ⟨v, r2, rfl, hown2, is2, hbel⟩
  obtain ⟨o2, c2, rfl, hl2, hm2, at2⟩ := hown2.shape
  clear hown2
  replace ata := ata.below hbel
  replace at1 := at1.below hbel
  replace hbw := hbw.trans (hbel.mono hbw.size)
  clear hbel
  go_wp2_with fail
  refine (parse_pr _ _ z3 21 hz3).mono ?_
  rintro e w5 ⟨v, r3, rfl, hown3, is3, hbel⟩
  obtain ⟨o3, c3, rfl, hl3, hm3, at3⟩ := hown3.shape
  clear hown3
  replace ata := ata.below hbel
  replace at1 := at1.below hbel
  replace at2 := at2.below hbel
  replace hbw := hbw.trans (hbel.mono hbw.size)
  clear hbel
  clear at1
  clear is1 hl1 hm1
  clear at2
  clear is2 hl2 hm2
  clear at3
  clear is3 hl3 hm3
  go_wp2
  go_ret
  exact ⟨rfl, hbw⟩

set_option maxRecDepth 100000 in
set_option maxHeartbeats 2000000 in
theorem wrows_21_21_m (w : World) (tab : Tab w) (oa : Option Addr) (la ca : Nat) (xa : List Nat) (hla : la ≤ ca) (hca : ca ≤ 1048576) (hxa : xa.length = la) (ata : At .u64 w oa xa) (oka : Ok B64 xa) (s : ByteArray) (hs : s.size ≤ 1048576) (ds : ByteArray) (hpos : 0 < ds.size) (hdsz : ds.size ≤ 30000000) (hne : (ds.toList == [48]) = false) (z2 z3 : Nat) (hfs : 8192 < (s.size : Int)) (hz2 : PR s z2 21) (hz3 : PR (ds ++ s) z3 21) (k : Nat) (hk : ds.size = k + 1) (hk8 : k ≤ 8192) (_hshort : ¬ 8193 < (ds.size : Int)) (zc : Int) (hzc : zc ≤ 0) (hlow : Hid (cmpN (10 ^ k) (num B64 xa) = zc)) (hhi : Hid (cmpN (num B64 xa) (10 ^ k * 10) = -1))
    (TX : Hid (Calls Tryd.prog 16 #[.slice oa la ca] w fun e w' => e = .returned (.string ds) ∧ Below w.heap.size w w')) :
    Calls Tryd.prog 8 #[.slice oa la ca, .string s] w fun e w' => e = .returned (.bool true) ∧ Below w.heap.size w w' := by
  go_enter Tryd.func8, Tryd.ntmps8
  have hbw : Below w.heap.size w w := Below.refl _ _
  go_wp2_with fail
  refine (TX.out).mono ?_
  rintro e w1 ⟨rfl, hbel⟩
  replace ata := ata.below hbel
  replace tab := tab.below hbel
  replace hbw := hbw.trans (hbel.mono hbw.size)
  clear hbel
  go_wp2_with fail
  refine (wawake_true _ tab).mono ?_
  rintro e w2 ⟨rfl, hbel⟩
  replace ata := ata.below hbel
  replace tab := tab.below hbel
  replace hbw := hbw.trans (hbel.mono hbw.size)
  clear hbel
  clear tab
  go_wp2_with fail
  refine (parse_pr s _ z2 21 hz2).mono ?_
  rintro e w3 ⟨v, r1, rfl, hown1, is1, hbel⟩
  obtain ⟨o1, c1, rfl, hl1, hm1, at1⟩ := hown1.shape
  clear hown1
  replace ata := ata.below hbel
  replace hbw := hbw.trans (hbel.mono hbw.size)
  clear hbel
  go_wp2_with fail
  refine (pow10_bad _ _ (.inr hfs)).mono ?_
  rintro e w4 ⟨v, r2, rfl, hown2, is2, hbel⟩
  obtain ⟨o2, c2, rfl, hl2, hm2, at2⟩ := hown2.shape
  clear hown2
  replace ata := ata.below hbel
  replace at1 := at1.below hbel
  replace hbw := hbw.trans (hbel.mono hbw.size)
  clear hbel
  go_wp2_with fail
  refine (parse_pr _ _ z3 21 hz3).mono ?_
  rintro e w5 ⟨v, r3, rfl, hown3, is3, hbel⟩
  obtain ⟨o3, c3, rfl, hl3, hm3, at3⟩ := hown3.shape
  clear hown3
  replace ata := ata.below hbel
  replace at1 := at1.below hbel
  replace at2 := at2.below hbel
  replace hbw := hbw.trans (hbel.mono hbw.size)
  clear hbel
  clear at1
  clear is1 hl1 hm1
  clear at2
  clear is2 hl2 hm2
  clear at3
  clear is3 hl3 hm3
  go_wp2_with fail
  refine (pow10_at _ k _ ?hn hk8).mono ?_
  case hn => go_num
  rintro e w6 ⟨v, r4, rfl, hown4, is4, hbel⟩
  obtain ⟨o4, c4, rfl, hl4, hm4, at4⟩ := hown4.shape
  clear hown4
  replace ata := ata.below hbel
  replace hbw := hbw.trans (hbel.mono hbw.size)
  clear hbel
  go_wp2_with fail
  replace ata := ata.alloc (Obj.cells #[Value.int IntKind.u64 10] 56)
  replace at4 := at4.alloc (Obj.cells #[Value.int IntKind.u64 10] 56)
  have atL : At .u64 (w6.alloc (Obj.cells #[Value.int IntKind.u64 10] 56)) (some ⟨w6.heap.size, 0, none⟩) [10] := lit_new _ _ rfl [10]
  replace hbw := hbw.alloc hbw.size (Obj.cells #[Value.int IntKind.u64 10] 56)
  go_wp2_with fail
  refine (mul_any o4 (some ⟨w6.heap.size, 0, none⟩) r4.length c4 1 1 r4 [10] _ hl4 (by omega) (Nat.le_refl _) (by omega) rfl rfl at4 atL is4.1 (ok_of (by decide +kernel) : Ok B64 [10])).mono ?_
  rintro e w7 ⟨v, r6, rfl, hown6, is6, hbel⟩
  obtain ⟨o6, c6, rfl, hl6, hm6, at6⟩ := hown6.shape
  clear hown6
  replace ata := ata.below hbel
  replace at4 := at4.below hbel
  replace atL := atL.below hbel
  replace hbw := hbw.trans (hbel.mono hbw.size)
  clear hbel
  go_wp2_with fail
  refine (cmp_num o4 oa r4.length c4 la ca r4 xa _ (by omega) (by omega) rfl hxa at4 ata is4.1 oka zc (by rw [is4.2.2]; exact hlow.out)).mono ?_
  rintro e w8 ⟨rfl, hbel⟩
  replace ata := ata.below hbel
  replace at4 := at4.below hbel
  replace atL := atL.below hbel
  replace at6 := at6.below hbel
  replace hbw := hbw.trans (hbel.mono hbw.size)
  clear hbel
  go_wp2_with fail
  refine (cmp_num oa o6 la ca r6.length c6 xa r6 _ (by omega) (by omega) hxa rfl ata at6 oka is6.1 (-1) (by rw [is6.2.2, is4.2.2, num10]; exact hhi.out)).mono ?_
  rintro e w9 ⟨rfl, hbel⟩
  replace ata := ata.below hbel
  replace at4 := at4.below hbel
  replace atL := atL.below hbel
  replace at6 := at6.below hbel
  replace hbw := hbw.trans (hbel.mono hbw.size)
  clear hbel
  go_wp2
  go_ret
  exact ⟨rfl, hbw⟩

theorem wrows_walk (w : World) (tab : Tab w) (oa : Option Addr) (la ca : Nat) (xa : List Nat) (hla : la ≤ ca) (hca : ca ≤ 1048576) (hxa : xa.length = la) (ata : At .u64 w oa xa) (oka : Ok B64 xa) (s : ByteArray) (hs : s.size ≤ 1048576) :
    Calls Tryd.prog 8 #[.slice oa la ca, .string s] w fun e w' => e = .returned (.bool true) ∧ Below w.heap.size w w' := by
  obtain ⟨ds, hds⟩ : ∃ ds : ByteArray, ds = ⟨(Lib.decDigits (num B64 xa)).toArray⟩ := ⟨_, rfl⟩
  have tx := text_any oa la ca xa w hla (by omega) hxa ata oka tab
  rw [← hds] at tx
  have TX : Hid (Calls Tryd.prog 16 #[.slice oa la ca] w fun e w' => e = .returned (.string ds) ∧ Below w.heap.size w w') := tx
  clear tx
  have hbd : bys ds = Lib.decDigits (num B64 xa) := by rw [hds]; rfl
  have okd : OkT (bys ds) := by rw [hbd]; exact dd_okT _
  have hvd : decV (bys ds) = num B64 xa := by rw [hbd]; exact dd_val _
  have hsz : ds.size = (Lib.decDigits (num B64 xa)).length := by rw [← bys_len, hbd]
  have hN : num B64 xa < B64 ^ la := by rw [← hxa]; exact num_lt oka
  have hdsz : ds.size ≤ 30000000 := by have := dd_short hN; omega
  clear hN
  have hpos : 0 < ds.size := by rw [hsz]; exact List.length_pos_iff.2 (dd_ne _)
  have hcat : (ds ++ s).size = ds.size + s.size := by rw [← bys_len, ← bys_len, ← bys_len, bys_append, List.length_append]
  have hby := bys_append ds s
  by_cases hz : ds = (⟨#[48]⟩ : ByteArray)
  · have h0 : num B64 xa = 0 := dd_zero (by rw [← hbd, hz]; rfl)
    have hnum : Hid (cmpN (num B64 xa) (num B64 []) = 0) := by show cmpN _ _ = 0; rw [h0]; rfl
    have hnok : OkT (bys s) → ¬ OkT (bys (ds ++ s)) := fun h => by rw [hby, hz]; exact not_okT_zero h.1
    clear hds hbd okd hvd hsz hby
    subst hz
    by_cases hs8 : s.size ≤ 8192
    · by_cases hok : OkT (bys s)
      · by_cases hc : ((⟨#[48]⟩ : ByteArray) ++ s).size ≤ 8192
        · exact wrows_0_20_z w tab oa la ca xa hla hca hxa ata oka s hs _ _ hs8 (.inr (.inr ⟨hs8, hok, rfl, rfl⟩)) (.inr (.inl ⟨hc, hnok hok, rfl, rfl⟩)) hnum TX
        · exact wrows_0_21_z w tab oa la ca xa hla hca hxa ata oka s hs _ _ hs8 (.inr (.inr ⟨hs8, hok, rfl, rfl⟩)) (.inl ⟨by omega, rfl, rfl⟩) hnum TX
      · by_cases hc : ((⟨#[48]⟩ : ByteArray) ++ s).size ≤ 8192
        · by_cases hok2 : OkT (bys ((⟨#[48]⟩ : ByteArray) ++ s))
          · exact wrows_20_0_z w tab oa la ca xa hla hca hxa ata oka s hs _ _ hs8 (.inr (.inl ⟨hs8, hok, rfl, rfl⟩)) (.inr (.inr ⟨hc, hok2, rfl, rfl⟩)) hnum TX
          · exact wrows_20_20_z w tab oa la ca xa hla hca hxa ata oka s hs _ _ hs8 (.inr (.inl ⟨hs8, hok, rfl, rfl⟩)) (.inr (.inl ⟨hc, hok2, rfl, rfl⟩)) hnum TX
        · exact wrows_20_21_z w tab oa la ca xa hla hca hxa ata oka s hs _ _ hs8 (.inr (.inl ⟨hs8, hok, rfl, rfl⟩)) (.inl ⟨by omega, rfl, rfl⟩) hnum TX
    · exact wrows_21_21_z w tab oa la ca xa hla hca hxa ata oka s hs _ _ (by omega) (.inl ⟨by omega, rfl, rfl⟩) (.inl ⟨by omega, rfl, rfl⟩) hnum TX
  · have hN0 : num B64 xa ≠ 0 := fun h => hz (by rw [hds, h, Lib.decDigits_one (by omega)]; rfl)
    have hT : bys ds ≠ [48] := fun h => hN0 (dd_zero (by rw [← hbd]; exact h))
    have hne : (ds.toList == [48]) = false := by rw [sl]; exact beq_eq_false_iff_ne.2 hT
    obtain ⟨k, hk⟩ : ∃ k, ds.size = k + 1 := ⟨ds.size - 1, by omega⟩
    have hb := dd_lt (num B64 xa) _ (Nat.le_refl _)
    rw [← hsz, hk, Nat.add_sub_cancel, Nat.pow_succ] at hb
    have hle := hb.2 hN0
    have hhi : Hid (cmpN (num B64 xa) (10 ^ k * 10) = -1) := by show cmpN _ _ = -1; unfold cmpN; rw [if_pos hb.1]
    obtain ⟨zc, hzc, hlow⟩ : ∃ zc : Int, zc ≤ 0 ∧ Hid (cmpN (10 ^ k) (num B64 xa) = zc) := by
      refine ⟨_, ?_, rfl⟩
      unfold cmpN
      split
      · omega
      · rw [if_neg (by omega)]; omega
    by_cases hs8 : s.size ≤ 8192
    · by_cases hok : OkT (bys s)
      · have okc : OkT (bys (ds ++ s)) := by rw [hby]; exact okd.append hT hok.2.2
        by_cases hc : (ds ++ s).size ≤ 8192
        · exact wrows_0_0_m w tab oa la ca xa hla hca hxa ata oka s hs ds hpos hdsz hne _ _ hs8 (.inr (.inr ⟨hs8, hok, rfl, rfl⟩)) (.inr (.inr ⟨hc, okc, rfl, rfl⟩)) (by show _ = _; rw [hby, decV_append, hvd, bys_len]) k hk (by omega) (by omega) zc hzc hlow hhi TX
        · skip
          by_cases hl : 8193 < ds.size
          · exact wrows_0_21_l w tab oa la ca xa hla hca hxa ata oka s hs ds hpos hdsz hne _ _ hs8 (.inr (.inr ⟨hs8, hok, rfl, rfl⟩)) (.inl ⟨by omega, rfl, rfl⟩) (by omega) (by omega) TX
          · exact wrows_0_21_m w tab oa la ca xa hla hca hxa ata oka s hs ds hpos hdsz hne _ _ hs8 (.inr (.inr ⟨hs8, hok, rfl, rfl⟩)) (.inl ⟨by omega, rfl, rfl⟩) (by omega) k hk (by omega) (by omega) zc hzc hlow hhi TX
      · by_cases hc : (ds ++ s).size ≤ 8192
        · by_cases hok2 : OkT (bys (ds ++ s))
          · exact wrows_20_0_m w tab oa la ca xa hla hca hxa ata oka s hs ds hpos hdsz hne _ _ hs8 (.inr (.inl ⟨hs8, hok, rfl, rfl⟩)) (.inr (.inr ⟨hc, hok2, rfl, rfl⟩)) k hk (by omega) (by omega) zc hzc hlow hhi TX
          · exact wrows_20_20_m w tab oa la ca xa hla hca hxa ata oka s hs ds hpos hdsz hne _ _ hs8 (.inr (.inl ⟨hs8, hok, rfl, rfl⟩)) (.inr (.inl ⟨hc, hok2, rfl, rfl⟩)) k hk (by omega) (by omega) zc hzc hlow hhi TX
        · skip
          by_cases hl : 8193 < ds.size
          · exact wrows_20_21_l w tab oa la ca xa hla hca hxa ata oka s hs ds hpos hdsz hne _ _ hs8 (.inr (.inl ⟨hs8, hok, rfl, rfl⟩)) (.inl ⟨by omega, rfl, rfl⟩) (by omega) TX
          · exact wrows_20_21_m w tab oa la ca xa hla hca hxa ata oka s hs ds hpos hdsz hne _ _ hs8 (.inr (.inl ⟨hs8, hok, rfl, rfl⟩)) (.inl ⟨by omega, rfl, rfl⟩) k hk (by omega) (by omega) zc hzc hlow hhi TX
    · skip
      by_cases hl : 8193 < ds.size
      · exact wrows_21_21_l w tab oa la ca xa hla hca hxa ata oka s hs ds hpos hdsz hne _ _ (by omega) (.inl ⟨by omega, rfl, rfl⟩) (.inl ⟨by omega, rfl, rfl⟩) (by omega) TX
      · exact wrows_21_21_m w tab oa la ca xa hla hca hxa ata oka s hs ds hpos hdsz hne _ _ (by omega) (.inl ⟨by omega, rfl, rfl⟩) (.inl ⟨by omega, rfl, rfl⟩) k hk (by omega) (by omega) zc hzc hlow hhi TX

end Go.Proofs.YtnlnjdieajdgfabDoor
