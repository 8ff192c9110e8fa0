/-
  WidthMore, where it does not look at what is shown.
  WidthMore, where a number is refused.
  WidthMore, where a fraction shows noughts alone.
  WidthMore, where a fraction shows more than noughts.
  Plain mathematics: the digits that are shown show just the number that was rounded to.
-/
import Derived.Test.YtckijnlolmbdiaaGreatDoorYB12
import Derived.Test.YtckijnlolmbdiaaGreatDoorYB7
import Derived.Test.YtckijnlolmbdiaaGreatDoorYB11
namespace Go.Proofs.YtckijnlolmbdiaaGreatDoor
open Go.RowKit

set_option maxRecDepth 100000 in
set_option maxHeartbeats 2000000 in
theorem more_no (ca : Int) (na : Bool) (ta : ByteArray) (ea k mf xf ms xs : Int) (st : Bool) (cs : Int) (ns : Bool) (ts : ByteArray) (es md : Int) (hd : Bool) (im ix n : Int) (w : World) (htab : Tab w) (h : ¬ MayD ca na (bys ta) ea) : Calls Tryz.prog 12 #[dcV ca na ta ea, prV k mf xf ms xs st cs ns ts es md hd im ix, .int .i64 n] w fun e w' => e = .returned (.bool true) ∧ Below w.heap.size w w' := by
  have C0 := hide (fun W (_hW : Tab W) => rmay_no ca na ta ea W h)
  have HT := hide htab
  clear htab h
  have Ba0 := hide ((Blk.newAt w (w.heap.size) (rfl) #[.int .i64 ca, .bool na, .string ta, .int .i64 ea] 23).alloc (.cells #[.int .i64 k, .int .i64 mf, .int .i64 xf, .int .i64 ms, .int .i64 xs, .bool st, .int .i64 cs, .bool ns, .string ts, .int .i64 es, .int .i64 md, .bool hd, .int .i64 im, .int .i64 ix] 32))
  have Bp0 := hide (Blk.newAt (w.alloc (.cells #[.int .i64 ca, .bool na, .string ta, .int .i64 ea] 23)) (w.heap.size + 1) (by simp) #[.int .i64 k, .int .i64 mf, .int .i64 xf, .int .i64 ms, .int .i64 xs, .bool st, .int .i64 cs, .bool ns, .string ts, .int .i64 es, .int .i64 md, .bool hd, .int .i64 im, .int .i64 ix] 32)
  have HB0 : Hid (Below w.heap.size w ((w.alloc (.cells #[.int .i64 ca, .bool na, .string ta, .int .i64 ea] 23)).alloc (.cells #[.int .i64 k, .int .i64 mf, .int .i64 xf, .int .i64 ms, .int .i64 xs, .bool st, .int .i64 cs, .bool ns, .string ts, .int .i64 es, .int .i64 md, .bool hd, .int .i64 im, .int .i64 ix] 32))) := (((Below.refl _ _).alloc (Nat.le_refl _) _).alloc (by simp <;> omega) _)
  go_enter Tryz.func12, Tryz.ntmps12
  go_wp2_with fail
  refine (xawake_any _ (HT.out.below HB0.out)).mono ?_
  rintro e w1 ⟨rfl, hb⟩
  have Ba1 := Blk.on Ba0 hb
  have Bp1 := Blk.on Bp0 hb
  have HB1 := hide (HB0.out.trans (hb.mono HB0.out.size))
  clear hb Ba0 Bp0 HB0 
  obtain ⟨ya0, ya1, ya2, ya3⟩ := Ba1.out.four
  obtain ⟨yp0, yp1, yp2, yp3, yp4, yp5, yp6, yp7, yp8, yp9, yp10, yp11, yp12, yp13⟩ := Bp1.out.fourteen
  go_wp2_with fail
  refine (C0.out _ (HT.out.below HB1.out)).mono ?_
  rintro e w2 ⟨rfl, hb⟩
  have Ba2 := Blk.on Ba1 hb
  have Bp2 := Blk.on Bp1 hb
  have HB2 := hide (HB1.out.trans (hb.mono HB1.out.size))
  clear hb Ba1 Bp1 HB1 ya0 ya1 ya2 ya3 yp0 yp1 yp2 yp3 yp4 yp5 yp6 yp7 yp8 yp9 yp10 yp11 yp12 yp13
  obtain ⟨ya0, ya1, ya2, ya3⟩ := Ba2.out.four
  obtain ⟨yp0, yp1, yp2, yp3, yp4, yp5, yp6, yp7, yp8, yp9, yp10, yp11, yp12, yp13⟩ := Bp2.out.fourteen
  go_wp2
  go_ret
  exact ⟨rfl, HB2.out⟩

set_option maxRecDepth 100000 in
set_option maxHeartbeats 2000000 in
theorem more_c1 (na : Bool) (ta : ByteArray) (ea k mf xf ms xs : Int) (st : Bool) (cs : Int) (ns : Bool) (ts : ByteArray) (es md : Int) (hd : Bool) (im ix n : Int) (w : World) (htab : Tab w) (h : MayD 1 na (bys ta) ea) : Calls Tryz.prog 12 #[dcV 1 na ta ea, prV k mf xf ms xs st cs ns ts es md hd im ix, .int .i64 n] w fun e w' => e = .returned (.bool true) ∧ Below w.heap.size w w' := by
  have C0 := hide (fun W (_hW : Tab W) => rmay_yes 1 na ta ea W h)
  have HT := hide htab
  clear htab h
  have Ba0 := hide ((Blk.newAt w (w.heap.size) (rfl) #[.int .i64 1, .bool na, .string ta, .int .i64 ea] 23).alloc (.cells #[.int .i64 k, .int .i64 mf, .int .i64 xf, .int .i64 ms, .int .i64 xs, .bool st, .int .i64 cs, .bool ns, .string ts, .int .i64 es, .int .i64 md, .bool hd, .int .i64 im, .int .i64 ix] 32))
  have Bp0 := hide (Blk.newAt (w.alloc (.cells #[.int .i64 1, .bool na, .string ta, .int .i64 ea] 23)) (w.heap.size + 1) (by simp) #[.int .i64 k, .int .i64 mf, .int .i64 xf, .int .i64 ms, .int .i64 xs, .bool st, .int .i64 cs, .bool ns, .string ts, .int .i64 es, .int .i64 md, .bool hd, .int .i64 im, .int .i64 ix] 32)
  have HB0 : Hid (Below w.heap.size w ((w.alloc (.cells #[.int .i64 1, .bool na, .string ta, .int .i64 ea] 23)).alloc (.cells #[.int .i64 k, .int .i64 mf, .int .i64 xf, .int .i64 ms, .int .i64 xs, .bool st, .int .i64 cs, .bool ns, .string ts, .int .i64 es, .int .i64 md, .bool hd, .int .i64 im, .int .i64 ix] 32))) := (((Below.refl _ _).alloc (Nat.le_refl _) _).alloc (by simp <;> omega) _)
  go_enter Tryz.func12, Tryz.ntmps12
  go_wp2_with fail
  refine (xawake_any _ (HT.out.below HB0.out)).mono ?_
  rintro e w1 ⟨rfl, hb⟩
  have Ba1 := Blk.on Ba0 hb
  have Bp1 := Blk.on Bp0 hb
  have HB1 := hide (HB0.out.trans (hb.mono HB0.out.size))
  clear hb Ba0 Bp0 HB0 
  obtain ⟨ya0, ya1, ya2, ya3⟩ := Ba1.out.four
  obtain ⟨yp0, yp1, yp2, yp3, yp4, yp5, yp6, yp7, yp8, yp9, yp10, yp11, yp12, yp13⟩ := Bp1.out.fourteen
  go_wp2_with fail
  refine (C0.out _ (HT.out.below HB1.out)).mono ?_
  rintro e w2 ⟨rfl, hb⟩
  have Ba2 := Blk.on Ba1 hb
  have Bp2 := Blk.on Bp1 hb
  have HB2 := hide (HB1.out.trans (hb.mono HB1.out.size))
  clear hb Ba1 Bp1 HB1 ya0 ya1 ya2 ya3 yp0 yp1 yp2 yp3 yp4 yp5 yp6 yp7 yp8 yp9 yp10 yp11 yp12 yp13
  obtain ⟨ya0, ya1, ya2, ya3⟩ := Ba2.out.four
  obtain ⟨yp0, yp1, yp2, yp3, yp4, yp5, yp6, yp7, yp8, yp9, yp10, yp11, yp12, yp13⟩ := Bp2.out.fourteen
  go_wp2
  go_ret
  exact ⟨rfl, HB2.out⟩

set_option maxRecDepth 100000 in
set_option maxHeartbeats 2000000 in
theorem more_c2 (na : Bool) (ta : ByteArray) (ea k mf xf ms xs : Int) (st : Bool) (cs : Int) (ns : Bool) (ts : ByteArray) (es md : Int) (hd : Bool) (im ix n : Int) (w : World) (htab : Tab w) (h : MayD 2 na (bys ta) ea) : Calls Tryz.prog 12 #[dcV 2 na ta ea, prV k mf xf ms xs st cs ns ts es md hd im ix, .int .i64 n] w fun e w' => e = .returned (.bool true) ∧ Below w.heap.size w w' := by
  have C0 := hide (fun W (_hW : Tab W) => rmay_yes 2 na ta ea W h)
  have HT := hide htab
  clear htab h
  have Ba0 := hide ((Blk.newAt w (w.heap.size) (rfl) #[.int .i64 2, .bool na, .string ta, .int .i64 ea] 23).alloc (.cells #[.int .i64 k, .int .i64 mf, .int .i64 xf, .int .i64 ms, .int .i64 xs, .bool st, .int .i64 cs, .bool ns, .string ts, .int .i64 es, .int .i64 md, .bool hd, .int .i64 im, .int .i64 ix] 32))
  have Bp0 := hide (Blk.newAt (w.alloc (.cells #[.int .i64 2, .bool na, .string ta, .int .i64 ea] 23)) (w.heap.size + 1) (by simp) #[.int .i64 k, .int .i64 mf, .int .i64 xf, .int .i64 ms, .int .i64 xs, .bool st, .int .i64 cs, .bool ns, .string ts, .int .i64 es, .int .i64 md, .bool hd, .int .i64 im, .int .i64 ix] 32)
  have HB0 : Hid (Below w.heap.size w ((w.alloc (.cells #[.int .i64 2, .bool na, .string ta, .int .i64 ea] 23)).alloc (.cells #[.int .i64 k, .int .i64 mf, .int .i64 xf, .int .i64 ms, .int .i64 xs, .bool st, .int .i64 cs, .bool ns, .string ts, .int .i64 es, .int .i64 md, .bool hd, .int .i64 im, .int .i64 ix] 32))) := (((Below.refl _ _).alloc (Nat.le_refl _) _).alloc (by simp <;> omega) _)
  go_enter Tryz.func12, Tryz.ntmps12
  go_wp2_with fail
  refine (xawake_any _ (HT.out.below HB0.out)).mono ?_
  rintro e w1 ⟨rfl, hb⟩
  have Ba1 := Blk.on Ba0 hb
  have Bp1 := Blk.on Bp0 hb
  have HB1 := hide (HB0.out.trans (hb.mono HB0.out.size))
  clear hb Ba0 Bp0 HB0 
  obtain ⟨ya0, ya1, ya2, ya3⟩ := Ba1.out.four
  obtain ⟨yp0, yp1, yp2, yp3, yp4, yp5, yp6, yp7, yp8, yp9, yp10, yp11, yp12, yp13⟩ := Bp1.out.fourteen
  go_wp2_with fail
  refine (C0.out _ (HT.out.below HB1.out)).mono ?_
  rintro e w2 ⟨rfl, hb⟩
  have Ba2 := Blk.on Ba1 hb
  have Bp2 := Blk.on Bp1 hb
  have HB2 := hide (HB1.out.trans (hb.mono HB1.out.size))
  clear hb Ba1 Bp1 HB1 ya0 ya1 ya2 ya3 yp0 yp1 yp2 yp3 yp4 yp5 yp6 yp7 yp8 yp9 yp10 yp11 yp12 yp13
  obtain ⟨ya0, ya1, ya2, ya3⟩ := Ba2.out.four
  obtain ⟨yp0, yp1, yp2, yp3, yp4, yp5, yp6, yp7, yp8, yp9, yp10, yp11, yp12, yp13⟩ := Bp2.out.fourteen
  go_wp2
  go_ret
  exact ⟨rfl, HB2.out⟩

set_option maxRecDepth 100000 in
set_option maxHeartbeats 2000000 in
theorem more_bad (na : Bool) (ta : ByteArray) (ea k mf xf ms xs : Int) (st : Bool) (cs : Int) (ns : Bool) (ts : ByteArray) (es md : Int) (hd : Bool) (im ix n : Int) (w : World) (htab : Tab w) (h : MayD 0 na (bys ta) ea) (h2 : ¬ MayP ⟨k, mf, xf, ms, xs, st, cs, ns, bys ts, es, md, hd, im, ix⟩) : Calls Tryz.prog 12 #[dcV 0 na ta ea, prV k mf xf ms xs st cs ns ts es md hd im ix, .int .i64 n] w fun e w' => e = .returned (.bool true) ∧ Below w.heap.size w w' := by
  have C0 := hide (fun W (_hW : Tab W) => rmay_yes 0 na ta ea W h)
  have C1 := hide (fun W (hW : Tab W) => check_fP k mf xf ms xs st cs ns ts es md hd im ix W hW h2)
  have HT := hide htab
  clear htab h h2
  have Ba0 := hide ((Blk.newAt w (w.heap.size) (rfl) #[.int .i64 0, .bool na, .string ta, .int .i64 ea] 23).alloc (.cells #[.int .i64 k, .int .i64 mf, .int .i64 xf, .int .i64 ms, .int .i64 xs, .bool st, .int .i64 cs, .bool ns, .string ts, .int .i64 es, .int .i64 md, .bool hd, .int .i64 im, .int .i64 ix] 32))
  have Bp0 := hide (Blk.newAt (w.alloc (.cells #[.int .i64 0, .bool na, .string ta, .int .i64 ea] 23)) (w.heap.size + 1) (by simp) #[.int .i64 k, .int .i64 mf, .int .i64 xf, .int .i64 ms, .int .i64 xs, .bool st, .int .i64 cs, .bool ns, .string ts, .int .i64 es, .int .i64 md, .bool hd, .int .i64 im, .int .i64 ix] 32)
  have HB0 : Hid (Below w.heap.size w ((w.alloc (.cells #[.int .i64 0, .bool na, .string ta, .int .i64 ea] 23)).alloc (.cells #[.int .i64 k, .int .i64 mf, .int .i64 xf, .int .i64 ms, .int .i64 xs, .bool st, .int .i64 cs, .bool ns, .string ts, .int .i64 es, .int .i64 md, .bool hd, .int .i64 im, .int .i64 ix] 32))) := (((Below.refl _ _).alloc (Nat.le_refl _) _).alloc (by simp <;> omega) _)
  go_enter Tryz.func12, Tryz.ntmps12
  go_wp2_with fail
  refine (xawake_any _ (HT.out.below HB0.out)).mono ?_
  rintro e w1 ⟨rfl, hb⟩
  have Ba1 := Blk.on Ba0 hb
  have Bp1 := Blk.on Bp0 hb
  have HB1 := hide (HB0.out.trans (hb.mono HB0.out.size))
  clear hb Ba0 Bp0 HB0 
  obtain ⟨ya0, ya1, ya2, ya3⟩ := Ba1.out.four
  obtain ⟨yp0, yp1, yp2, yp3, yp4, yp5, yp6, yp7, yp8, yp9, yp10, yp11, yp12, yp13⟩ := Bp1.out.fourteen
  go_wp2_with fail
  refine (C0.out _ (HT.out.below HB1.out)).mono ?_
  rintro e w2 ⟨rfl, hb⟩
  have Ba2 := Blk.on Ba1 hb
  have Bp2 := Blk.on Bp1 hb
  have HB2 := hide (HB1.out.trans (hb.mono HB1.out.size))
  clear hb Ba1 Bp1 HB1 ya0 ya1 ya2 ya3 yp0 yp1 yp2 yp3 yp4 yp5 yp6 yp7 yp8 yp9 yp10 yp11 yp12 yp13
  obtain ⟨ya0, ya1, ya2, ya3⟩ := Ba2.out.four
  obtain ⟨yp0, yp1, yp2, yp3, yp4, yp5, yp6, yp7, yp8, yp9, yp10, yp11, yp12, yp13⟩ := Bp2.out.fourteen
  go_wp2_with fail
  refine (C1.out _ (HT.out.below HB2.out)).mono ?_
  rintro e w3 ⟨rfl, hb⟩
  have Ba3 := Blk.on Ba2 hb
  have Bp3 := Blk.on Bp2 hb
  have HB3 := hide (HB2.out.trans (hb.mono HB2.out.size))
  clear hb Ba2 Bp2 HB2 ya0 ya1 ya2 ya3 yp0 yp1 yp2 yp3 yp4 yp5 yp6 yp7 yp8 yp9 yp10 yp11 yp12 yp13
  obtain ⟨ya0, ya1, ya2, ya3⟩ := Ba3.out.four
  obtain ⟨yp0, yp1, yp2, yp3, yp4, yp5, yp6, yp7, yp8, yp9, yp10, yp11, yp12, yp13⟩ := Bp3.out.fourteen
  go_wp2
  go_ret
  exact ⟨rfl, HB3.out⟩

set_option maxRecDepth 100000 in
set_option maxHeartbeats 2000000 in
theorem more_k0 (na : Bool) (ta : ByteArray) (ea mf xf ms xs : Int) (st : Bool) (cs : Int) (ns : Bool) (ts : ByteArray) (es md : Int) (hd : Bool) (im ix n : Int) (w : World) (htab : Tab w) (h : MayD 0 na (bys ta) ea) (h2 : MayP ⟨0, mf, xf, ms, xs, st, cs, ns, bys ts, es, md, hd, im, ix⟩) : Calls Tryz.prog 12 #[dcV 0 na ta ea, prV 0 mf xf ms xs st cs ns ts es md hd im ix, .int .i64 n] w fun e w' => e = .returned (.bool true) ∧ Below w.heap.size w w' := by
  have C0 := hide (fun W (_hW : Tab W) => rmay_yes 0 na ta ea W h)
  have C1 := hide (fun W (hW : Tab W) => check_tP 0 mf xf ms xs st cs ns ts es md hd im ix W hW h2)
  have HT := hide htab
  clear htab h h2
  have Ba0 := hide ((Blk.newAt w (w.heap.size) (rfl) #[.int .i64 0, .bool na, .string ta, .int .i64 ea] 23).alloc (.cells #[.int .i64 0, .int .i64 mf, .int .i64 xf, .int .i64 ms, .int .i64 xs, .bool st, .int .i64 cs, .bool ns, .string ts, .int .i64 es, .int .i64 md, .bool hd, .int .i64 im, .int .i64 ix] 32))
  have Bp0 := hide (Blk.newAt (w.alloc (.cells #[.int .i64 0, .bool na, .string ta, .int .i64 ea] 23)) (w.heap.size + 1) (by simp) #[.int .i64 0, .int .i64 mf, .int .i64 xf, .int .i64 ms, .int .i64 xs, .bool st, .int .i64 cs, .bool ns, .string ts, .int .i64 es, .int .i64 md, .bool hd, .int .i64 im, .int .i64 ix] 32)
  have HB0 : Hid (Below w.heap.size w ((w.alloc (.cells #[.int .i64 0, .bool na, .string ta, .int .i64 ea] 23)).alloc (.cells #[.int .i64 0, .int .i64 mf, .int .i64 xf, .int .i64 ms, .int .i64 xs, .bool st, .int .i64 cs, .bool ns, .string ts, .int .i64 es, .int .i64 md, .bool hd, .int .i64 im, .int .i64 ix] 32))) := (((Below.refl _ _).alloc (Nat.le_refl _) _).alloc (by simp <;> omega) _)
  go_enter Tryz.func12, Tryz.ntmps12
  go_wp2_with fail
  refine (xawake_any _ (HT.out.below HB0.out)).mono ?_
  rintro e w1 ⟨rfl, hb⟩
  have Ba1 := Blk.on Ba0 hb
  have Bp1 := Blk.on Bp0 hb
  have HB1 := hide (HB0.out.trans (hb.mono HB0.out.size))
  clear hb Ba0 Bp0 HB0 
  obtain ⟨ya0, ya1, ya2, ya3⟩ := Ba1.out.four
  obtain ⟨yp0, yp1, yp2, yp3, yp4, yp5, yp6, yp7, yp8, yp9, yp10, yp11, yp12, yp13⟩ := Bp1.out.fourteen
  go_wp2_with fail
  refine (C0.out _ (HT.out.below HB1.out)).mono ?_
  rintro e w2 ⟨rfl, hb⟩
  have Ba2 := Blk.on Ba1 hb
  have Bp2 := Blk.on Bp1 hb
  have HB2 := hide (HB1.out.trans (hb.mono HB1.out.size))
  clear hb Ba1 Bp1 HB1 ya0 ya1 ya2 ya3 yp0 yp1 yp2 yp3 yp4 yp5 yp6 yp7 yp8 yp9 yp10 yp11 yp12 yp13
  obtain ⟨ya0, ya1, ya2, ya3⟩ := Ba2.out.four
  obtain ⟨yp0, yp1, yp2, yp3, yp4, yp5, yp6, yp7, yp8, yp9, yp10, yp11, yp12, yp13⟩ := Bp2.out.fourteen
  go_wp2_with fail
  refine (C1.out _ (HT.out.below HB2.out)).mono ?_
  rintro e w3 ⟨rfl, hb⟩
  have Ba3 := Blk.on Ba2 hb
  have Bp3 := Blk.on Bp2 hb
  have HB3 := hide (HB2.out.trans (hb.mono HB2.out.size))
  clear hb Ba2 Bp2 HB2 ya0 ya1 ya2 ya3 yp0 yp1 yp2 yp3 yp4 yp5 yp6 yp7 yp8 yp9 yp10 yp11 yp12 yp13
  obtain ⟨ya0, ya1, ya2, ya3⟩ := Ba3.out.four
  obtain ⟨yp0, yp1, yp2, yp3, yp4, yp5, yp6, yp7, yp8, yp9, yp10, yp11, yp12, yp13⟩ := Bp3.out.fourteen
  go_wp2
  go_ret
  exact ⟨rfl, HB3.out⟩

set_option maxRecDepth 100000 in
set_option maxHeartbeats 2000000 in
theorem more_k2 (na : Bool) (ta : ByteArray) (ea mf xf ms xs : Int) (st : Bool) (cs : Int) (ns : Bool) (ts : ByteArray) (es md : Int) (hd : Bool) (im ix n : Int) (w : World) (htab : Tab w) (h : MayD 0 na (bys ta) ea) (h2 : MayP ⟨2, mf, xf, ms, xs, st, cs, ns, bys ts, es, md, hd, im, ix⟩) : Calls Tryz.prog 12 #[dcV 0 na ta ea, prV 2 mf xf ms xs st cs ns ts es md hd im ix, .int .i64 n] w fun e w' => e = .returned (.bool true) ∧ Below w.heap.size w w' := by
  have C0 := hide (fun W (_hW : Tab W) => rmay_yes 0 na ta ea W h)
  have C1 := hide (fun W (hW : Tab W) => check_tP 2 mf xf ms xs st cs ns ts es md hd im ix W hW h2)
  have HT := hide htab
  clear htab h h2
  have Ba0 := hide ((Blk.newAt w (w.heap.size) (rfl) #[.int .i64 0, .bool na, .string ta, .int .i64 ea] 23).alloc (.cells #[.int .i64 2, .int .i64 mf, .int .i64 xf, .int .i64 ms, .int .i64 xs, .bool st, .int .i64 cs, .bool ns, .string ts, .int .i64 es, .int .i64 md, .bool hd, .int .i64 im, .int .i64 ix] 32))
  have Bp0 := hide (Blk.newAt (w.alloc (.cells #[.int .i64 0, .bool na, .string ta, .int .i64 ea] 23)) (w.heap.size + 1) (by simp) #[.int .i64 2, .int .i64 mf, .int .i64 xf, .int .i64 ms, .int .i64 xs, .bool st, .int .i64 cs, .bool ns, .string ts, .int .i64 es, .int .i64 md, .bool hd, .int .i64 im, .int .i64 ix] 32)
  have HB0 : Hid (Below w.heap.size w ((w.alloc (.cells #[.int .i64 0, .bool na, .string ta, .int .i64 ea] 23)).alloc (.cells #[.int .i64 2, .int .i64 mf, .int .i64 xf, .int .i64 ms, .int .i64 xs, .bool st, .int .i64 cs, .bool ns, .string ts, .int .i64 es, .int .i64 md, .bool hd, .int .i64 im, .int .i64 ix] 32))) := (((Below.refl _ _).alloc (Nat.le_refl _) _).alloc (by simp <;> omega) _)
  go_enter Tryz.func12, Tryz.ntmps12
  go_wp2_with fail
  refine (xawake_any _ (HT.out.below HB0.out)).mono ?_
  rintro e w1 ⟨rfl, hb⟩
  have Ba1 := Blk.on Ba0 hb
  have Bp1 := Blk.on Bp0 hb
  have HB1 := hide (HB0.out.trans (hb.mono HB0.out.size))
  clear hb Ba0 Bp0 HB0 
  obtain ⟨ya0, ya1, ya2, ya3⟩ := Ba1.out.four
  obtain ⟨yp0, yp1, yp2, yp3, yp4, yp5, yp6, yp7, yp8, yp9, yp10, yp11, yp12, yp13⟩ := Bp1.out.fourteen
  go_wp2_with fail
  refine (C0.out _ (HT.out.below HB1.out)).mono ?_
  rintro e w2 ⟨rfl, hb⟩
  have Ba2 := Blk.on Ba1 hb
  have Bp2 := Blk.on Bp1 hb
  have HB2 := hide (HB1.out.trans (hb.mono HB1.out.size))
  clear hb Ba1 Bp1 HB1 ya0 ya1 ya2 ya3 yp0 yp1 yp2 yp3 yp4 yp5 yp6 yp7 yp8 yp9 yp10 yp11 yp12 yp13
  obtain ⟨ya0, ya1, ya2, ya3⟩ := Ba2.out.four
  obtain ⟨yp0, yp1, yp2, yp3, yp4, yp5, yp6, yp7, yp8, yp9, yp10, yp11, yp12, yp13⟩ := Bp2.out.fourteen
  go_wp2_with fail
  refine (C1.out _ (HT.out.below HB2.out)).mono ?_
  rintro e w3 ⟨rfl, hb⟩
  have Ba3 := Blk.on Ba2 hb
  have Bp3 := Blk.on Bp2 hb
  have HB3 := hide (HB2.out.trans (hb.mono HB2.out.size))
  clear hb Ba2 Bp2 HB2 ya0 ya1 ya2 ya3 yp0 yp1 yp2 yp3 yp4 yp5 yp6 yp7 yp8 yp9 yp10 yp11 yp12 yp13
  obtain ⟨ya0, ya1, ya2, ya3⟩ := Ba3.out.four
  obtain ⟨yp0, yp1, yp2, yp3, yp4, yp5, yp6, yp7, yp8, yp9, yp10, yp11, yp12, yp13⟩ := Bp3.out.fourteen
  go_wp2
  go_ret
  exact ⟨rfl, HB3.out⟩

set_option maxRecDepth 100000 in
set_option maxHeartbeats 2000000 in
theorem more_k3 (na : Bool) (ta : ByteArray) (ea mf xf ms xs : Int) (st : Bool) (cs : Int) (ns : Bool) (ts : ByteArray) (es md : Int) (hd : Bool) (im ix n : Int) (w : World) (htab : Tab w) (h : MayD 0 na (bys ta) ea) (h2 : MayP ⟨3, mf, xf, ms, xs, st, cs, ns, bys ts, es, md, hd, im, ix⟩) : Calls Tryz.prog 12 #[dcV 0 na ta ea, prV 3 mf xf ms xs st cs ns ts es md hd im ix, .int .i64 n] w fun e w' => e = .returned (.bool true) ∧ Below w.heap.size w w' := by
  have C0 := hide (fun W (_hW : Tab W) => rmay_yes 0 na ta ea W h)
  have C1 := hide (fun W (hW : Tab W) => check_tP 3 mf xf ms xs st cs ns ts es md hd im ix W hW h2)
  have HT := hide htab
  clear htab h h2
  have Ba0 := hide ((Blk.newAt w (w.heap.size) (rfl) #[.int .i64 0, .bool na, .string ta, .int .i64 ea] 23).alloc (.cells #[.int .i64 3, .int .i64 mf, .int .i64 xf, .int .i64 ms, .int .i64 xs, .bool st, .int .i64 cs, .bool ns, .string ts, .int .i64 es, .int .i64 md, .bool hd, .int .i64 im, .int .i64 ix] 32))
  have Bp0 := hide (Blk.newAt (w.alloc (.cells #[.int .i64 0, .bool na, .string ta, .int .i64 ea] 23)) (w.heap.size + 1) (by simp) #[.int .i64 3, .int .i64 mf, .int .i64 xf, .int .i64 ms, .int .i64 xs, .bool st, .int .i64 cs, .bool ns, .string ts, .int .i64 es, .int .i64 md, .bool hd, .int .i64 im, .int .i64 ix] 32)
  have HB0 : Hid (Below w.heap.size w ((w.alloc (.cells #[.int .i64 0, .bool na, .string ta, .int .i64 ea] 23)).alloc (.cells #[.int .i64 3, .int .i64 mf, .int .i64 xf, .int .i64 ms, .int .i64 xs, .bool st, .int .i64 cs, .bool ns, .string ts, .int .i64 es, .int .i64 md, .bool hd, .int .i64 im, .int .i64 ix] 32))) := (((Below.refl _ _).alloc (Nat.le_refl _) _).alloc (by simp <;> omega) _)
  go_enter Tryz.func12, Tryz.ntmps12
  go_wp2_with fail
  refine (xawake_any _ (HT.out.below HB0.out)).mono ?_
  rintro e w1 ⟨rfl, hb⟩
  have Ba1 := Blk.on Ba0 hb
  have Bp1 := Blk.on Bp0 hb
  have HB1 := hide (HB0.out.trans (hb.mono HB0.out.size))
  clear hb Ba0 Bp0 HB0 
  obtain ⟨ya0, ya1, ya2, ya3⟩ := Ba1.out.four
  obtain ⟨yp0, yp1, yp2, yp3, yp4, yp5, yp6, yp7, yp8, yp9, yp10, yp11, yp12, yp13⟩ := Bp1.out.fourteen
  go_wp2_with fail
  refine (C0.out _ (HT.out.below HB1.out)).mono ?_
  rintro e w2 ⟨rfl, hb⟩
  have Ba2 := Blk.on Ba1 hb
  have Bp2 := Blk.on Bp1 hb
  have HB2 := hide (HB1.out.trans (hb.mono HB1.out.size))
  clear hb Ba1 Bp1 HB1 ya0 ya1 ya2 ya3 yp0 yp1 yp2 yp3 yp4 yp5 yp6 yp7 yp8 yp9 yp10 yp11 yp12 yp13
  obtain ⟨ya0, ya1, ya2, ya3⟩ := Ba2.out.four
  obtain ⟨yp0, yp1, yp2, yp3, yp4, yp5, yp6, yp7, yp8, yp9, yp10, yp11, yp12, yp13⟩ := Bp2.out.fourteen
  go_wp2_with fail
  refine (C1.out _ (HT.out.below HB2.out)).mono ?_
  rintro e w3 ⟨rfl, hb⟩
  have Ba3 := Blk.on Ba2 hb
  have Bp3 := Blk.on Bp2 hb
  have HB3 := hide (HB2.out.trans (hb.mono HB2.out.size))
  clear hb Ba2 Bp2 HB2 ya0 ya1 ya2 ya3 yp0 yp1 yp2 yp3 yp4 yp5 yp6 yp7 yp8 yp9 yp10 yp11 yp12 yp13
  obtain ⟨ya0, ya1, ya2, ya3⟩ := Ba3.out.four
  obtain ⟨yp0, yp1, yp2, yp3, yp4, yp5, yp6, yp7, yp8, yp9, yp10, yp11, yp12, yp13⟩ := Bp3.out.fourteen
  go_wp2
  go_ret
  exact ⟨rfl, HB3.out⟩

set_option maxRecDepth 100000 in
set_option maxHeartbeats 2000000 in
theorem more_k4 (na : Bool) (ta : ByteArray) (ea mf xf ms xs : Int) (st : Bool) (cs : Int) (ns : Bool) (ts : ByteArray) (es md : Int) (hd : Bool) (im ix n : Int) (w : World) (htab : Tab w) (h : MayD 0 na (bys ta) ea) (h2 : MayP ⟨4, mf, xf, ms, xs, st, cs, ns, bys ts, es, md, hd, im, ix⟩) : Calls Tryz.prog 12 #[dcV 0 na ta ea, prV 4 mf xf ms xs st cs ns ts es md hd im ix, .int .i64 n] w fun e w' => e = .returned (.bool true) ∧ Below w.heap.size w w' := by
  have C0 := hide (fun W (_hW : Tab W) => rmay_yes 0 na ta ea W h)
  have C1 := hide (fun W (hW : Tab W) => check_tP 4 mf xf ms xs st cs ns ts es md hd im ix W hW h2)
  have HT := hide htab
  clear htab h h2
  have Ba0 := hide ((Blk.newAt w (w.heap.size) (rfl) #[.int .i64 0, .bool na, .string ta, .int .i64 ea] 23).alloc (.cells #[.int .i64 4, .int .i64 mf, .int .i64 xf, .int .i64 ms, .int .i64 xs, .bool st, .int .i64 cs, .bool ns, .string ts, .int .i64 es, .int .i64 md, .bool hd, .int .i64 im, .int .i64 ix] 32))
  have Bp0 := hide (Blk.newAt (w.alloc (.cells #[.int .i64 0, .bool na, .string ta, .int .i64 ea] 23)) (w.heap.size + 1) (by simp) #[.int .i64 4, .int .i64 mf, .int .i64 xf, .int .i64 ms, .int .i64 xs, .bool st, .int .i64 cs, .bool ns, .string ts, .int .i64 es, .int .i64 md, .bool hd, .int .i64 im, .int .i64 ix] 32)
  have HB0 : Hid (Below w.heap.size w ((w.alloc (.cells #[.int .i64 0, .bool na, .string ta, .int .i64 ea] 23)).alloc (.cells #[.int .i64 4, .int .i64 mf, .int .i64 xf, .int .i64 ms, .int .i64 xs, .bool st, .int .i64 cs, .bool ns, .string ts, .int .i64 es, .int .i64 md, .bool hd, .int .i64 im, .int .i64 ix] 32))) := (((Below.refl _ _).alloc (Nat.le_refl _) _).alloc (by simp <;> omega) _)
  go_enter Tryz.func12, Tryz.ntmps12
  go_wp2_with fail
  refine (xawake_any _ (HT.out.below HB0.out)).mono ?_
  rintro e w1 ⟨rfl, hb⟩
  have Ba1 := Blk.on Ba0 hb
  have Bp1 := Blk.on Bp0 hb
  have HB1 := hide (HB0.out.trans (hb.mono HB0.out.size))
  clear hb Ba0 Bp0 HB0 
  obtain ⟨ya0, ya1, ya2, ya3⟩ := Ba1.out.four
  obtain ⟨yp0, yp1, yp2, yp3, yp4, yp5, yp6, yp7, yp8, yp9, yp10, yp11, yp12, yp13⟩ := Bp1.out.fourteen
  go_wp2_with fail
  refine (C0.out _ (HT.out.below HB1.out)).mono ?_
  rintro e w2 ⟨rfl, hb⟩
  have Ba2 := Blk.on Ba1 hb
  have Bp2 := Blk.on Bp1 hb
  have HB2 := hide (HB1.out.trans (hb.mono HB1.out.size))
  clear hb Ba1 Bp1 HB1 ya0 ya1 ya2 ya3 yp0 yp1 yp2 yp3 yp4 yp5 yp6 yp7 yp8 yp9 yp10 yp11 yp12 yp13
  obtain ⟨ya0, ya1, ya2, ya3⟩ := Ba2.out.four
  obtain ⟨yp0, yp1, yp2, yp3, yp4, yp5, yp6, yp7, yp8, yp9, yp10, yp11, yp12, yp13⟩ := Bp2.out.fourteen
  go_wp2_with fail
  refine (C1.out _ (HT.out.below HB2.out)).mono ?_
  rintro e w3 ⟨rfl, hb⟩
  have Ba3 := Blk.on Ba2 hb
  have Bp3 := Blk.on Bp2 hb
  have HB3 := hide (HB2.out.trans (hb.mono HB2.out.size))
  clear hb Ba2 Bp2 HB2 ya0 ya1 ya2 ya3 yp0 yp1 yp2 yp3 yp4 yp5 yp6 yp7 yp8 yp9 yp10 yp11 yp12 yp13
  obtain ⟨ya0, ya1, ya2, ya3⟩ := Ba3.out.four
  obtain ⟨yp0, yp1, yp2, yp3, yp4, yp5, yp6, yp7, yp8, yp9, yp10, yp11, yp12, yp13⟩ := Bp3.out.fourteen
  go_wp2
  go_ret
  exact ⟨rfl, HB3.out⟩

set_option maxRecDepth 100000 in
set_option maxHeartbeats 2000000 in
theorem more_neg (na : Bool) (ta : ByteArray) (ea mf xf ms xs : Int) (st : Bool) (cs : Int) (ns : Bool) (ts : ByteArray) (es md : Int) (hd : Bool) (im ix n : Int) (w : World) (htab : Tab w) (h : MayD 0 na (bys ta) ea) (h2 : MayP ⟨1, mf, xf, ms, xs, st, cs, ns, bys ts, es, md, hd, im, ix⟩) (hn : n < 0) : Calls Tryz.prog 12 #[dcV 0 na ta ea, prV 1 mf xf ms xs st cs ns ts es md hd im ix, .int .i64 n] w fun e w' => e = .returned (.bool true) ∧ Below w.heap.size w w' := by
  have C0 := hide (fun W (_hW : Tab W) => rmay_yes 0 na ta ea W h)
  have C1 := hide (fun W (hW : Tab W) => check_tP 1 mf xf ms xs st cs ns ts es md hd im ix W hW h2)
  have HT := hide htab
  clear htab h h2
  have Ba0 := hide ((Blk.newAt w (w.heap.size) (rfl) #[.int .i64 0, .bool na, .string ta, .int .i64 ea] 23).alloc (.cells #[.int .i64 1, .int .i64 mf, .int .i64 xf, .int .i64 ms, .int .i64 xs, .bool st, .int .i64 cs, .bool ns, .string ts, .int .i64 es, .int .i64 md, .bool hd, .int .i64 im, .int .i64 ix] 32))
  have Bp0 := hide (Blk.newAt (w.alloc (.cells #[.int .i64 0, .bool na, .string ta, .int .i64 ea] 23)) (w.heap.size + 1) (by simp) #[.int .i64 1, .int .i64 mf, .int .i64 xf, .int .i64 ms, .int .i64 xs, .bool st, .int .i64 cs, .bool ns, .string ts, .int .i64 es, .int .i64 md, .bool hd, .int .i64 im, .int .i64 ix] 32)
  have HB0 : Hid (Below w.heap.size w ((w.alloc (.cells #[.int .i64 0, .bool na, .string ta, .int .i64 ea] 23)).alloc (.cells #[.int .i64 1, .int .i64 mf, .int .i64 xf, .int .i64 ms, .int .i64 xs, .bool st, .int .i64 cs, .bool ns, .string ts, .int .i64 es, .int .i64 md, .bool hd, .int .i64 im, .int .i64 ix] 32))) := (((Below.refl _ _).alloc (Nat.le_refl _) _).alloc (by simp <;> omega) _)
  go_enter Tryz.func12, Tryz.ntmps12
  go_wp2_with fail
  refine (xawake_any _ (HT.out.below HB0.out)).mono ?_
  rintro e w1 ⟨rfl, hb⟩
  have Ba1 := Blk.on Ba0 hb
  have Bp1 := Blk.on Bp0 hb
  have HB1 := hide (HB0.out.trans (hb.mono HB0.out.size))
  clear hb Ba0 Bp0 HB0 
  obtain ⟨ya0, ya1, ya2, ya3⟩ := Ba1.out.four
  obtain ⟨yp0, yp1, yp2, yp3, yp4, yp5, yp6, yp7, yp8, yp9, yp10, yp11, yp12, yp13⟩ := Bp1.out.fourteen
  go_wp2_with fail
  refine (C0.out _ (HT.out.below HB1.out)).mono ?_
  rintro e w2 ⟨rfl, hb⟩
  have Ba2 := Blk.on Ba1 hb
  have Bp2 := Blk.on Bp1 hb
  have HB2 := hide (HB1.out.trans (hb.mono HB1.out.size))
  clear hb Ba1 Bp1 HB1 ya0 ya1 ya2 ya3 yp0 yp1 yp2 yp3 yp4 yp5 yp6 yp7 yp8 yp9 yp10 yp11 yp12 yp13
  obtain ⟨ya0, ya1, ya2, ya3⟩ := Ba2.out.four
  obtain ⟨yp0, yp1, yp2, yp3, yp4, yp5, yp6, yp7, yp8, yp9, yp10, yp11, yp12, yp13⟩ := Bp2.out.fourteen
  go_wp2_with fail
  refine (C1.out _ (HT.out.below HB2.out)).mono ?_
  rintro e w3 ⟨rfl, hb⟩
  have Ba3 := Blk.on Ba2 hb
  have Bp3 := Blk.on Bp2 hb
  have HB3 := hide (HB2.out.trans (hb.mono HB2.out.size))
  clear hb Ba2 Bp2 HB2 ya0 ya1 ya2 ya3 yp0 yp1 yp2 yp3 yp4 yp5 yp6 yp7 yp8 yp9 yp10 yp11 yp12 yp13
  obtain ⟨ya0, ya1, ya2, ya3⟩ := Ba3.out.four
  obtain ⟨yp0, yp1, yp2, yp3, yp4, yp5, yp6, yp7, yp8, yp9, yp10, yp11, yp12, yp13⟩ := Bp3.out.fourteen
  go_wp2
  go_ret
  exact ⟨rfl, HB3.out⟩

set_option maxRecDepth 100000 in
set_option maxHeartbeats 2000000 in
theorem more_far (na : Bool) (ta : ByteArray) (ea mf xf ms xs : Int) (st : Bool) (cs : Int) (ns : Bool) (ts : ByteArray) (es md : Int) (hd : Bool) (im ix n : Int) (w : World) (htab : Tab w) (h : MayD 0 na (bys ta) ea) (h2 : MayP ⟨1, mf, xf, ms, xs, st, cs, ns, bys ts, es, md, hd, im, ix⟩) (hn : 0 ≤ n) (hn2 : 99 - xf < n) (x1 : 0 ≤ xf) (x2 : xf ≤ 99) : Calls Tryz.prog 12 #[dcV 0 na ta ea, prV 1 mf xf ms xs st cs ns ts es md hd im ix, .int .i64 n] w fun e w' => e = .returned (.bool true) ∧ Below w.heap.size w w' := by
  have C0 := hide (fun W (_hW : Tab W) => rmay_yes 0 na ta ea W h)
  have C1 := hide (fun W (hW : Tab W) => check_tP 1 mf xf ms xs st cs ns ts es md hd im ix W hW h2)
  have HT := hide htab
  clear htab h h2
  have Ba0 := hide ((Blk.newAt w (w.heap.size) (rfl) #[.int .i64 0, .bool na, .string ta, .int .i64 ea] 23).alloc (.cells #[.int .i64 1, .int .i64 mf, .int .i64 xf, .int .i64 ms, .int .i64 xs, .bool st, .int .i64 cs, .bool ns, .string ts, .int .i64 es, .int .i64 md, .bool hd, .int .i64 im, .int .i64 ix] 32))
  have Bp0 := hide (Blk.newAt (w.alloc (.cells #[.int .i64 0, .bool na, .string ta, .int .i64 ea] 23)) (w.heap.size + 1) (by simp) #[.int .i64 1, .int .i64 mf, .int .i64 xf, .int .i64 ms, .int .i64 xs, .bool st, .int .i64 cs, .bool ns, .string ts, .int .i64 es, .int .i64 md, .bool hd, .int .i64 im, .int .i64 ix] 32)
  have HB0 : Hid (Below w.heap.size w ((w.alloc (.cells #[.int .i64 0, .bool na, .string ta, .int .i64 ea] 23)).alloc (.cells #[.int .i64 1, .int .i64 mf, .int .i64 xf, .int .i64 ms, .int .i64 xs, .bool st, .int .i64 cs, .bool ns, .string ts, .int .i64 es, .int .i64 md, .bool hd, .int .i64 im, .int .i64 ix] 32))) := (((Below.refl _ _).alloc (Nat.le_refl _) _).alloc (by simp <;> omega) _)
  go_enter Tryz.func12, Tryz.ntmps12
  go_wp2_with fail
  refine (xawake_any _ (HT.out.below HB0.out)).mono ?_
  rintro e w1 ⟨rfl, hb⟩
  have Ba1 := Blk.on Ba0 hb
  have Bp1 := Blk.on Bp0 hb
  have HB1 := hide (HB0.out.trans (hb.mono HB0.out.size))
  clear hb Ba0 Bp0 HB0 
  obtain ⟨ya0, ya1, ya2, ya3⟩ := Ba1.out.four
  obtain ⟨yp0, yp1, yp2, yp3, yp4, yp5, yp6, yp7, yp8, yp9, yp10, yp11, yp12, yp13⟩ := Bp1.out.fourteen
  go_wp2_with fail
  refine (C0.out _ (HT.out.below HB1.out)).mono ?_
  rintro e w2 ⟨rfl, hb⟩
  have Ba2 := Blk.on Ba1 hb
  have Bp2 := Blk.on Bp1 hb
  have HB2 := hide (HB1.out.trans (hb.mono HB1.out.size))
  clear hb Ba1 Bp1 HB1 ya0 ya1 ya2 ya3 yp0 yp1 yp2 yp3 yp4 yp5 yp6 yp7 yp8 yp9 yp10 yp11 yp12 yp13
  obtain ⟨ya0, ya1, ya2, ya3⟩ := Ba2.out.four
  obtain ⟨yp0, yp1, yp2, yp3, yp4, yp5, yp6, yp7, yp8, yp9, yp10, yp11, yp12, yp13⟩ := Bp2.out.fourteen
  go_wp2_with fail
  refine (C1.out _ (HT.out.below HB2.out)).mono ?_
  rintro e w3 ⟨rfl, hb⟩
  have Ba3 := Blk.on Ba2 hb
  have Bp3 := Blk.on Bp2 hb
  have HB3 := hide (HB2.out.trans (hb.mono HB2.out.size))
  clear hb Ba2 Bp2 HB2 ya0 ya1 ya2 ya3 yp0 yp1 yp2 yp3 yp4 yp5 yp6 yp7 yp8 yp9 yp10 yp11 yp12 yp13
  obtain ⟨ya0, ya1, ya2, ya3⟩ := Ba3.out.four
  obtain ⟨yp0, yp1, yp2, yp3, yp4, yp5, yp6, yp7, yp8, yp9, yp10, yp11, yp12, yp13⟩ := Bp3.out.fourteen
  go_wp2
  go_ret
  exact ⟨rfl, HB3.out⟩

end Go.Proofs.YtckijnlolmbdiaaGreatDoor

namespace Go.Proofs.YtckijnlolmbdiaaGreatDoor
open Go.RowKit

theorem Blk.fset11 {w : World} {b : Nat} {t : TypeId} {x0 x1 x2 x3 x4 x5 x6 x7 x8 x9 x10 x11 x12 x13 : Value} (h : Blk w b #[x0, x1, x2, x3, x4, x5, x6, x7, x8, x9, x10, x11, x12, x13] t) (y : Value) : Blk (w.setCell ⟨b, 11, none⟩ y) b #[x0, x1, x2, x3, x4, x5, x6, x7, x8, x9, x10, y, x12, x13] t := by
  unfold Blk at *
  simp only [World.setCell, Array.getElem?_modify, if_true, h, Option.map_some]
  rfl

set_option maxRecDepth 100000 in
set_option maxHeartbeats 4000000 in
theorem more_e (na : Bool) (ta : ByteArray) (ea mf xf ms xs : Int) (st : Bool) (cs : Int) (ns : Bool) (ts : ByteArray) (es md : Int) (hd : Bool) (im ix n vc : Int) (vn : Bool) (vi vf : ByteArray) (vx : Int) (vm : Bool) (uc : Int) (un : Bool) (ui uf : ByteArray) (ux : Int) (um : Bool) (f : Int) (w : World) (htab : Tab w) (h : MayD 0 na (bys ta) ea) (h2 : MayP ⟨1, mf, xf, ms, xs, st, cs, ns, bys ts, es, md, hd, im, ix⟩) (n1 : 0 ≤ n) (n2 : n ≤ 99 - xf) (x1 : 0 ≤ xf) (x2 : xf ≤ 99) (s1 : ∀ W, Tab W → Calls Tryz.prog 22 #[dcV 0 na ta ea, prV 1 mf xf ms xs st cs ns ts es md false im ix] W fun e w' => e = .returned (.tuple #[.agg #[.int .i64 0, .bool false, .string ⟨#[]⟩, .string ⟨#[]⟩, .int .i64 0, .bool false], .int .i64 51]) ∧ Below W.heap.size W w') (s2 : ∀ W, Tab W → Calls Tryz.prog 22 #[dcV 0 na ta ea, prV 1 mf (xf + n) ms xs st cs ns ts es md false im ix] W fun e w' => e = .returned (.tuple #[.agg #[.int .i64 vc, .bool vn, .string vi, .string vf, .int .i64 vx, .bool vm], .int .i64 f]) ∧ Below W.heap.size W w') (s3 : ∀ W, Tab W → Calls Tryz.prog 22 #[dcV 0 na ta ea, prV 1 mf xf ms xs st cs ns ts es md true im ix] W fun e w' => e = .returned (.tuple #[.agg #[.int .i64 uc, .bool un, .string ui, .string uf, .int .i64 ux, .bool um], .int .i64 51]) ∧ Below W.heap.size W w')  : Calls Tryz.prog 12 #[dcV 0 na ta ea, prV 1 mf xf ms xs st cs ns ts es md hd im ix, .int .i64 n] w fun e w' => e = .returned (.bool true) ∧ Below w.heap.size w w' := by
  have C0 := hide (fun W => rmay_yes 0 na ta ea W h)
  have C1 := hide (fun W (hW : Tab W) => check_tP 1 mf xf ms xs st cs ns ts es md hd im ix W hW h2)
  have H1 := hide s1
  have H2 := hide s2
  have H3 := hide s3
  have HT := hide htab
  have n3 : ¬ 99 - xf < n := by omega
  have n4 : decide (99 - xf < n) = false := decide_eq_false n3
  have n5 : ¬ n < 0 := by omega
  clear htab h h2 s1 s2 s3
  have Ba0 := hide ((Blk.newAt w (w.heap.size) (rfl) #[.int .i64 0, .bool na, .string ta, .int .i64 ea] 23).alloc (.cells #[.int .i64 1, .int .i64 mf, .int .i64 xf, .int .i64 ms, .int .i64 xs, .bool st, .int .i64 cs, .bool ns, .string ts, .int .i64 es, .int .i64 md, .bool hd, .int .i64 im, .int .i64 ix] 32))
  have Bp0 := hide (Blk.newAt (w.alloc (.cells #[.int .i64 0, .bool na, .string ta, .int .i64 ea] 23)) (w.heap.size + 1) (by simp) #[.int .i64 1, .int .i64 mf, .int .i64 xf, .int .i64 ms, .int .i64 xs, .bool st, .int .i64 cs, .bool ns, .string ts, .int .i64 es, .int .i64 md, .bool hd, .int .i64 im, .int .i64 ix] 32)
  have HB0 : Hid (Below w.heap.size w ((w.alloc (.cells #[.int .i64 0, .bool na, .string ta, .int .i64 ea] 23)).alloc (.cells #[.int .i64 1, .int .i64 mf, .int .i64 xf, .int .i64 ms, .int .i64 xs, .bool st, .int .i64 cs, .bool ns, .string ts, .int .i64 es, .int .i64 md, .bool hd, .int .i64 im, .int .i64 ix] 32))) := (((Below.refl _ _).alloc (Nat.le_refl _) _).alloc (by simp <;> omega) _)
  go_enter Tryz.func12, Tryz.ntmps12
  go_wp2_with fail
  refine (xawake_any _ (HT.out.below HB0.out)).mono ?_
  rintro e w1 ⟨rfl, hb⟩
  have Ba1 := Blk.on Ba0 hb
  have Bp1 := Blk.on Bp0 hb
  have HB1 := hide (HB0.out.trans (hb.mono HB0.out.size))
  clear hb Ba0 Bp0 HB0 
  obtain ⟨ya0, ya1, ya2, ya3⟩ := Ba1.out.four
  obtain ⟨yp0, yp1, yp2, yp3, yp4, yp5, yp6, yp7, yp8, yp9, yp10, yp11, yp12, yp13⟩ := Bp1.out.fourteen
  go_wp2_with fail
  refine (C0.out _).mono ?_
  rintro e w2 ⟨rfl, hb⟩
  have Ba2 := Blk.on Ba1 hb
  have Bp2 := Blk.on Bp1 hb
  have HB2 := hide (HB1.out.trans (hb.mono HB1.out.size))
  clear hb Ba1 Bp1 HB1 ya0 ya1 ya2 ya3 yp0 yp1 yp2 yp3 yp4 yp5 yp6 yp7 yp8 yp9 yp10 yp11 yp12 yp13
  obtain ⟨ya0, ya1, ya2, ya3⟩ := Ba2.out.four
  obtain ⟨yp0, yp1, yp2, yp3, yp4, yp5, yp6, yp7, yp8, yp9, yp10, yp11, yp12, yp13⟩ := Bp2.out.fourteen
  go_wp2_with fail
  refine (C1.out _ (HT.out.below HB2.out)).mono ?_
  rintro e w3 ⟨rfl, hb⟩
  have Ba3 := Blk.on Ba2 hb
  have Bp3 := Blk.on Bp2 hb
  have HB3 := hide (HB2.out.trans (hb.mono HB2.out.size))
  clear hb Ba2 Bp2 HB2 ya0 ya1 ya2 ya3 yp0 yp1 yp2 yp3 yp4 yp5 yp6 yp7 yp8 yp9 yp10 yp11 yp12 yp13
  obtain ⟨ya0, ya1, ya2, ya3⟩ := Ba3.out.four
  obtain ⟨yp0, yp1, yp2, yp3, yp4, yp5, yp6, yp7, yp8, yp9, yp10, yp11, yp12, yp13⟩ := Bp3.out.fourteen
  have fp11 := Bp3.out.free 11
  have Bp4 := hide (Bp3.out.fset11 (.bool false))
  have Ba4 := hide (Ba3.out.other (a := ⟨w.heap.size + 1, 11, none⟩) (by simp) (.bool false))
  have HB4 : Hid (Below w.heap.size w (w3.setCell ⟨w.heap.size + 1, 11, none⟩ (.bool false))) := HB3.out.setCell (Nat.le_succ _) _
  clear Bp3 Ba3 HB3
  obtain ⟨ya0, ya1, ya2, ya3⟩ := Ba4.out.four
  obtain ⟨yp0, yp1, yp2, yp3, yp4, yp5, yp6, yp7, yp8, yp9, yp10, yp11, yp12, yp13⟩ := Bp4.out.fourteen
  have Ba5 := Blk.up Ba4 (.cells #[.int .i64 1, .int .i64 mf, .int .i64 (xf + n), .int .i64 ms, .int .i64 xs, .bool st, .int .i64 cs, .bool ns, .string ts, .int .i64 es, .int .i64 md, .bool false, .int .i64 im, .int .i64 ix] 32)
  have Bp5 := Blk.up Bp4 (.cells #[.int .i64 1, .int .i64 mf, .int .i64 (xf + n), .int .i64 ms, .int .i64 xs, .bool st, .int .i64 cs, .bool ns, .string ts, .int .i64 es, .int .i64 md, .bool false, .int .i64 im, .int .i64 ix] 32)
  have Bq5 := hide ((Blk.newAt (w3.setCell ⟨w.heap.size + 1, 11, none⟩ (.bool false)) (w3.heap.size) (by simp) #[.int .i64 1, .int .i64 mf, .int .i64 (xf + n), .int .i64 ms, .int .i64 xs, .bool st, .int .i64 cs, .bool ns, .string ts, .int .i64 es, .int .i64 md, .bool false, .int .i64 im, .int .i64 ix] 32))
  have HB5 : Hid (Below w.heap.size w ((w3.setCell ⟨w.heap.size + 1, 11, none⟩ (.bool false)).alloc (.cells #[.int .i64 1, .int .i64 mf, .int .i64 (xf + n), .int .i64 ms, .int .i64 xs, .bool st, .int .i64 cs, .bool ns, .string ts, .int .i64 es, .int .i64 md, .bool false, .int .i64 im, .int .i64 ix] 32))) := (HB4.out.alloc HB4.out.size _)
  clear Ba4 Bp4 HB4 
  obtain ⟨ya0, ya1, ya2, ya3⟩ := Ba5.out.four
  obtain ⟨yp0, yp1, yp2, yp3, yp4, yp5, yp6, yp7, yp8, yp9, yp10, yp11, yp12, yp13⟩ := Bp5.out.fourteen
  obtain ⟨yq0, yq1, yq2, yq3, yq4, yq5, yq6, yq7, yq8, yq9, yq10, yq11, yq12, yq13⟩ := Bq5.out.fourteen
  have Ba6 := Blk.up Ba5 (.cells #[.int .i64 1, .int .i64 mf, .int .i64 xf, .int .i64 ms, .int .i64 xs, .bool st, .int .i64 cs, .bool ns, .string ts, .int .i64 es, .int .i64 md, .bool true, .int .i64 im, .int .i64 ix] 32)
  have Bp6 := Blk.up Bp5 (.cells #[.int .i64 1, .int .i64 mf, .int .i64 xf, .int .i64 ms, .int .i64 xs, .bool st, .int .i64 cs, .bool ns, .string ts, .int .i64 es, .int .i64 md, .bool true, .int .i64 im, .int .i64 ix] 32)
  have Bq6 := Blk.up Bq5 (.cells #[.int .i64 1, .int .i64 mf, .int .i64 xf, .int .i64 ms, .int .i64 xs, .bool st, .int .i64 cs, .bool ns, .string ts, .int .i64 es, .int .i64 md, .bool true, .int .i64 im, .int .i64 ix] 32)
  have Bh6 := hide ((Blk.newAt ((w3.setCell ⟨w.heap.size + 1, 11, none⟩ (.bool false)).alloc (.cells #[.int .i64 1, .int .i64 mf, .int .i64 (xf + n), .int .i64 ms, .int .i64 xs, .bool st, .int .i64 cs, .bool ns, .string ts, .int .i64 es, .int .i64 md, .bool false, .int .i64 im, .int .i64 ix] 32)) (w3.heap.size + 1) (by simp) #[.int .i64 1, .int .i64 mf, .int .i64 xf, .int .i64 ms, .int .i64 xs, .bool st, .int .i64 cs, .bool ns, .string ts, .int .i64 es, .int .i64 md, .bool true, .int .i64 im, .int .i64 ix] 32))
  have HB6 : Hid (Below w.heap.size w (((w3.setCell ⟨w.heap.size + 1, 11, none⟩ (.bool false)).alloc (.cells #[.int .i64 1, .int .i64 mf, .int .i64 (xf + n), .int .i64 ms, .int .i64 xs, .bool st, .int .i64 cs, .bool ns, .string ts, .int .i64 es, .int .i64 md, .bool false, .int .i64 im, .int .i64 ix] 32)).alloc (.cells #[.int .i64 1, .int .i64 mf, .int .i64 xf, .int .i64 ms, .int .i64 xs, .bool st, .int .i64 cs, .bool ns, .string ts, .int .i64 es, .int .i64 md, .bool true, .int .i64 im, .int .i64 ix] 32))) := (HB5.out.alloc HB5.out.size _)
  clear Ba5 Bp5 Bq5 HB5 
  obtain ⟨ya0, ya1, ya2, ya3⟩ := Ba6.out.four
  obtain ⟨yp0, yp1, yp2, yp3, yp4, yp5, yp6, yp7, yp8, yp9, yp10, yp11, yp12, yp13⟩ := Bp6.out.fourteen
  obtain ⟨yq0, yq1, yq2, yq3, yq4, yq5, yq6, yq7, yq8, yq9, yq10, yq11, yq12, yq13⟩ := Bq6.out.fourteen
  obtain ⟨yh0, yh1, yh2, yh3, yh4, yh5, yh6, yh7, yh8, yh9, yh10, yh11, yh12, yh13⟩ := Bh6.out.fourteen
  go_wp2_with fail
  refine (H1.out _ (HT.out.below HB6.out)).mono ?_
  rintro e w7 ⟨rfl, hb⟩
  have Ba7 := Blk.on Ba6 hb
  have Bp7 := Blk.on Bp6 hb
  have Bq7 := Blk.on Bq6 hb
  have Bh7 := Blk.on Bh6 hb
  have HB7 := hide (HB6.out.trans (hb.mono HB6.out.size))
  clear hb Ba6 Bp6 Bq6 Bh6 HB6 ya0 ya1 ya2 ya3 yp0 yp1 yp2 yp3 yp4 yp5 yp6 yp7 yp8 yp9 yp10 yp11 yp12 yp13 yq0 yq1 yq2 yq3 yq4 yq5 yq6 yq7 yq8 yq9 yq10 yq11 yq12 yq13 yh0 yh1 yh2 yh3 yh4 yh5 yh6 yh7 yh8 yh9 yh10 yh11 yh12 yh13
  obtain ⟨ya0, ya1, ya2, ya3⟩ := Ba7.out.four
  obtain ⟨yp0, yp1, yp2, yp3, yp4, yp5, yp6, yp7, yp8, yp9, yp10, yp11, yp12, yp13⟩ := Bp7.out.fourteen
  obtain ⟨yq0, yq1, yq2, yq3, yq4, yq5, yq6, yq7, yq8, yq9, yq10, yq11, yq12, yq13⟩ := Bq7.out.fourteen
  obtain ⟨yh0, yh1, yh2, yh3, yh4, yh5, yh6, yh7, yh8, yh9, yh10, yh11, yh12, yh13⟩ := Bh7.out.fourteen
  have Ba8 := Blk.up Ba7 (.cells #[.int .i64 0, .bool false, .string ⟨#[]⟩, .string ⟨#[]⟩, .int .i64 0, .bool false] 36)
  have Bp8 := Blk.up Bp7 (.cells #[.int .i64 0, .bool false, .string ⟨#[]⟩, .string ⟨#[]⟩, .int .i64 0, .bool false] 36)
  have Bq8 := Blk.up Bq7 (.cells #[.int .i64 0, .bool false, .string ⟨#[]⟩, .string ⟨#[]⟩, .int .i64 0, .bool false] 36)
  have Bh8 := Blk.up Bh7 (.cells #[.int .i64 0, .bool false, .string ⟨#[]⟩, .string ⟨#[]⟩, .int .i64 0, .bool false] 36)
  have Bs8 := hide ((Blk.newAt w7 (w7.heap.size) (rfl) #[.int .i64 0, .bool false, .string ⟨#[]⟩, .string ⟨#[]⟩, .int .i64 0, .bool false] 36))
  have HB8 : Hid (Below w.heap.size w (w7.alloc (.cells #[.int .i64 0, .bool false, .string ⟨#[]⟩, .string ⟨#[]⟩, .int .i64 0, .bool false] 36))) := (HB7.out.alloc HB7.out.size _)
  clear Ba7 Bp7 Bq7 Bh7 HB7 ya0 ya1 ya2 ya3 yp0 yp1 yp2 yp3 yp4 yp5 yp6 yp7 yp8 yp9 yp10 yp11 yp12 yp13 yq0 yq1 yq2 yq3 yq4 yq5 yq6 yq7 yq8 yq9 yq10 yq11 yq12 yq13 yh0 yh1 yh2 yh3 yh4 yh5 yh6 yh7 yh8 yh9 yh10 yh11 yh12 yh13
  obtain ⟨ya0, ya1, ya2, ya3⟩ := Ba8.out.four
  obtain ⟨yp0, yp1, yp2, yp3, yp4, yp5, yp6, yp7, yp8, yp9, yp10, yp11, yp12, yp13⟩ := Bp8.out.fourteen
  obtain ⟨yq0, yq1, yq2, yq3, yq4, yq5, yq6, yq7, yq8, yq9, yq10, yq11, yq12, yq13⟩ := Bq8.out.fourteen
  obtain ⟨yh0, yh1, yh2, yh3, yh4, yh5, yh6, yh7, yh8, yh9, yh10, yh11, yh12, yh13⟩ := Bh8.out.fourteen
  obtain ⟨ys0, ys1, ys2, ys3, ys4, ys5⟩ := Bs8.out.six
  go_wp2_with fail
  refine (H2.out _ (HT.out.below HB8.out)).mono ?_
  rintro e w9 ⟨rfl, hb⟩
  have Ba9 := Blk.on Ba8 hb
  have Bp9 := Blk.on Bp8 hb
  have Bq9 := Blk.on Bq8 hb
  have Bh9 := Blk.on Bh8 hb
  have Bs9 := Blk.on Bs8 hb
  have HB9 := hide (HB8.out.trans (hb.mono HB8.out.size))
  clear hb Ba8 Bp8 Bq8 Bh8 Bs8 HB8 ya0 ya1 ya2 ya3 yp0 yp1 yp2 yp3 yp4 yp5 yp6 yp7 yp8 yp9 yp10 yp11 yp12 yp13 yq0 yq1 yq2 yq3 yq4 yq5 yq6 yq7 yq8 yq9 yq10 yq11 yq12 yq13 yh0 yh1 yh2 yh3 yh4 yh5 yh6 yh7 yh8 yh9 yh10 yh11 yh12 yh13 ys0 ys1 ys2 ys3 ys4 ys5
  obtain ⟨ya0, ya1, ya2, ya3⟩ := Ba9.out.four
  obtain ⟨yp0, yp1, yp2, yp3, yp4, yp5, yp6, yp7, yp8, yp9, yp10, yp11, yp12, yp13⟩ := Bp9.out.fourteen
  obtain ⟨yq0, yq1, yq2, yq3, yq4, yq5, yq6, yq7, yq8, yq9, yq10, yq11, yq12, yq13⟩ := Bq9.out.fourteen
  obtain ⟨yh0, yh1, yh2, yh3, yh4, yh5, yh6, yh7, yh8, yh9, yh10, yh11, yh12, yh13⟩ := Bh9.out.fourteen
  obtain ⟨ys0, ys1, ys2, ys3, ys4, ys5⟩ := Bs9.out.six
  have Ba10 := Blk.up Ba9 (.cells #[.int .i64 vc, .bool vn, .string vi, .string vf, .int .i64 vx, .bool vm] 36)
  have Bp10 := Blk.up Bp9 (.cells #[.int .i64 vc, .bool vn, .string vi, .string vf, .int .i64 vx, .bool vm] 36)
  have Bq10 := Blk.up Bq9 (.cells #[.int .i64 vc, .bool vn, .string vi, .string vf, .int .i64 vx, .bool vm] 36)
  have Bh10 := Blk.up Bh9 (.cells #[.int .i64 vc, .bool vn, .string vi, .string vf, .int .i64 vx, .bool vm] 36)
  have Bs10 := Blk.up Bs9 (.cells #[.int .i64 vc, .bool vn, .string vi, .string vf, .int .i64 vx, .bool vm] 36)
  have Bt10 := hide ((Blk.newAt w9 (w9.heap.size) (rfl) #[.int .i64 vc, .bool vn, .string vi, .string vf, .int .i64 vx, .bool vm] 36))
  have HB10 : Hid (Below w.heap.size w (w9.alloc (.cells #[.int .i64 vc, .bool vn, .string vi, .string vf, .int .i64 vx, .bool vm] 36))) := (HB9.out.alloc HB9.out.size _)
  clear Ba9 Bp9 Bq9 Bh9 Bs9 HB9 ya0 ya1 ya2 ya3 yp0 yp1 yp2 yp3 yp4 yp5 yp6 yp7 yp8 yp9 yp10 yp11 yp12 yp13 yq0 yq1 yq2 yq3 yq4 yq5 yq6 yq7 yq8 yq9 yq10 yq11 yq12 yq13 yh0 yh1 yh2 yh3 yh4 yh5 yh6 yh7 yh8 yh9 yh10 yh11 yh12 yh13 ys0 ys1 ys2 ys3 ys4 ys5
  obtain ⟨ya0, ya1, ya2, ya3⟩ := Ba10.out.four
  obtain ⟨yp0, yp1, yp2, yp3, yp4, yp5, yp6, yp7, yp8, yp9, yp10, yp11, yp12, yp13⟩ := Bp10.out.fourteen
  obtain ⟨yq0, yq1, yq2, yq3, yq4, yq5, yq6, yq7, yq8, yq9, yq10, yq11, yq12, yq13⟩ := Bq10.out.fourteen
  obtain ⟨yh0, yh1, yh2, yh3, yh4, yh5, yh6, yh7, yh8, yh9, yh10, yh11, yh12, yh13⟩ := Bh10.out.fourteen
  obtain ⟨ys0, ys1, ys2, ys3, ys4, ys5⟩ := Bs10.out.six
  obtain ⟨yt0, yt1, yt2, yt3, yt4, yt5⟩ := Bt10.out.six
  go_wp2_with fail
  refine (H3.out _ (HT.out.below HB10.out)).mono ?_
  rintro e w11 ⟨rfl, hb⟩
  have Ba11 := Blk.on Ba10 hb
  have Bp11 := Blk.on Bp10 hb
  have Bq11 := Blk.on Bq10 hb
  have Bh11 := Blk.on Bh10 hb
  have Bs11 := Blk.on Bs10 hb
  have Bt11 := Blk.on Bt10 hb
  have HB11 := hide (HB10.out.trans (hb.mono HB10.out.size))
  clear hb Ba10 Bp10 Bq10 Bh10 Bs10 Bt10 HB10 ya0 ya1 ya2 ya3 yp0 yp1 yp2 yp3 yp4 yp5 yp6 yp7 yp8 yp9 yp10 yp11 yp12 yp13 yq0 yq1 yq2 yq3 yq4 yq5 yq6 yq7 yq8 yq9 yq10 yq11 yq12 yq13 yh0 yh1 yh2 yh3 yh4 yh5 yh6 yh7 yh8 yh9 yh10 yh11 yh12 yh13 ys0 ys1 ys2 ys3 ys4 ys5 yt0 yt1 yt2 yt3 yt4 yt5
  obtain ⟨ya0, ya1, ya2, ya3⟩ := Ba11.out.four
  obtain ⟨yp0, yp1, yp2, yp3, yp4, yp5, yp6, yp7, yp8, yp9, yp10, yp11, yp12, yp13⟩ := Bp11.out.fourteen
  obtain ⟨yq0, yq1, yq2, yq3, yq4, yq5, yq6, yq7, yq8, yq9, yq10, yq11, yq12, yq13⟩ := Bq11.out.fourteen
  obtain ⟨yh0, yh1, yh2, yh3, yh4, yh5, yh6, yh7, yh8, yh9, yh10, yh11, yh12, yh13⟩ := Bh11.out.fourteen
  obtain ⟨ys0, ys1, ys2, ys3, ys4, ys5⟩ := Bs11.out.six
  obtain ⟨yt0, yt1, yt2, yt3, yt4, yt5⟩ := Bt11.out.six
  have Ba12 := Blk.up Ba11 (.cells #[.int .i64 uc, .bool un, .string ui, .string uf, .int .i64 ux, .bool um] 36)
  have Bp12 := Blk.up Bp11 (.cells #[.int .i64 uc, .bool un, .string ui, .string uf, .int .i64 ux, .bool um] 36)
  have Bq12 := Blk.up Bq11 (.cells #[.int .i64 uc, .bool un, .string ui, .string uf, .int .i64 ux, .bool um] 36)
  have Bh12 := Blk.up Bh11 (.cells #[.int .i64 uc, .bool un, .string ui, .string uf, .int .i64 ux, .bool um] 36)
  have Bs12 := Blk.up Bs11 (.cells #[.int .i64 uc, .bool un, .string ui, .string uf, .int .i64 ux, .bool um] 36)
  have Bt12 := Blk.up Bt11 (.cells #[.int .i64 uc, .bool un, .string ui, .string uf, .int .i64 ux, .bool um] 36)
  have Bu12 := hide ((Blk.newAt w11 (w11.heap.size) (rfl) #[.int .i64 uc, .bool un, .string ui, .string uf, .int .i64 ux, .bool um] 36))
  have HB12 : Hid (Below w.heap.size w (w11.alloc (.cells #[.int .i64 uc, .bool un, .string ui, .string uf, .int .i64 ux, .bool um] 36))) := (HB11.out.alloc HB11.out.size _)
  clear Ba11 Bp11 Bq11 Bh11 Bs11 Bt11 HB11 ya0 ya1 ya2 ya3 yp0 yp1 yp2 yp3 yp4 yp5 yp6 yp7 yp8 yp9 yp10 yp11 yp12 yp13 yq0 yq1 yq2 yq3 yq4 yq5 yq6 yq7 yq8 yq9 yq10 yq11 yq12 yq13 yh0 yh1 yh2 yh3 yh4 yh5 yh6 yh7 yh8 yh9 yh10 yh11 yh12 yh13 ys0 ys1 ys2 ys3 ys4 ys5 yt0 yt1 yt2 yt3 yt4 yt5
  obtain ⟨Z, hZ⟩ : ∃ Z, Z = (w11.alloc (.cells #[.int .i64 uc, .bool un, .string ui, .string uf, .int .i64 ux, .bool um] 36)) := ⟨_, rfl⟩
  rw [← hZ] at HB12 Ba12 Bp12 Bq12 Bh12 Bs12 Bt12 Bu12
  have HZ := hide hZ
  clear hZ
  obtain ⟨ys0, ys1, ys2, ys3, ys4, ys5⟩ := Bs12.out.six
  obtain ⟨yt0, yt1, yt2, yt3, yt4, yt5⟩ := Bt12.out.six
  obtain ⟨yu0, yu1, yu2, yu3, yu4, yu5⟩ := Bu12.out.six
  go_wp2_with (simp only [← HZ.out])
  go_ret
  exact ⟨rfl, HB12.out⟩

set_option maxRecDepth 100000 in
set_option maxHeartbeats 4000000 in
theorem more_f (na : Bool) (ta : ByteArray) (ea mf xf ms xs : Int) (st : Bool) (cs : Int) (ns : Bool) (ts : ByteArray) (es md : Int) (hd : Bool) (im ix n sc : Int) (sn : Bool) (si sf : ByteArray) (sx : Int) (sm : Bool) (vc : Int) (vn : Bool) (vi vf : ByteArray) (vx : Int) (vm : Bool) (uc : Int) (un : Bool) (ui uf : ByteArray) (ux : Int) (um : Bool) (w : World) (htab : Tab w) (h : MayD 0 na (bys ta) ea) (h2 : MayP ⟨1, mf, xf, ms, xs, st, cs, ns, bys ts, es, md, hd, im, ix⟩) (n1 : 0 ≤ n) (n2 : n ≤ 99 - xf) (x1 : 0 ≤ xf) (x2 : xf ≤ 99) (s1 : ∀ W, Tab W → Calls Tryz.prog 22 #[dcV 0 na ta ea, prV 1 mf xf ms xs st cs ns ts es md false im ix] W fun e w' => e = .returned (.tuple #[.agg #[.int .i64 sc, .bool sn, .string si, .string sf, .int .i64 sx, .bool sm], .int .i64 0]) ∧ Below W.heap.size W w') (s2 : ∀ W, Tab W → Calls Tryz.prog 22 #[dcV 0 na ta ea, prV 1 mf (xf + n) ms xs st cs ns ts es md false im ix] W fun e w' => e = .returned (.tuple #[.agg #[.int .i64 vc, .bool vn, .string vi, .string vf, .int .i64 vx, .bool vm], .int .i64 51]) ∧ Below W.heap.size W w') (s3 : ∀ W, Tab W → Calls Tryz.prog 22 #[dcV 0 na ta ea, prV 1 mf xf ms xs st cs ns ts es md true im ix] W fun e w' => e = .returned (.tuple #[.agg #[.int .i64 uc, .bool un, .string ui, .string uf, .int .i64 ux, .bool um], .int .i64 0]) ∧ Below W.heap.size W w')  : Calls Tryz.prog 12 #[dcV 0 na ta ea, prV 1 mf xf ms xs st cs ns ts es md hd im ix, .int .i64 n] w fun e w' => e = .returned (.bool true) ∧ Below w.heap.size w w' := by
  have C0 := hide (fun W => rmay_yes 0 na ta ea W h)
  have C1 := hide (fun W (hW : Tab W) => check_tP 1 mf xf ms xs st cs ns ts es md hd im ix W hW h2)
  have H1 := hide s1
  have H2 := hide s2
  have H3 := hide s3
  have HT := hide htab
  have n3 : ¬ 99 - xf < n := by omega
  have n4 : decide (99 - xf < n) = false := decide_eq_false n3
  have n5 : ¬ n < 0 := by omega
  clear htab h h2 s1 s2 s3
  have Ba0 := hide ((Blk.newAt w (w.heap.size) (rfl) #[.int .i64 0, .bool na, .string ta, .int .i64 ea] 23).alloc (.cells #[.int .i64 1, .int .i64 mf, .int .i64 xf, .int .i64 ms, .int .i64 xs, .bool st, .int .i64 cs, .bool ns, .string ts, .int .i64 es, .int .i64 md, .bool hd, .int .i64 im, .int .i64 ix] 32))
  have Bp0 := hide (Blk.newAt (w.alloc (.cells #[.int .i64 0, .bool na, .string ta, .int .i64 ea] 23)) (w.heap.size + 1) (by simp) #[.int .i64 1, .int .i64 mf, .int .i64 xf, .int .i64 ms, .int .i64 xs, .bool st, .int .i64 cs, .bool ns, .string ts, .int .i64 es, .int .i64 md, .bool hd, .int .i64 im, .int .i64 ix] 32)
  have HB0 : Hid (Below w.heap.size w ((w.alloc (.cells #[.int .i64 0, .bool na, .string ta, .int .i64 ea] 23)).alloc (.cells #[.int .i64 1, .int .i64 mf, .int .i64 xf, .int .i64 ms, .int .i64 xs, .bool st, .int .i64 cs, .bool ns, .string ts, .int .i64 es, .int .i64 md, .bool hd, .int .i64 im, .int .i64 ix] 32))) := (((Below.refl _ _).alloc (Nat.le_refl _) _).alloc (by simp <;> omega) _)
  go_enter Tryz.func12, Tryz.ntmps12
  go_wp2_with fail
  refine (xawake_any _ (HT.out.below HB0.out)).mono ?_
  rintro e w1 ⟨rfl, hb⟩
  have Ba1 := Blk.on Ba0 hb
  have Bp1 := Blk.on Bp0 hb
  have HB1 := hide (HB0.out.trans (hb.mono HB0.out.size))
  clear hb Ba0 Bp0 HB0 
  obtain ⟨ya0, ya1, ya2, ya3⟩ := Ba1.out.four
  obtain ⟨yp0, yp1, yp2, yp3, yp4, yp5, yp6, yp7, yp8, yp9, yp10, yp11, yp12, yp13⟩ := Bp1.out.fourteen
  go_wp2_with fail
  refine (C0.out _).mono ?_
  rintro e w2 ⟨rfl, hb⟩
  have Ba2 := Blk.on Ba1 hb
  have Bp2 := Blk.on Bp1 hb
  have HB2 := hide (HB1.out.trans (hb.mono HB1.out.size))
  clear hb Ba1 Bp1 HB1 ya0 ya1 ya2 ya3 yp0 yp1 yp2 yp3 yp4 yp5 yp6 yp7 yp8 yp9 yp10 yp11 yp12 yp13
  obtain ⟨ya0, ya1, ya2, ya3⟩ := Ba2.out.four
  obtain ⟨yp0, yp1, yp2, yp3, yp4, yp5, yp6, yp7, yp8, yp9, yp10, yp11, yp12, yp13⟩ := Bp2.out.fourteen
  go_wp2_with fail
  refine (C1.out _ (HT.out.below HB2.out)).mono ?_
  rintro e w3 ⟨rfl, hb⟩
  have Ba3 := Blk.on Ba2 hb
  have Bp3 := Blk.on Bp2 hb
  have HB3 := hide (HB2.out.trans (hb.mono HB2.out.size))
  clear hb Ba2 Bp2 HB2 ya0 ya1 ya2 ya3 yp0 yp1 yp2 yp3 yp4 yp5 yp6 yp7 yp8 yp9 yp10 yp11 yp12 yp13
  obtain ⟨ya0, ya1, ya2, ya3⟩ := Ba3.out.four
  obtain ⟨yp0, yp1, yp2, yp3, yp4, yp5, yp6, yp7, yp8, yp9, yp10, yp11, yp12, yp13⟩ := Bp3.out.fourteen
  have fp11 := Bp3.out.free 11
  have Bp4 := hide (Bp3.out.fset11 (.bool false))
  have Ba4 := hide (Ba3.out.other (a := ⟨w.heap.size + 1, 11, none⟩) (by simp) (.bool false))
  have HB4 : Hid (Below w.heap.size w (w3.setCell ⟨w.heap.size + 1, 11, none⟩ (.bool false))) := HB3.out.setCell (Nat.le_succ _) _
  clear Bp3 Ba3 HB3
  obtain ⟨ya0, ya1, ya2, ya3⟩ := Ba4.out.four
  obtain ⟨yp0, yp1, yp2, yp3, yp4, yp5, yp6, yp7, yp8, yp9, yp10, yp11, yp12, yp13⟩ := Bp4.out.fourteen
  have Ba5 := Blk.up Ba4 (.cells #[.int .i64 1, .int .i64 mf, .int .i64 (xf + n), .int .i64 ms, .int .i64 xs, .bool st, .int .i64 cs, .bool ns, .string ts, .int .i64 es, .int .i64 md, .bool false, .int .i64 im, .int .i64 ix] 32)
  have Bp5 := Blk.up Bp4 (.cells #[.int .i64 1, .int .i64 mf, .int .i64 (xf + n), .int .i64 ms, .int .i64 xs, .bool st, .int .i64 cs, .bool ns, .string ts, .int .i64 es, .int .i64 md, .bool false, .int .i64 im, .int .i64 ix] 32)
  have Bq5 := hide ((Blk.newAt (w3.setCell ⟨w.heap.size + 1, 11, none⟩ (.bool false)) (w3.heap.size) (by simp) #[.int .i64 1, .int .i64 mf, .int .i64 (xf + n), .int .i64 ms, .int .i64 xs, .bool st, .int .i64 cs, .bool ns, .string ts, .int .i64 es, .int .i64 md, .bool false, .int .i64 im, .int .i64 ix] 32))
  have HB5 : Hid (Below w.heap.size w ((w3.setCell ⟨w.heap.size + 1, 11, none⟩ (.bool false)).alloc (.cells #[.int .i64 1, .int .i64 mf, .int .i64 (xf + n), .int .i64 ms, .int .i64 xs, .bool st, .int .i64 cs, .bool ns, .string ts, .int .i64 es, .int .i64 md, .bool false, .int .i64 im, .int .i64 ix] 32))) := (HB4.out.alloc HB4.out.size _)
  clear Ba4 Bp4 HB4 
  obtain ⟨ya0, ya1, ya2, ya3⟩ := Ba5.out.four
  obtain ⟨yp0, yp1, yp2, yp3, yp4, yp5, yp6, yp7, yp8, yp9, yp10, yp11, yp12, yp13⟩ := Bp5.out.fourteen
  obtain ⟨yq0, yq1, yq2, yq3, yq4, yq5, yq6, yq7, yq8, yq9, yq10, yq11, yq12, yq13⟩ := Bq5.out.fourteen
  have Ba6 := Blk.up Ba5 (.cells #[.int .i64 1, .int .i64 mf, .int .i64 xf, .int .i64 ms, .int .i64 xs, .bool st, .int .i64 cs, .bool ns, .string ts, .int .i64 es, .int .i64 md, .bool true, .int .i64 im, .int .i64 ix] 32)
  have Bp6 := Blk.up Bp5 (.cells #[.int .i64 1, .int .i64 mf, .int .i64 xf, .int .i64 ms, .int .i64 xs, .bool st, .int .i64 cs, .bool ns, .string ts, .int .i64 es, .int .i64 md, .bool true, .int .i64 im, .int .i64 ix] 32)
  have Bq6 := Blk.up Bq5 (.cells #[.int .i64 1, .int .i64 mf, .int .i64 xf, .int .i64 ms, .int .i64 xs, .bool st, .int .i64 cs, .bool ns, .string ts, .int .i64 es, .int .i64 md, .bool true, .int .i64 im, .int .i64 ix] 32)
  have Bh6 := hide ((Blk.newAt ((w3.setCell ⟨w.heap.size + 1, 11, none⟩ (.bool false)).alloc (.cells #[.int .i64 1, .int .i64 mf, .int .i64 (xf + n), .int .i64 ms, .int .i64 xs, .bool st, .int .i64 cs, .bool ns, .string ts, .int .i64 es, .int .i64 md, .bool false, .int .i64 im, .int .i64 ix] 32)) (w3.heap.size + 1) (by simp) #[.int .i64 1, .int .i64 mf, .int .i64 xf, .int .i64 ms, .int .i64 xs, .bool st, .int .i64 cs, .bool ns, .string ts, .int .i64 es, .int .i64 md, .bool true, .int .i64 im, .int .i64 ix] 32))
  have HB6 : Hid (Below w.heap.size w (((w3.setCell ⟨w.heap.size + 1, 11, none⟩ (.bool false)).alloc (.cells #[.int .i64 1, .int .i64 mf, .int .i64 (xf + n), .int .i64 ms, .int .i64 xs, .bool st, .int .i64 cs, .bool ns, .string ts, .int .i64 es, .int .i64 md, .bool false, .int .i64 im, .int .i64 ix] 32)).alloc (.cells #[.int .i64 1, .int .i64 mf, .int .i64 xf, .int .i64 ms, .int .i64 xs, .bool st, .int .i64 cs, .bool ns, .string ts, .int .i64 es, .int .i64 md, .bool true, .int .i64 im, .int .i64 ix] 32))) := (HB5.out.alloc HB5.out.size _)
  clear Ba5 Bp5 Bq5 HB5 
  obtain ⟨ya0, ya1, ya2, ya3⟩ := Ba6.out.four
  obtain ⟨yp0, yp1, yp2, yp3, yp4, yp5, yp6, yp7, yp8, yp9, yp10, yp11, yp12, yp13⟩ := Bp6.out.fourteen
  obtain ⟨yq0, yq1, yq2, yq3, yq4, yq5, yq6, yq7, yq8, yq9, yq10, yq11, yq12, yq13⟩ := Bq6.out.fourteen
  obtain ⟨yh0, yh1, yh2, yh3, yh4, yh5, yh6, yh7, yh8, yh9, yh10, yh11, yh12, yh13⟩ := Bh6.out.fourteen
  go_wp2_with fail
  refine (H1.out _ (HT.out.below HB6.out)).mono ?_
  rintro e w7 ⟨rfl, hb⟩
  have Ba7 := Blk.on Ba6 hb
  have Bp7 := Blk.on Bp6 hb
  have Bq7 := Blk.on Bq6 hb
  have Bh7 := Blk.on Bh6 hb
  have HB7 := hide (HB6.out.trans (hb.mono HB6.out.size))
  clear hb Ba6 Bp6 Bq6 Bh6 HB6 ya0 ya1 ya2 ya3 yp0 yp1 yp2 yp3 yp4 yp5 yp6 yp7 yp8 yp9 yp10 yp11 yp12 yp13 yq0 yq1 yq2 yq3 yq4 yq5 yq6 yq7 yq8 yq9 yq10 yq11 yq12 yq13 yh0 yh1 yh2 yh3 yh4 yh5 yh6 yh7 yh8 yh9 yh10 yh11 yh12 yh13
  obtain ⟨ya0, ya1, ya2, ya3⟩ := Ba7.out.four
  obtain ⟨yp0, yp1, yp2, yp3, yp4, yp5, yp6, yp7, yp8, yp9, yp10, yp11, yp12, yp13⟩ := Bp7.out.fourteen
  obtain ⟨yq0, yq1, yq2, yq3, yq4, yq5, yq6, yq7, yq8, yq9, yq10, yq11, yq12, yq13⟩ := Bq7.out.fourteen
  obtain ⟨yh0, yh1, yh2, yh3, yh4, yh5, yh6, yh7, yh8, yh9, yh10, yh11, yh12, yh13⟩ := Bh7.out.fourteen
  have Ba8 := Blk.up Ba7 (.cells #[.int .i64 sc, .bool sn, .string si, .string sf, .int .i64 sx, .bool sm] 36)
  have Bp8 := Blk.up Bp7 (.cells #[.int .i64 sc, .bool sn, .string si, .string sf, .int .i64 sx, .bool sm] 36)
  have Bq8 := Blk.up Bq7 (.cells #[.int .i64 sc, .bool sn, .string si, .string sf, .int .i64 sx, .bool sm] 36)
  have Bh8 := Blk.up Bh7 (.cells #[.int .i64 sc, .bool sn, .string si, .string sf, .int .i64 sx, .bool sm] 36)
  have Bs8 := hide ((Blk.newAt w7 (w7.heap.size) (rfl) #[.int .i64 sc, .bool sn, .string si, .string sf, .int .i64 sx, .bool sm] 36))
  have HB8 : Hid (Below w.heap.size w (w7.alloc (.cells #[.int .i64 sc, .bool sn, .string si, .string sf, .int .i64 sx, .bool sm] 36))) := (HB7.out.alloc HB7.out.size _)
  clear Ba7 Bp7 Bq7 Bh7 HB7 ya0 ya1 ya2 ya3 yp0 yp1 yp2 yp3 yp4 yp5 yp6 yp7 yp8 yp9 yp10 yp11 yp12 yp13 yq0 yq1 yq2 yq3 yq4 yq5 yq6 yq7 yq8 yq9 yq10 yq11 yq12 yq13 yh0 yh1 yh2 yh3 yh4 yh5 yh6 yh7 yh8 yh9 yh10 yh11 yh12 yh13
  obtain ⟨ya0, ya1, ya2, ya3⟩ := Ba8.out.four
  obtain ⟨yp0, yp1, yp2, yp3, yp4, yp5, yp6, yp7, yp8, yp9, yp10, yp11, yp12, yp13⟩ := Bp8.out.fourteen
  obtain ⟨yq0, yq1, yq2, yq3, yq4, yq5, yq6, yq7, yq8, yq9, yq10, yq11, yq12, yq13⟩ := Bq8.out.fourteen
  obtain ⟨yh0, yh1, yh2, yh3, yh4, yh5, yh6, yh7, yh8, yh9, yh10, yh11, yh12, yh13⟩ := Bh8.out.fourteen
  obtain ⟨ys0, ys1, ys2, ys3, ys4, ys5⟩ := Bs8.out.six
  go_wp2_with fail
  refine (H2.out _ (HT.out.below HB8.out)).mono ?_
  rintro e w9 ⟨rfl, hb⟩
  have Ba9 := Blk.on Ba8 hb
  have Bp9 := Blk.on Bp8 hb
  have Bq9 := Blk.on Bq8 hb
  have Bh9 := Blk.on Bh8 hb
  have Bs9 := Blk.on Bs8 hb
  have HB9 := hide (HB8.out.trans (hb.mono HB8.out.size))
  clear hb Ba8 Bp8 Bq8 Bh8 Bs8 HB8 ya0 ya1 ya2 ya3 yp0 yp1 yp2 yp3 yp4 yp5 yp6 yp7 yp8 yp9 yp10 yp11 yp12 yp13 yq0 yq1 yq2 yq3 yq4 yq5 yq6 yq7 yq8 yq9 yq10 yq11 yq12 yq13 yh0 yh1 yh2 yh3 yh4 yh5 yh6 yh7 yh8 yh9 yh10 yh11 yh12 yh13 ys0 ys1 ys2 ys3 ys4 ys5
  obtain ⟨ya0, ya1, ya2, ya3⟩ := Ba9.out.four
  obtain ⟨yp0, yp1, yp2, yp3, yp4, yp5, yp6, yp7, yp8, yp9, yp10, yp11, yp12, yp13⟩ := Bp9.out.fourteen
  obtain ⟨yq0, yq1, yq2, yq3, yq4, yq5, yq6, yq7, yq8, yq9, yq10, yq11, yq12, yq13⟩ := Bq9.out.fourteen
  obtain ⟨yh0, yh1, yh2, yh3, yh4, yh5, yh6, yh7, yh8, yh9, yh10, yh11, yh12, yh13⟩ := Bh9.out.fourteen
  obtain ⟨ys0, ys1, ys2, ys3, ys4, ys5⟩ := Bs9.out.six
  have Ba10 := Blk.up Ba9 (.cells #[.int .i64 vc, .bool vn, .string vi, .string vf, .int .i64 vx, .bool vm] 36)
  have Bp10 := Blk.up Bp9 (.cells #[.int .i64 vc, .bool vn, .string vi, .string vf, .int .i64 vx, .bool vm] 36)
  have Bq10 := Blk.up Bq9 (.cells #[.int .i64 vc, .bool vn, .string vi, .string vf, .int .i64 vx, .bool vm] 36)
  have Bh10 := Blk.up Bh9 (.cells #[.int .i64 vc, .bool vn, .string vi, .string vf, .int .i64 vx, .bool vm] 36)
  have Bs10 := Blk.up Bs9 (.cells #[.int .i64 vc, .bool vn, .string vi, .string vf, .int .i64 vx, .bool vm] 36)
  have Bt10 := hide ((Blk.newAt w9 (w9.heap.size) (rfl) #[.int .i64 vc, .bool vn, .string vi, .string vf, .int .i64 vx, .bool vm] 36))
  have HB10 : Hid (Below w.heap.size w (w9.alloc (.cells #[.int .i64 vc, .bool vn, .string vi, .string vf, .int .i64 vx, .bool vm] 36))) := (HB9.out.alloc HB9.out.size _)
  clear Ba9 Bp9 Bq9 Bh9 Bs9 HB9 ya0 ya1 ya2 ya3 yp0 yp1 yp2 yp3 yp4 yp5 yp6 yp7 yp8 yp9 yp10 yp11 yp12 yp13 yq0 yq1 yq2 yq3 yq4 yq5 yq6 yq7 yq8 yq9 yq10 yq11 yq12 yq13 yh0 yh1 yh2 yh3 yh4 yh5 yh6 yh7 yh8 yh9 yh10 yh11 yh12 yh13 ys0 ys1 ys2 ys3 ys4 ys5
  obtain ⟨ya0, ya1, ya2, ya3⟩ := Ba10.out.four
  obtain ⟨yp0, yp1, yp2, yp3, yp4, yp5, yp6, yp7, yp8, yp9, yp10, yp11, yp12, yp13⟩ := Bp10.out.fourteen
  obtain ⟨yq0, yq1, yq2, yq3, yq4, yq5, yq6, yq7, yq8, yq9, yq10, yq11, yq12, yq13⟩ := Bq10.out.fourteen
  obtain ⟨yh0, yh1, yh2, yh3, yh4, yh5, yh6, yh7, yh8, yh9, yh10, yh11, yh12, yh13⟩ := Bh10.out.fourteen
  obtain ⟨ys0, ys1, ys2, ys3, ys4, ys5⟩ := Bs10.out.six
  obtain ⟨yt0, yt1, yt2, yt3, yt4, yt5⟩ := Bt10.out.six
  go_wp2_with fail
  refine (H3.out _ (HT.out.below HB10.out)).mono ?_
  rintro e w11 ⟨rfl, hb⟩
  have Ba11 := Blk.on Ba10 hb
  have Bp11 := Blk.on Bp10 hb
  have Bq11 := Blk.on Bq10 hb
  have Bh11 := Blk.on Bh10 hb
  have Bs11 := Blk.on Bs10 hb
  have Bt11 := Blk.on Bt10 hb
  have HB11 := hide (HB10.out.trans (hb.mono HB10.out.size))
  clear hb Ba10 Bp10 Bq10 Bh10 Bs10 Bt10 HB10 ya0 ya1 ya2 ya3 yp0 yp1 yp2 yp3 yp4 yp5 yp6 yp7 yp8 yp9 yp10 yp11 yp12 yp13 yq0 yq1 yq2 yq3 yq4 yq5 yq6 yq7 yq8 yq9 yq10 yq11 yq12 yq13 yh0 yh1 yh2 yh3 yh4 yh5 yh6 yh7 yh8 yh9 yh10 yh11 yh12 yh13 ys0 ys1 ys2 ys3 ys4 ys5 yt0 yt1 yt2 yt3 yt4 yt5
  obtain ⟨ya0, ya1, ya2, ya3⟩ := Ba11.out.four
  obtain ⟨yp0, yp1, yp2, yp3, yp4, yp5, yp6, yp7, yp8, yp9, yp10, yp11, yp12, yp13⟩ := Bp11.out.fourteen
  obtain ⟨yq0, yq1, yq2, yq3, yq4, yq5, yq6, yq7, yq8, yq9, yq10, yq11, yq12, yq13⟩ := Bq11.out.fourteen
  obtain ⟨yh0, yh1, yh2, yh3, yh4, yh5, yh6, yh7, yh8, yh9, yh10, yh11, yh12, yh13⟩ := Bh11.out.fourteen
  obtain ⟨ys0, ys1, ys2, ys3, ys4, ys5⟩ := Bs11.out.six
  obtain ⟨yt0, yt1, yt2, yt3, yt4, yt5⟩ := Bt11.out.six
  have Ba12 := Blk.up Ba11 (.cells #[.int .i64 uc, .bool un, .string ui, .string uf, .int .i64 ux, .bool um] 36)
  have Bp12 := Blk.up Bp11 (.cells #[.int .i64 uc, .bool un, .string ui, .string uf, .int .i64 ux, .bool um] 36)
  have Bq12 := Blk.up Bq11 (.cells #[.int .i64 uc, .bool un, .string ui, .string uf, .int .i64 ux, .bool um] 36)
  have Bh12 := Blk.up Bh11 (.cells #[.int .i64 uc, .bool un, .string ui, .string uf, .int .i64 ux, .bool um] 36)
  have Bs12 := Blk.up Bs11 (.cells #[.int .i64 uc, .bool un, .string ui, .string uf, .int .i64 ux, .bool um] 36)
  have Bt12 := Blk.up Bt11 (.cells #[.int .i64 uc, .bool un, .string ui, .string uf, .int .i64 ux, .bool um] 36)
  have Bu12 := hide ((Blk.newAt w11 (w11.heap.size) (rfl) #[.int .i64 uc, .bool un, .string ui, .string uf, .int .i64 ux, .bool um] 36))
  have HB12 : Hid (Below w.heap.size w (w11.alloc (.cells #[.int .i64 uc, .bool un, .string ui, .string uf, .int .i64 ux, .bool um] 36))) := (HB11.out.alloc HB11.out.size _)
  clear Ba11 Bp11 Bq11 Bh11 Bs11 Bt11 HB11 ya0 ya1 ya2 ya3 yp0 yp1 yp2 yp3 yp4 yp5 yp6 yp7 yp8 yp9 yp10 yp11 yp12 yp13 yq0 yq1 yq2 yq3 yq4 yq5 yq6 yq7 yq8 yq9 yq10 yq11 yq12 yq13 yh0 yh1 yh2 yh3 yh4 yh5 yh6 yh7 yh8 yh9 yh10 yh11 yh12 yh13 ys0 ys1 ys2 ys3 ys4 ys5 yt0 yt1 yt2 yt3 yt4 yt5
  obtain ⟨Z, hZ⟩ : ∃ Z, Z = (w11.alloc (.cells #[.int .i64 uc, .bool un, .string ui, .string uf, .int .i64 ux, .bool um] 36)) := ⟨_, rfl⟩
  rw [← hZ] at HB12 Ba12 Bp12 Bq12 Bh12 Bs12 Bt12 Bu12
  have HZ := hide hZ
  clear hZ
  obtain ⟨ys0, ys1, ys2, ys3, ys4, ys5⟩ := Bs12.out.six
  obtain ⟨yt0, yt1, yt2, yt3, yt4, yt5⟩ := Bt12.out.six
  obtain ⟨yu0, yu1, yu2, yu3, yu4, yu5⟩ := Bu12.out.six
  go_wp2_with (simp only [← HZ.out])
  go_ret
  exact ⟨rfl, HB12.out⟩

end Go.Proofs.YtckijnlolmbdiaaGreatDoor

namespace Go.Proofs.YtckijnlolmbdiaaGreatDoor
open Go.RowKit

set_option maxRecDepth 100000 in
set_option maxHeartbeats 4000000 in
theorem more_a1 (na : Bool) (ta : ByteArray) (ea mf xf ms xs : Int) (st : Bool) (cs : Int) (ns : Bool) (ts : ByteArray) (es md : Int) (hd : Bool) (im ix n : Int) (si sf : ByteArray) (vc : Int) (vn : Bool) (vi vf : ByteArray) (vx : Int) (vm : Bool) (w : World) (htab : Tab w) (h : MayD 0 na (bys ta) ea) (h2 : MayP ⟨1, mf, xf, ms, xs, st, cs, ns, bys ts, es, md, hd, im, ix⟩) (n1 : 0 ≤ n) (n2 : n ≤ 99 - xf) (x1 : 0 ≤ xf) (x2 : xf ≤ 99) (s1 : ∀ W, Tab W → Calls Tryz.prog 22 #[dcV 0 na ta ea, prV 1 mf xf ms xs st cs ns ts es md false im ix] W fun e w' => e = .returned (.tuple #[.agg #[.int .i64 0, .bool na, .string si, .string sf, .int .i64 0, .bool false], .int .i64 0]) ∧ Below W.heap.size W w') (s2 : ∀ W, Tab W → Calls Tryz.prog 22 #[dcV 0 na ta ea, prV 1 mf (xf + n) ms xs st cs ns ts es md false im ix] W fun e w' => e = .returned (.tuple #[.agg #[.int .i64 vc, .bool vn, .string vi, .string vf, .int .i64 vx, .bool vm], .int .i64 0]) ∧ Below W.heap.size W w') (s3 : ∀ W, Tab W → Calls Tryz.prog 22 #[dcV 0 na ta ea, prV 1 mf xf ms xs st cs ns ts es md true im ix] W fun e w' => e = .returned (.tuple #[.agg #[.int .i64 0, .bool na, .string si, .string ⟨#[]⟩, .int .i64 0, .bool false], .int .i64 0]) ∧ Below W.heap.size W w') (hl : (sf.size : Int) ≤ (vf.size : Int)) (hz : sf.size ≤ 4096) (hJ : ∀ q, q < sf.size → ∀ h : q < sf.size, sf[q].toNat = 48) : Calls Tryz.prog 12 #[dcV 0 na ta ea, prV 1 mf xf ms xs st cs ns ts es md hd im ix, .int .i64 n] w fun e w' => e = .returned (.bool true) ∧ Below w.heap.size w w' := by
  have C0 := hide (fun W => rmay_yes 0 na ta ea W h)
  have C1 := hide (fun W (hW : Tab W) => check_tP 1 mf xf ms xs st cs ns ts es md hd im ix W hW h2)
  have H1 := hide s1
  have H2 := hide s2
  have H3 := hide s3
  have HT := hide htab
  have n3 : ¬ 99 - xf < n := by omega
  have n4 : decide (99 - xf < n) = false := decide_eq_false n3
  have n5 : ¬ n < 0 := by omega
  clear htab h h2 s1 s2 s3
  have l1 : ¬ (vf.size : Int) < (sf.size : Int) := by omega
  have l2 : decide ((vf.size : Int) < (sf.size : Int)) = false := decide_eq_false l1
  clear hl
  have HJ := hide hJ
  clear hJ
  have Ba0 := hide ((Blk.newAt w (w.heap.size) (rfl) #[.int .i64 0, .bool na, .string ta, .int .i64 ea] 23).alloc (.cells #[.int .i64 1, .int .i64 mf, .int .i64 xf, .int .i64 ms, .int .i64 xs, .bool st, .int .i64 cs, .bool ns, .string ts, .int .i64 es, .int .i64 md, .bool hd, .int .i64 im, .int .i64 ix] 32))
  have Bp0 := hide (Blk.newAt (w.alloc (.cells #[.int .i64 0, .bool na, .string ta, .int .i64 ea] 23)) (w.heap.size + 1) (by simp) #[.int .i64 1, .int .i64 mf, .int .i64 xf, .int .i64 ms, .int .i64 xs, .bool st, .int .i64 cs, .bool ns, .string ts, .int .i64 es, .int .i64 md, .bool hd, .int .i64 im, .int .i64 ix] 32)
  have HB0 : Hid (Below w.heap.size w ((w.alloc (.cells #[.int .i64 0, .bool na, .string ta, .int .i64 ea] 23)).alloc (.cells #[.int .i64 1, .int .i64 mf, .int .i64 xf, .int .i64 ms, .int .i64 xs, .bool st, .int .i64 cs, .bool ns, .string ts, .int .i64 es, .int .i64 md, .bool hd, .int .i64 im, .int .i64 ix] 32))) := (((Below.refl _ _).alloc (Nat.le_refl _) _).alloc (by simp <;> omega) _)
  go_enter Tryz.func12, Tryz.ntmps12
  go_wp2_with fail
  refine (xawake_any _ (HT.out.below HB0.out)).mono ?_
  rintro e w1 ⟨rfl, hb⟩
  have Ba1 := Blk.on Ba0 hb
  have Bp1 := Blk.on Bp0 hb
  have HB1 := hide (HB0.out.trans (hb.mono HB0.out.size))
  clear hb Ba0 Bp0 HB0 
  obtain ⟨ya0, ya1, ya2, ya3⟩ := Ba1.out.four
  obtain ⟨yp0, yp1, yp2, yp3, yp4, yp5, yp6, yp7, yp8, yp9, yp10, yp11, yp12, yp13⟩ := Bp1.out.fourteen
  go_wp2_with fail
  refine (C0.out _).mono ?_
  rintro e w2 ⟨rfl, hb⟩
  have Ba2 := Blk.on Ba1 hb
  have Bp2 := Blk.on Bp1 hb
  have HB2 := hide (HB1.out.trans (hb.mono HB1.out.size))
  clear hb Ba1 Bp1 HB1 ya0 ya1 ya2 ya3 yp0 yp1 yp2 yp3 yp4 yp5 yp6 yp7 yp8 yp9 yp10 yp11 yp12 yp13
  obtain ⟨ya0, ya1, ya2, ya3⟩ := Ba2.out.four
  obtain ⟨yp0, yp1, yp2, yp3, yp4, yp5, yp6, yp7, yp8, yp9, yp10, yp11, yp12, yp13⟩ := Bp2.out.fourteen
  go_wp2_with fail
  refine (C1.out _ (HT.out.below HB2.out)).mono ?_
  rintro e w3 ⟨rfl, hb⟩
  have Ba3 := Blk.on Ba2 hb
  have Bp3 := Blk.on Bp2 hb
  have HB3 := hide (HB2.out.trans (hb.mono HB2.out.size))
  clear hb Ba2 Bp2 HB2 ya0 ya1 ya2 ya3 yp0 yp1 yp2 yp3 yp4 yp5 yp6 yp7 yp8 yp9 yp10 yp11 yp12 yp13
  obtain ⟨ya0, ya1, ya2, ya3⟩ := Ba3.out.four
  obtain ⟨yp0, yp1, yp2, yp3, yp4, yp5, yp6, yp7, yp8, yp9, yp10, yp11, yp12, yp13⟩ := Bp3.out.fourteen
  have fp11 := Bp3.out.free 11
  have Bp4 := hide (Bp3.out.fset11 (.bool false))
  have Ba4 := hide (Ba3.out.other (a := ⟨w.heap.size + 1, 11, none⟩) (by simp) (.bool false))
  have HB4 : Hid (Below w.heap.size w (w3.setCell ⟨w.heap.size + 1, 11, none⟩ (.bool false))) := HB3.out.setCell (Nat.le_succ _) _
  clear Bp3 Ba3 HB3
  obtain ⟨ya0, ya1, ya2, ya3⟩ := Ba4.out.four
  obtain ⟨yp0, yp1, yp2, yp3, yp4, yp5, yp6, yp7, yp8, yp9, yp10, yp11, yp12, yp13⟩ := Bp4.out.fourteen
  have Ba5 := Blk.up Ba4 (.cells #[.int .i64 1, .int .i64 mf, .int .i64 (xf + n), .int .i64 ms, .int .i64 xs, .bool st, .int .i64 cs, .bool ns, .string ts, .int .i64 es, .int .i64 md, .bool false, .int .i64 im, .int .i64 ix] 32)
  have Bp5 := Blk.up Bp4 (.cells #[.int .i64 1, .int .i64 mf, .int .i64 (xf + n), .int .i64 ms, .int .i64 xs, .bool st, .int .i64 cs, .bool ns, .string ts, .int .i64 es, .int .i64 md, .bool false, .int .i64 im, .int .i64 ix] 32)
  have Bq5 := hide ((Blk.newAt (w3.setCell ⟨w.heap.size + 1, 11, none⟩ (.bool false)) (w3.heap.size) (by simp) #[.int .i64 1, .int .i64 mf, .int .i64 (xf + n), .int .i64 ms, .int .i64 xs, .bool st, .int .i64 cs, .bool ns, .string ts, .int .i64 es, .int .i64 md, .bool false, .int .i64 im, .int .i64 ix] 32))
  have HB5 : Hid (Below w.heap.size w ((w3.setCell ⟨w.heap.size + 1, 11, none⟩ (.bool false)).alloc (.cells #[.int .i64 1, .int .i64 mf, .int .i64 (xf + n), .int .i64 ms, .int .i64 xs, .bool st, .int .i64 cs, .bool ns, .string ts, .int .i64 es, .int .i64 md, .bool false, .int .i64 im, .int .i64 ix] 32))) := (HB4.out.alloc HB4.out.size _)
  clear Ba4 Bp4 HB4 
  obtain ⟨ya0, ya1, ya2, ya3⟩ := Ba5.out.four
  obtain ⟨yp0, yp1, yp2, yp3, yp4, yp5, yp6, yp7, yp8, yp9, yp10, yp11, yp12, yp13⟩ := Bp5.out.fourteen
  obtain ⟨yq0, yq1, yq2, yq3, yq4, yq5, yq6, yq7, yq8, yq9, yq10, yq11, yq12, yq13⟩ := Bq5.out.fourteen
  have Ba6 := Blk.up Ba5 (.cells #[.int .i64 1, .int .i64 mf, .int .i64 xf, .int .i64 ms, .int .i64 xs, .bool st, .int .i64 cs, .bool ns, .string ts, .int .i64 es, .int .i64 md, .bool true, .int .i64 im, .int .i64 ix] 32)
  have Bp6 := Blk.up Bp5 (.cells #[.int .i64 1, .int .i64 mf, .int .i64 xf, .int .i64 ms, .int .i64 xs, .bool st, .int .i64 cs, .bool ns, .string ts, .int .i64 es, .int .i64 md, .bool true, .int .i64 im, .int .i64 ix] 32)
  have Bq6 := Blk.up Bq5 (.cells #[.int .i64 1, .int .i64 mf, .int .i64 xf, .int .i64 ms, .int .i64 xs, .bool st, .int .i64 cs, .bool ns, .string ts, .int .i64 es, .int .i64 md, .bool true, .int .i64 im, .int .i64 ix] 32)
  have Bh6 := hide ((Blk.newAt ((w3.setCell ⟨w.heap.size + 1, 11, none⟩ (.bool false)).alloc (.cells #[.int .i64 1, .int .i64 mf, .int .i64 (xf + n), .int .i64 ms, .int .i64 xs, .bool st, .int .i64 cs, .bool ns, .string ts, .int .i64 es, .int .i64 md, .bool false, .int .i64 im, .int .i64 ix] 32)) (w3.heap.size + 1) (by simp) #[.int .i64 1, .int .i64 mf, .int .i64 xf, .int .i64 ms, .int .i64 xs, .bool st, .int .i64 cs, .bool ns, .string ts, .int .i64 es, .int .i64 md, .bool true, .int .i64 im, .int .i64 ix] 32))
  have HB6 : Hid (Below w.heap.size w (((w3.setCell ⟨w.heap.size + 1, 11, none⟩ (.bool false)).alloc (.cells #[.int .i64 1, .int .i64 mf, .int .i64 (xf + n), .int .i64 ms, .int .i64 xs, .bool st, .int .i64 cs, .bool ns, .string ts, .int .i64 es, .int .i64 md, .bool false, .int .i64 im, .int .i64 ix] 32)).alloc (.cells #[.int .i64 1, .int .i64 mf, .int .i64 xf, .int .i64 ms, .int .i64 xs, .bool st, .int .i64 cs, .bool ns, .string ts, .int .i64 es, .int .i64 md, .bool true, .int .i64 im, .int .i64 ix] 32))) := (HB5.out.alloc HB5.out.size _)
  clear Ba5 Bp5 Bq5 HB5 
  obtain ⟨ya0, ya1, ya2, ya3⟩ := Ba6.out.four
  obtain ⟨yp0, yp1, yp2, yp3, yp4, yp5, yp6, yp7, yp8, yp9, yp10, yp11, yp12, yp13⟩ := Bp6.out.fourteen
  obtain ⟨yq0, yq1, yq2, yq3, yq4, yq5, yq6, yq7, yq8, yq9, yq10, yq11, yq12, yq13⟩ := Bq6.out.fourteen
  obtain ⟨yh0, yh1, yh2, yh3, yh4, yh5, yh6, yh7, yh8, yh9, yh10, yh11, yh12, yh13⟩ := Bh6.out.fourteen
  go_wp2_with fail
  refine (H1.out _ (HT.out.below HB6.out)).mono ?_
  rintro e w7 ⟨rfl, hb⟩
  have Ba7 := Blk.on Ba6 hb
  have Bp7 := Blk.on Bp6 hb
  have Bq7 := Blk.on Bq6 hb
  have Bh7 := Blk.on Bh6 hb
  have HB7 := hide (HB6.out.trans (hb.mono HB6.out.size))
  clear hb Ba6 Bp6 Bq6 Bh6 HB6 ya0 ya1 ya2 ya3 yp0 yp1 yp2 yp3 yp4 yp5 yp6 yp7 yp8 yp9 yp10 yp11 yp12 yp13 yq0 yq1 yq2 yq3 yq4 yq5 yq6 yq7 yq8 yq9 yq10 yq11 yq12 yq13 yh0 yh1 yh2 yh3 yh4 yh5 yh6 yh7 yh8 yh9 yh10 yh11 yh12 yh13
  obtain ⟨ya0, ya1, ya2, ya3⟩ := Ba7.out.four
  obtain ⟨yp0, yp1, yp2, yp3, yp4, yp5, yp6, yp7, yp8, yp9, yp10, yp11, yp12, yp13⟩ := Bp7.out.fourteen
  obtain ⟨yq0, yq1, yq2, yq3, yq4, yq5, yq6, yq7, yq8, yq9, yq10, yq11, yq12, yq13⟩ := Bq7.out.fourteen
  obtain ⟨yh0, yh1, yh2, yh3, yh4, yh5, yh6, yh7, yh8, yh9, yh10, yh11, yh12, yh13⟩ := Bh7.out.fourteen
  have Ba8 := Blk.up Ba7 (.cells #[.int .i64 0, .bool na, .string si, .string sf, .int .i64 0, .bool false] 36)
  have Bp8 := Blk.up Bp7 (.cells #[.int .i64 0, .bool na, .string si, .string sf, .int .i64 0, .bool false] 36)
  have Bq8 := Blk.up Bq7 (.cells #[.int .i64 0, .bool na, .string si, .string sf, .int .i64 0, .bool false] 36)
  have Bh8 := Blk.up Bh7 (.cells #[.int .i64 0, .bool na, .string si, .string sf, .int .i64 0, .bool false] 36)
  have Bs8 := hide ((Blk.newAt w7 (w7.heap.size) (rfl) #[.int .i64 0, .bool na, .string si, .string sf, .int .i64 0, .bool false] 36))
  have HB8 : Hid (Below w.heap.size w (w7.alloc (.cells #[.int .i64 0, .bool na, .string si, .string sf, .int .i64 0, .bool false] 36))) := (HB7.out.alloc HB7.out.size _)
  clear Ba7 Bp7 Bq7 Bh7 HB7 ya0 ya1 ya2 ya3 yp0 yp1 yp2 yp3 yp4 yp5 yp6 yp7 yp8 yp9 yp10 yp11 yp12 yp13 yq0 yq1 yq2 yq3 yq4 yq5 yq6 yq7 yq8 yq9 yq10 yq11 yq12 yq13 yh0 yh1 yh2 yh3 yh4 yh5 yh6 yh7 yh8 yh9 yh10 yh11 yh12 yh13
  obtain ⟨ya0, ya1, ya2, ya3⟩ := Ba8.out.four
  obtain ⟨yp0, yp1, yp2, yp3, yp4, yp5, yp6, yp7, yp8, yp9, yp10, yp11, yp12, yp13⟩ := Bp8.out.fourteen
  obtain ⟨yq0, yq1, yq2, yq3, yq4, yq5, yq6, yq7, yq8, yq9, yq10, yq11, yq12, yq13⟩ := Bq8.out.fourteen
  obtain ⟨yh0, yh1, yh2, yh3, yh4, yh5, yh6, yh7, yh8, yh9, yh10, yh11, yh12, yh13⟩ := Bh8.out.fourteen
  obtain ⟨ys0, ys1, ys2, ys3, ys4, ys5⟩ := Bs8.out.six
  go_wp2_with fail
  refine (H2.out _ (HT.out.below HB8.out)).mono ?_
  rintro e w9 ⟨rfl, hb⟩
  have Ba9 := Blk.on Ba8 hb
  have Bp9 := Blk.on Bp8 hb
  have Bq9 := Blk.on Bq8 hb
  have Bh9 := Blk.on Bh8 hb
  have Bs9 := Blk.on Bs8 hb
  have HB9 := hide (HB8.out.trans (hb.mono HB8.out.size))
  clear hb Ba8 Bp8 Bq8 Bh8 Bs8 HB8 ya0 ya1 ya2 ya3 yp0 yp1 yp2 yp3 yp4 yp5 yp6 yp7 yp8 yp9 yp10 yp11 yp12 yp13 yq0 yq1 yq2 yq3 yq4 yq5 yq6 yq7 yq8 yq9 yq10 yq11 yq12 yq13 yh0 yh1 yh2 yh3 yh4 yh5 yh6 yh7 yh8 yh9 yh10 yh11 yh12 yh13 ys0 ys1 ys2 ys3 ys4 ys5
  obtain ⟨ya0, ya1, ya2, ya3⟩ := Ba9.out.four
  obtain ⟨yp0, yp1, yp2, yp3, yp4, yp5, yp6, yp7, yp8, yp9, yp10, yp11, yp12, yp13⟩ := Bp9.out.fourteen
  obtain ⟨yq0, yq1, yq2, yq3, yq4, yq5, yq6, yq7, yq8, yq9, yq10, yq11, yq12, yq13⟩ := Bq9.out.fourteen
  obtain ⟨yh0, yh1, yh2, yh3, yh4, yh5, yh6, yh7, yh8, yh9, yh10, yh11, yh12, yh13⟩ := Bh9.out.fourteen
  obtain ⟨ys0, ys1, ys2, ys3, ys4, ys5⟩ := Bs9.out.six
  have Ba10 := Blk.up Ba9 (.cells #[.int .i64 vc, .bool vn, .string vi, .string vf, .int .i64 vx, .bool vm] 36)
  have Bp10 := Blk.up Bp9 (.cells #[.int .i64 vc, .bool vn, .string vi, .string vf, .int .i64 vx, .bool vm] 36)
  have Bq10 := Blk.up Bq9 (.cells #[.int .i64 vc, .bool vn, .string vi, .string vf, .int .i64 vx, .bool vm] 36)
  have Bh10 := Blk.up Bh9 (.cells #[.int .i64 vc, .bool vn, .string vi, .string vf, .int .i64 vx, .bool vm] 36)
  have Bs10 := Blk.up Bs9 (.cells #[.int .i64 vc, .bool vn, .string vi, .string vf, .int .i64 vx, .bool vm] 36)
  have Bt10 := hide ((Blk.newAt w9 (w9.heap.size) (rfl) #[.int .i64 vc, .bool vn, .string vi, .string vf, .int .i64 vx, .bool vm] 36))
  have HB10 : Hid (Below w.heap.size w (w9.alloc (.cells #[.int .i64 vc, .bool vn, .string vi, .string vf, .int .i64 vx, .bool vm] 36))) := (HB9.out.alloc HB9.out.size _)
  clear Ba9 Bp9 Bq9 Bh9 Bs9 HB9 ya0 ya1 ya2 ya3 yp0 yp1 yp2 yp3 yp4 yp5 yp6 yp7 yp8 yp9 yp10 yp11 yp12 yp13 yq0 yq1 yq2 yq3 yq4 yq5 yq6 yq7 yq8 yq9 yq10 yq11 yq12 yq13 yh0 yh1 yh2 yh3 yh4 yh5 yh6 yh7 yh8 yh9 yh10 yh11 yh12 yh13 ys0 ys1 ys2 ys3 ys4 ys5
  obtain ⟨ya0, ya1, ya2, ya3⟩ := Ba10.out.four
  obtain ⟨yp0, yp1, yp2, yp3, yp4, yp5, yp6, yp7, yp8, yp9, yp10, yp11, yp12, yp13⟩ := Bp10.out.fourteen
  obtain ⟨yq0, yq1, yq2, yq3, yq4, yq5, yq6, yq7, yq8, yq9, yq10, yq11, yq12, yq13⟩ := Bq10.out.fourteen
  obtain ⟨yh0, yh1, yh2, yh3, yh4, yh5, yh6, yh7, yh8, yh9, yh10, yh11, yh12, yh13⟩ := Bh10.out.fourteen
  obtain ⟨ys0, ys1, ys2, ys3, ys4, ys5⟩ := Bs10.out.six
  obtain ⟨yt0, yt1, yt2, yt3, yt4, yt5⟩ := Bt10.out.six
  go_wp2_with fail
  refine (H3.out _ (HT.out.below HB10.out)).mono ?_
  rintro e w11 ⟨rfl, hb⟩
  have Ba11 := Blk.on Ba10 hb
  have Bp11 := Blk.on Bp10 hb
  have Bq11 := Blk.on Bq10 hb
  have Bh11 := Blk.on Bh10 hb
  have Bs11 := Blk.on Bs10 hb
  have Bt11 := Blk.on Bt10 hb
  have HB11 := hide (HB10.out.trans (hb.mono HB10.out.size))
  clear hb Ba10 Bp10 Bq10 Bh10 Bs10 Bt10 HB10 ya0 ya1 ya2 ya3 yp0 yp1 yp2 yp3 yp4 yp5 yp6 yp7 yp8 yp9 yp10 yp11 yp12 yp13 yq0 yq1 yq2 yq3 yq4 yq5 yq6 yq7 yq8 yq9 yq10 yq11 yq12 yq13 yh0 yh1 yh2 yh3 yh4 yh5 yh6 yh7 yh8 yh9 yh10 yh11 yh12 yh13 ys0 ys1 ys2 ys3 ys4 ys5 yt0 yt1 yt2 yt3 yt4 yt5
  obtain ⟨ya0, ya1, ya2, ya3⟩ := Ba11.out.four
  obtain ⟨yp0, yp1, yp2, yp3, yp4, yp5, yp6, yp7, yp8, yp9, yp10, yp11, yp12, yp13⟩ := Bp11.out.fourteen
  obtain ⟨yq0, yq1, yq2, yq3, yq4, yq5, yq6, yq7, yq8, yq9, yq10, yq11, yq12, yq13⟩ := Bq11.out.fourteen
  obtain ⟨yh0, yh1, yh2, yh3, yh4, yh5, yh6, yh7, yh8, yh9, yh10, yh11, yh12, yh13⟩ := Bh11.out.fourteen
  obtain ⟨ys0, ys1, ys2, ys3, ys4, ys5⟩ := Bs11.out.six
  obtain ⟨yt0, yt1, yt2, yt3, yt4, yt5⟩ := Bt11.out.six
  have Ba12 := Blk.up Ba11 (.cells #[.int .i64 0, .bool na, .string si, .string ⟨#[]⟩, .int .i64 0, .bool false] 36)
  have Bp12 := Blk.up Bp11 (.cells #[.int .i64 0, .bool na, .string si, .string ⟨#[]⟩, .int .i64 0, .bool false] 36)
  have Bq12 := Blk.up Bq11 (.cells #[.int .i64 0, .bool na, .string si, .string ⟨#[]⟩, .int .i64 0, .bool false] 36)
  have Bh12 := Blk.up Bh11 (.cells #[.int .i64 0, .bool na, .string si, .string ⟨#[]⟩, .int .i64 0, .bool false] 36)
  have Bs12 := Blk.up Bs11 (.cells #[.int .i64 0, .bool na, .string si, .string ⟨#[]⟩, .int .i64 0, .bool false] 36)
  have Bt12 := Blk.up Bt11 (.cells #[.int .i64 0, .bool na, .string si, .string ⟨#[]⟩, .int .i64 0, .bool false] 36)
  have Bu12 := hide ((Blk.newAt w11 (w11.heap.size) (rfl) #[.int .i64 0, .bool na, .string si, .string ⟨#[]⟩, .int .i64 0, .bool false] 36))
  have HB12 : Hid (Below w.heap.size w (w11.alloc (.cells #[.int .i64 0, .bool na, .string si, .string ⟨#[]⟩, .int .i64 0, .bool false] 36))) := (HB11.out.alloc HB11.out.size _)
  clear Ba11 Bp11 Bq11 Bh11 Bs11 Bt11 HB11 ya0 ya1 ya2 ya3 yp0 yp1 yp2 yp3 yp4 yp5 yp6 yp7 yp8 yp9 yp10 yp11 yp12 yp13 yq0 yq1 yq2 yq3 yq4 yq5 yq6 yq7 yq8 yq9 yq10 yq11 yq12 yq13 yh0 yh1 yh2 yh3 yh4 yh5 yh6 yh7 yh8 yh9 yh10 yh11 yh12 yh13 ys0 ys1 ys2 ys3 ys4 ys5 yt0 yt1 yt2 yt3 yt4 yt5
  obtain ⟨Z, hZ⟩ : ∃ Z, Z = (w11.alloc (.cells #[.int .i64 0, .bool na, .string si, .string ⟨#[]⟩, .int .i64 0, .bool false] 36)) := ⟨_, rfl⟩
  rw [← hZ] at HB12 Ba12 Bp12 Bq12 Bh12 Bs12 Bt12 Bu12
  have HZ := hide hZ
  clear hZ
  obtain ⟨ys0, ys1, ys2, ys3, ys4, ys5⟩ := Bs12.out.six
  obtain ⟨yt0, yt1, yt2, yt3, yt4, yt5⟩ := Bt12.out.six
  obtain ⟨yu0, yu1, yu2, yu3, yu4, yu5⟩ := Bu12.out.six
  go_wp2_with (simp only [← HZ.out])
  go_loopw [15] (fun i wr => ∃ q : Nat, q ≤ sf.size ∧ i = .int .i64 (q : Int) ∧ wr = Z) (fun i _ => sf.size - (intOf i).toNat)
  case atStart => exact ⟨0, Nat.zero_le _, rfl, rfl⟩
  case round =>
    obtain ⟨q, hq, rfl, rfl⟩ := hrel
    by_cases hlt : q < sf.size
    · have hlt' : (q : Int) < (sf.size : Int) := by omega
      have hg := HJ.out q hlt
      clear HJ
      go_wp2
      exact ⟨⟨q + 1, by omega, by go_num, trivial⟩, by simp [intOf]; omega⟩
    · have hlt' : ¬ (q : Int) < (sf.size : Int) := by omega
      clear hlt hq HJ
      go_wp2
      go_ret
      exact ⟨rfl, HB12.out⟩

set_option maxRecDepth 100000 in
set_option maxHeartbeats 4000000 in
theorem more_a2 (na : Bool) (ta : ByteArray) (ea mf xf ms xs : Int) (st : Bool) (cs : Int) (ns : Bool) (ts : ByteArray) (es md : Int) (hd : Bool) (im ix n : Int) (sf : ByteArray) (vc : Int) (vn : Bool) (vi vf : ByteArray) (vx : Int) (vm : Bool) (w : World) (htab : Tab w) (h : MayD 0 na (bys ta) ea) (h2 : MayP ⟨1, mf, xf, ms, xs, st, cs, ns, bys ts, es, md, hd, im, ix⟩) (n1 : 0 ≤ n) (n2 : n ≤ 99 - xf) (x1 : 0 ≤ xf) (x2 : xf ≤ 99) (s1 : ∀ W, Tab W → Calls Tryz.prog 22 #[dcV 0 na ta ea, prV 1 mf xf ms xs st cs ns ts es md false im ix] W fun e w' => e = .returned (.tuple #[.agg #[.int .i64 0, .bool na, .string ⟨#[]⟩, .string sf, .int .i64 0, .bool false], .int .i64 0]) ∧ Below W.heap.size W w') (s2 : ∀ W, Tab W → Calls Tryz.prog 22 #[dcV 0 na ta ea, prV 1 mf (xf + n) ms xs st cs ns ts es md false im ix] W fun e w' => e = .returned (.tuple #[.agg #[.int .i64 vc, .bool vn, .string vi, .string vf, .int .i64 vx, .bool vm], .int .i64 0]) ∧ Below W.heap.size W w') (s3 : ∀ W, Tab W → Calls Tryz.prog 22 #[dcV 0 na ta ea, prV 1 mf xf ms xs st cs ns ts es md true im ix] W fun e w' => e = .returned (.tuple #[.agg #[.int .i64 0, .bool na, .string ⟨#[48]⟩, .string ⟨#[]⟩, .int .i64 0, .bool false], .int .i64 0]) ∧ Below W.heap.size W w') (hl : (sf.size : Int) ≤ (vf.size : Int)) (hz : sf.size ≤ 4096) (hJ : ∀ q, q < sf.size → ∀ h : q < sf.size, sf[q].toNat = 48) : Calls Tryz.prog 12 #[dcV 0 na ta ea, prV 1 mf xf ms xs st cs ns ts es md hd im ix, .int .i64 n] w fun e w' => e = .returned (.bool true) ∧ Below w.heap.size w w' := by
  have C0 := hide (fun W => rmay_yes 0 na ta ea W h)
  have C1 := hide (fun W (hW : Tab W) => check_tP 1 mf xf ms xs st cs ns ts es md hd im ix W hW h2)
  have H1 := hide s1
  have H2 := hide s2
  have H3 := hide s3
  have HT := hide htab
  have n3 : ¬ 99 - xf < n := by omega
  have n4 : decide (99 - xf < n) = false := decide_eq_false n3
  have n5 : ¬ n < 0 := by omega
  clear htab h h2 s1 s2 s3
  have l1 : ¬ (vf.size : Int) < (sf.size : Int) := by omega
  have l2 : decide ((vf.size : Int) < (sf.size : Int)) = false := decide_eq_false l1
  clear hl
  have HJ := hide hJ
  clear hJ
  have Ba0 := hide ((Blk.newAt w (w.heap.size) (rfl) #[.int .i64 0, .bool na, .string ta, .int .i64 ea] 23).alloc (.cells #[.int .i64 1, .int .i64 mf, .int .i64 xf, .int .i64 ms, .int .i64 xs, .bool st, .int .i64 cs, .bool ns, .string ts, .int .i64 es, .int .i64 md, .bool hd, .int .i64 im, .int .i64 ix] 32))
  have Bp0 := hide (Blk.newAt (w.alloc (.cells #[.int .i64 0, .bool na, .string ta, .int .i64 ea] 23)) (w.heap.size + 1) (by simp) #[.int .i64 1, .int .i64 mf, .int .i64 xf, .int .i64 ms, .int .i64 xs, .bool st, .int .i64 cs, .bool ns, .string ts, .int .i64 es, .int .i64 md, .bool hd, .int .i64 im, .int .i64 ix] 32)
  have HB0 : Hid (Below w.heap.size w ((w.alloc (.cells #[.int .i64 0, .bool na, .string ta, .int .i64 ea] 23)).alloc (.cells #[.int .i64 1, .int .i64 mf, .int .i64 xf, .int .i64 ms, .int .i64 xs, .bool st, .int .i64 cs, .bool ns, .string ts, .int .i64 es, .int .i64 md, .bool hd, .int .i64 im, .int .i64 ix] 32))) := (((Below.refl _ _).alloc (Nat.le_refl _) _).alloc (by simp <;> omega) _)
  go_enter Tryz.func12, Tryz.ntmps12
  go_wp2_with fail
  refine (xawake_any _ (HT.out.below HB0.out)).mono ?_
  rintro e w1 ⟨rfl, hb⟩
  have Ba1 := Blk.on Ba0 hb
  have Bp1 := Blk.on Bp0 hb
  have HB1 := hide (HB0.out.trans (hb.mono HB0.out.size))
  clear hb Ba0 Bp0 HB0 
  obtain ⟨ya0, ya1, ya2, ya3⟩ := Ba1.out.four
  obtain ⟨yp0, yp1, yp2, yp3, yp4, yp5, yp6, yp7, yp8, yp9, yp10, yp11, yp12, yp13⟩ := Bp1.out.fourteen
  go_wp2_with fail
  refine (C0.out _).mono ?_
  rintro e w2 ⟨rfl, hb⟩
  have Ba2 := Blk.on Ba1 hb
  have Bp2 := Blk.on Bp1 hb
  have HB2 := hide (HB1.out.trans (hb.mono HB1.out.size))
  clear hb Ba1 Bp1 HB1 ya0 ya1 ya2 ya3 yp0 yp1 yp2 yp3 yp4 yp5 yp6 yp7 yp8 yp9 yp10 yp11 yp12 yp13
  obtain ⟨ya0, ya1, ya2, ya3⟩ := Ba2.out.four
  obtain ⟨yp0, yp1, yp2, yp3, yp4, yp5, yp6, yp7, yp8, yp9, yp10, yp11, yp12, yp13⟩ := Bp2.out.fourteen
  go_wp2_with fail
  refine (C1.out _ (HT.out.below HB2.out)).mono ?_
  rintro e w3 ⟨rfl, hb⟩
  have Ba3 := Blk.on Ba2 hb
  have Bp3 := Blk.on Bp2 hb
  have HB3 := hide (HB2.out.trans (hb.mono HB2.out.size))
  clear hb Ba2 Bp2 HB2 ya0 ya1 ya2 ya3 yp0 yp1 yp2 yp3 yp4 yp5 yp6 yp7 yp8 yp9 yp10 yp11 yp12 yp13
  obtain ⟨ya0, ya1, ya2, ya3⟩ := Ba3.out.four
  obtain ⟨yp0, yp1, yp2, yp3, yp4, yp5, yp6, yp7, yp8, yp9, yp10, yp11, yp12, yp13⟩ := Bp3.out.fourteen
  have fp11 := Bp3.out.free 11
  have Bp4 := hide (Bp3.out.fset11 (.bool false))
  have Ba4 := hide (Ba3.out.other (a := ⟨w.heap.size + 1, 11, none⟩) (by simp) (.bool false))
  have HB4 : Hid (Below w.heap.size w (w3.setCell ⟨w.heap.size + 1, 11, none⟩ (.bool false))) := HB3.out.setCell (Nat.le_succ _) _
  clear Bp3 Ba3 HB3
  obtain ⟨ya0, ya1, ya2, ya3⟩ := Ba4.out.four
  obtain ⟨yp0, yp1, yp2, yp3, yp4, yp5, yp6, yp7, yp8, yp9, yp10, yp11, yp12, yp13⟩ := Bp4.out.fourteen
  have Ba5 := Blk.up Ba4 (.cells #[.int .i64 1, .int .i64 mf, .int .i64 (xf + n), .int .i64 ms, .int .i64 xs, .bool st, .int .i64 cs, .bool ns, .string ts, .int .i64 es, .int .i64 md, .bool false, .int .i64 im, .int .i64 ix] 32)
  have Bp5 := Blk.up Bp4 (.cells #[.int .i64 1, .int .i64 mf, .int .i64 (xf + n), .int .i64 ms, .int .i64 xs, .bool st, .int .i64 cs, .bool ns, .string ts, .int .i64 es, .int .i64 md, .bool false, .int .i64 im, .int .i64 ix] 32)
  have Bq5 := hide ((Blk.newAt (w3.setCell ⟨w.heap.size + 1, 11, none⟩ (.bool false)) (w3.heap.size) (by simp) #[.int .i64 1, .int .i64 mf, .int .i64 (xf + n), .int .i64 ms, .int .i64 xs, .bool st, .int .i64 cs, .bool ns, .string ts, .int .i64 es, .int .i64 md, .bool false, .int .i64 im, .int .i64 ix] 32))
  have HB5 : Hid (Below w.heap.size w ((w3.setCell ⟨w.heap.size + 1, 11, none⟩ (.bool false)).alloc (.cells #[.int .i64 1, .int .i64 mf, .int .i64 (xf + n), .int .i64 ms, .int .i64 xs, .bool st, .int .i64 cs, .bool ns, .string ts, .int .i64 es, .int .i64 md, .bool false, .int .i64 im, .int .i64 ix] 32))) := (HB4.out.alloc HB4.out.size _)
  clear Ba4 Bp4 HB4 
  obtain ⟨ya0, ya1, ya2, ya3⟩ := Ba5.out.four
  obtain ⟨yp0, yp1, yp2, yp3, yp4, yp5, yp6, yp7, yp8, yp9, yp10, yp11, yp12, yp13⟩ := Bp5.out.fourteen
  obtain ⟨yq0, yq1, yq2, yq3, yq4, yq5, yq6, yq7, yq8, yq9, yq10, yq11, yq12, yq13⟩ := Bq5.out.fourteen
  have Ba6 := Blk.up Ba5 (.cells #[.int .i64 1, .int .i64 mf, .int .i64 xf, .int .i64 ms, .int .i64 xs, .bool st, .int .i64 cs, .bool ns, .string ts, .int .i64 es, .int .i64 md, .bool true, .int .i64 im, .int .i64 ix] 32)
  have Bp6 := Blk.up Bp5 (.cells #[.int .i64 1, .int .i64 mf, .int .i64 xf, .int .i64 ms, .int .i64 xs, .bool st, .int .i64 cs, .bool ns, .string ts, .int .i64 es, .int .i64 md, .bool true, .int .i64 im, .int .i64 ix] 32)
  have Bq6 := Blk.up Bq5 (.cells #[.int .i64 1, .int .i64 mf, .int .i64 xf, .int .i64 ms, .int .i64 xs, .bool st, .int .i64 cs, .bool ns, .string ts, .int .i64 es, .int .i64 md, .bool true, .int .i64 im, .int .i64 ix] 32)
  have Bh6 := hide ((Blk.newAt ((w3.setCell ⟨w.heap.size + 1, 11, none⟩ (.bool false)).alloc (.cells #[.int .i64 1, .int .i64 mf, .int .i64 (xf + n), .int .i64 ms, .int .i64 xs, .bool st, .int .i64 cs, .bool ns, .string ts, .int .i64 es, .int .i64 md, .bool false, .int .i64 im, .int .i64 ix] 32)) (w3.heap.size + 1) (by simp) #[.int .i64 1, .int .i64 mf, .int .i64 xf, .int .i64 ms, .int .i64 xs, .bool st, .int .i64 cs, .bool ns, .string ts, .int .i64 es, .int .i64 md, .bool true, .int .i64 im, .int .i64 ix] 32))
  have HB6 : Hid (Below w.heap.size w (((w3.setCell ⟨w.heap.size + 1, 11, none⟩ (.bool false)).alloc (.cells #[.int .i64 1, .int .i64 mf, .int .i64 (xf + n), .int .i64 ms, .int .i64 xs, .bool st, .int .i64 cs, .bool ns, .string ts, .int .i64 es, .int .i64 md, .bool false, .int .i64 im, .int .i64 ix] 32)).alloc (.cells #[.int .i64 1, .int .i64 mf, .int .i64 xf, .int .i64 ms, .int .i64 xs, .bool st, .int .i64 cs, .bool ns, .string ts, .int .i64 es, .int .i64 md, .bool true, .int .i64 im, .int .i64 ix] 32))) := (HB5.out.alloc HB5.out.size _)
  clear Ba5 Bp5 Bq5 HB5 
  obtain ⟨ya0, ya1, ya2, ya3⟩ := Ba6.out.four
  obtain ⟨yp0, yp1, yp2, yp3, yp4, yp5, yp6, yp7, yp8, yp9, yp10, yp11, yp12, yp13⟩ := Bp6.out.fourteen
  obtain ⟨yq0, yq1, yq2, yq3, yq4, yq5, yq6, yq7, yq8, yq9, yq10, yq11, yq12, yq13⟩ := Bq6.out.fourteen
  obtain ⟨yh0, yh1, yh2, yh3, yh4, yh5, yh6, yh7, yh8, yh9, yh10, yh11, yh12, yh13⟩ := Bh6.out.fourteen
  go_wp2_with fail
  refine (H1.out _ (HT.out.below HB6.out)).mono ?_
  rintro e w7 ⟨rfl, hb⟩
  have Ba7 := Blk.on Ba6 hb
  have Bp7 := Blk.on Bp6 hb
  have Bq7 := Blk.on Bq6 hb
  have Bh7 := Blk.on Bh6 hb
  have HB7 := hide (HB6.out.trans (hb.mono HB6.out.size))
  clear hb Ba6 Bp6 Bq6 Bh6 HB6 ya0 ya1 ya2 ya3 yp0 yp1 yp2 yp3 yp4 yp5 yp6 yp7 yp8 yp9 yp10 yp11 yp12 yp13 yq0 yq1 yq2 yq3 yq4 yq5 yq6 yq7 yq8 yq9 yq10 yq11 yq12 yq13 yh0 yh1 yh2 yh3 yh4 yh5 yh6 yh7 yh8 yh9 yh10 yh11 yh12 yh13
  obtain ⟨ya0, ya1, ya2, ya3⟩ := Ba7.out.four
  obtain ⟨yp0, yp1, yp2, yp3, yp4, yp5, yp6, yp7, yp8, yp9, yp10, yp11, yp12, yp13⟩ := Bp7.out.fourteen
  obtain ⟨yq0, yq1, yq2, yq3, yq4, yq5, yq6, yq7, yq8, yq9, yq10, yq11, yq12, yq13⟩ := Bq7.out.fourteen
  obtain ⟨yh0, yh1, yh2, yh3, yh4, yh5, yh6, yh7, yh8, yh9, yh10, yh11, yh12, yh13⟩ := Bh7.out.fourteen
  have Ba8 := Blk.up Ba7 (.cells #[.int .i64 0, .bool na, .string ⟨#[]⟩, .string sf, .int .i64 0, .bool false] 36)
  have Bp8 := Blk.up Bp7 (.cells #[.int .i64 0, .bool na, .string ⟨#[]⟩, .string sf, .int .i64 0, .bool false] 36)
  have Bq8 := Blk.up Bq7 (.cells #[.int .i64 0, .bool na, .string ⟨#[]⟩, .string sf, .int .i64 0, .bool false] 36)
  have Bh8 := Blk.up Bh7 (.cells #[.int .i64 0, .bool na, .string ⟨#[]⟩, .string sf, .int .i64 0, .bool false] 36)
  have Bs8 := hide ((Blk.newAt w7 (w7.heap.size) (rfl) #[.int .i64 0, .bool na, .string ⟨#[]⟩, .string sf, .int .i64 0, .bool false] 36))
  have HB8 : Hid (Below w.heap.size w (w7.alloc (.cells #[.int .i64 0, .bool na, .string ⟨#[]⟩, .string sf, .int .i64 0, .bool false] 36))) := (HB7.out.alloc HB7.out.size _)
  clear Ba7 Bp7 Bq7 Bh7 HB7 ya0 ya1 ya2 ya3 yp0 yp1 yp2 yp3 yp4 yp5 yp6 yp7 yp8 yp9 yp10 yp11 yp12 yp13 yq0 yq1 yq2 yq3 yq4 yq5 yq6 yq7 yq8 yq9 yq10 yq11 yq12 yq13 yh0 yh1 yh2 yh3 yh4 yh5 yh6 yh7 yh8 yh9 yh10 yh11 yh12 yh13
  obtain ⟨ya0, ya1, ya2, ya3⟩ := Ba8.out.four
  obtain ⟨yp0, yp1, yp2, yp3, yp4, yp5, yp6, yp7, yp8, yp9, yp10, yp11, yp12, yp13⟩ := Bp8.out.fourteen
  obtain ⟨yq0, yq1, yq2, yq3, yq4, yq5, yq6, yq7, yq8, yq9, yq10, yq11, yq12, yq13⟩ := Bq8.out.fourteen
  obtain ⟨yh0, yh1, yh2, yh3, yh4, yh5, yh6, yh7, yh8, yh9, yh10, yh11, yh12, yh13⟩ := Bh8.out.fourteen
  obtain ⟨ys0, ys1, ys2, ys3, ys4, ys5⟩ := Bs8.out.six
  go_wp2_with fail
  refine (H2.out _ (HT.out.below HB8.out)).mono ?_
  rintro e w9 ⟨rfl, hb⟩
  have Ba9 := Blk.on Ba8 hb
  have Bp9 := Blk.on Bp8 hb
  have Bq9 := Blk.on Bq8 hb
  have Bh9 := Blk.on Bh8 hb
  have Bs9 := Blk.on Bs8 hb
  have HB9 := hide (HB8.out.trans (hb.mono HB8.out.size))
  clear hb Ba8 Bp8 Bq8 Bh8 Bs8 HB8 ya0 ya1 ya2 ya3 yp0 yp1 yp2 yp3 yp4 yp5 yp6 yp7 yp8 yp9 yp10 yp11 yp12 yp13 yq0 yq1 yq2 yq3 yq4 yq5 yq6 yq7 yq8 yq9 yq10 yq11 yq12 yq13 yh0 yh1 yh2 yh3 yh4 yh5 yh6 yh7 yh8 yh9 yh10 yh11 yh12 yh13 ys0 ys1 ys2 ys3 ys4 ys5
  obtain ⟨ya0, ya1, ya2, ya3⟩ := Ba9.out.four
  obtain ⟨yp0, yp1, yp2, yp3, yp4, yp5, yp6, yp7, yp8, yp9, yp10, yp11, yp12, yp13⟩ := Bp9.out.fourteen
  obtain ⟨yq0, yq1, yq2, yq3, yq4, yq5, yq6, yq7, yq8, yq9, yq10, yq11, yq12, yq13⟩ := Bq9.out.fourteen
  obtain ⟨yh0, yh1, yh2, yh3, yh4, yh5, yh6, yh7, yh8, yh9, yh10, yh11, yh12, yh13⟩ := Bh9.out.fourteen
  obtain ⟨ys0, ys1, ys2, ys3, ys4, ys5⟩ := Bs9.out.six
  have Ba10 := Blk.up Ba9 (.cells #[.int .i64 vc, .bool vn, .string vi, .string vf, .int .i64 vx, .bool vm] 36)
  have Bp10 := Blk.up Bp9 (.cells #[.int .i64 vc, .bool vn, .string vi, .string vf, .int .i64 vx, .bool vm] 36)
  have Bq10 := Blk.up Bq9 (.cells #[.int .i64 vc, .bool vn, .string vi, .string vf, .int .i64 vx, .bool vm] 36)
  have Bh10 := Blk.up Bh9 (.cells #[.int .i64 vc, .bool vn, .string vi, .string vf, .int .i64 vx, .bool vm] 36)
  have Bs10 := Blk.up Bs9 (.cells #[.int .i64 vc, .bool vn, .string vi, .string vf, .int .i64 vx, .bool vm] 36)
  have Bt10 := hide ((Blk.newAt w9 (w9.heap.size) (rfl) #[.int .i64 vc, .bool vn, .string vi, .string vf, .int .i64 vx, .bool vm] 36))
  have HB10 : Hid (Below w.heap.size w (w9.alloc (.cells #[.int .i64 vc, .bool vn, .string vi, .string vf, .int .i64 vx, .bool vm] 36))) := (HB9.out.alloc HB9.out.size _)
  clear Ba9 Bp9 Bq9 Bh9 Bs9 HB9 ya0 ya1 ya2 ya3 yp0 yp1 yp2 yp3 yp4 yp5 yp6 yp7 yp8 yp9 yp10 yp11 yp12 yp13 yq0 yq1 yq2 yq3 yq4 yq5 yq6 yq7 yq8 yq9 yq10 yq11 yq12 yq13 yh0 yh1 yh2 yh3 yh4 yh5 yh6 yh7 yh8 yh9 yh10 yh11 yh12 yh13 ys0 ys1 ys2 ys3 ys4 ys5
  obtain ⟨ya0, ya1, ya2, ya3⟩ := Ba10.out.four
  obtain ⟨yp0, yp1, yp2, yp3, yp4, yp5, yp6, yp7, yp8, yp9, yp10, yp11, yp12, yp13⟩ := Bp10.out.fourteen
  obtain ⟨yq0, yq1, yq2, yq3, yq4, yq5, yq6, yq7, yq8, yq9, yq10, yq11, yq12, yq13⟩ := Bq10.out.fourteen
  obtain ⟨yh0, yh1, yh2, yh3, yh4, yh5, yh6, yh7, yh8, yh9, yh10, yh11, yh12, yh13⟩ := Bh10.out.fourteen
  obtain ⟨ys0, ys1, ys2, ys3, ys4, ys5⟩ := Bs10.out.six
  obtain ⟨yt0, yt1, yt2, yt3, yt4, yt5⟩ := Bt10.out.six
  go_wp2_with fail
  refine (H3.out _ (HT.out.below HB10.out)).mono ?_
  rintro e w11 ⟨rfl, hb⟩
  have Ba11 := Blk.on Ba10 hb
  have Bp11 := Blk.on Bp10 hb
  have Bq11 := Blk.on Bq10 hb
  have Bh11 := Blk.on Bh10 hb
  have Bs11 := Blk.on Bs10 hb
  have Bt11 := Blk.on Bt10 hb
  have HB11 := hide (HB10.out.trans (hb.mono HB10.out.size))
  clear hb Ba10 Bp10 Bq10 Bh10 Bs10 Bt10 HB10 ya0 ya1 ya2 ya3 yp0 yp1 yp2 yp3 yp4 yp5 yp6 yp7 yp8 yp9 yp10 yp11 yp12 yp13 yq0 yq1 yq2 yq3 yq4 yq5 yq6 yq7 yq8 yq9 yq10 yq11 yq12 yq13 yh0 yh1 yh2 yh3 yh4 yh5 yh6 yh7 yh8 yh9 yh10 yh11 yh12 yh13 ys0 ys1 ys2 ys3 ys4 ys5 yt0 yt1 yt2 yt3 yt4 yt5
  obtain ⟨ya0, ya1, ya2, ya3⟩ := Ba11.out.four
  obtain ⟨yp0, yp1, yp2, yp3, yp4, yp5, yp6, yp7, yp8, yp9, yp10, yp11, yp12, yp13⟩ := Bp11.out.fourteen
  obtain ⟨yq0, yq1, yq2, yq3, yq4, yq5, yq6, yq7, yq8, yq9, yq10, yq11, yq12, yq13⟩ := Bq11.out.fourteen
  obtain ⟨yh0, yh1, yh2, yh3, yh4, yh5, yh6, yh7, yh8, yh9, yh10, yh11, yh12, yh13⟩ := Bh11.out.fourteen
  obtain ⟨ys0, ys1, ys2, ys3, ys4, ys5⟩ := Bs11.out.six
  obtain ⟨yt0, yt1, yt2, yt3, yt4, yt5⟩ := Bt11.out.six
  have Ba12 := Blk.up Ba11 (.cells #[.int .i64 0, .bool na, .string ⟨#[48]⟩, .string ⟨#[]⟩, .int .i64 0, .bool false] 36)
  have Bp12 := Blk.up Bp11 (.cells #[.int .i64 0, .bool na, .string ⟨#[48]⟩, .string ⟨#[]⟩, .int .i64 0, .bool false] 36)
  have Bq12 := Blk.up Bq11 (.cells #[.int .i64 0, .bool na, .string ⟨#[48]⟩, .string ⟨#[]⟩, .int .i64 0, .bool false] 36)
  have Bh12 := Blk.up Bh11 (.cells #[.int .i64 0, .bool na, .string ⟨#[48]⟩, .string ⟨#[]⟩, .int .i64 0, .bool false] 36)
  have Bs12 := Blk.up Bs11 (.cells #[.int .i64 0, .bool na, .string ⟨#[48]⟩, .string ⟨#[]⟩, .int .i64 0, .bool false] 36)
  have Bt12 := Blk.up Bt11 (.cells #[.int .i64 0, .bool na, .string ⟨#[48]⟩, .string ⟨#[]⟩, .int .i64 0, .bool false] 36)
  have Bu12 := hide ((Blk.newAt w11 (w11.heap.size) (rfl) #[.int .i64 0, .bool na, .string ⟨#[48]⟩, .string ⟨#[]⟩, .int .i64 0, .bool false] 36))
  have HB12 : Hid (Below w.heap.size w (w11.alloc (.cells #[.int .i64 0, .bool na, .string ⟨#[48]⟩, .string ⟨#[]⟩, .int .i64 0, .bool false] 36))) := (HB11.out.alloc HB11.out.size _)
  clear Ba11 Bp11 Bq11 Bh11 Bs11 Bt11 HB11 ya0 ya1 ya2 ya3 yp0 yp1 yp2 yp3 yp4 yp5 yp6 yp7 yp8 yp9 yp10 yp11 yp12 yp13 yq0 yq1 yq2 yq3 yq4 yq5 yq6 yq7 yq8 yq9 yq10 yq11 yq12 yq13 yh0 yh1 yh2 yh3 yh4 yh5 yh6 yh7 yh8 yh9 yh10 yh11 yh12 yh13 ys0 ys1 ys2 ys3 ys4 ys5 yt0 yt1 yt2 yt3 yt4 yt5
  obtain ⟨Z, hZ⟩ : ∃ Z, Z = (w11.alloc (.cells #[.int .i64 0, .bool na, .string ⟨#[48]⟩, .string ⟨#[]⟩, .int .i64 0, .bool false] 36)) := ⟨_, rfl⟩
  rw [← hZ] at HB12 Ba12 Bp12 Bq12 Bh12 Bs12 Bt12 Bu12
  have HZ := hide hZ
  clear hZ
  obtain ⟨ys0, ys1, ys2, ys3, ys4, ys5⟩ := Bs12.out.six
  obtain ⟨yt0, yt1, yt2, yt3, yt4, yt5⟩ := Bt12.out.six
  obtain ⟨yu0, yu1, yu2, yu3, yu4, yu5⟩ := Bu12.out.six
  go_wp2_with (simp only [← HZ.out])
  go_loopw [15] (fun i wr => ∃ q : Nat, q ≤ sf.size ∧ i = .int .i64 (q : Int) ∧ wr = Z) (fun i _ => sf.size - (intOf i).toNat)
  case atStart => exact ⟨0, Nat.zero_le _, rfl, rfl⟩
  case round =>
    obtain ⟨q, hq, rfl, rfl⟩ := hrel
    by_cases hlt : q < sf.size
    · have hlt' : (q : Int) < (sf.size : Int) := by omega
      have hg := HJ.out q hlt
      clear HJ
      go_wp2
      exact ⟨⟨q + 1, by omega, by go_num, trivial⟩, by simp [intOf]; omega⟩
    · have hlt' : ¬ (q : Int) < (sf.size : Int) := by omega
      clear hlt hq HJ
      go_wp2
      go_ret
      exact ⟨rfl, HB12.out⟩

end Go.Proofs.YtckijnlolmbdiaaGreatDoor

namespace Go.Proofs.YtckijnlolmbdiaaGreatDoor
open Go.RowKit

set_option maxRecDepth 100000 in
set_option maxHeartbeats 4000000 in
theorem more_b (na : Bool) (ta : ByteArray) (ea mf xf ms xs : Int) (st : Bool) (cs : Int) (ns : Bool) (ts : ByteArray) (es md : Int) (hd : Bool) (im ix n sc : Int) (sn : Bool) (si sf : ByteArray) (sx : Int) (sm : Bool) (vc : Int) (vn : Bool) (vi vf : ByteArray) (vx : Int) (vm : Bool) (j b : Nat) (w : World) (htab : Tab w) (h : MayD 0 na (bys ta) ea) (h2 : MayP ⟨1, mf, xf, ms, xs, st, cs, ns, bys ts, es, md, hd, im, ix⟩) (n1 : 0 ≤ n) (n2 : n ≤ 99 - xf) (x1 : 0 ≤ xf) (x2 : xf ≤ 99) (s1 : ∀ W, Tab W → Calls Tryz.prog 22 #[dcV 0 na ta ea, prV 1 mf xf ms xs st cs ns ts es md false im ix] W fun e w' => e = .returned (.tuple #[.agg #[.int .i64 sc, .bool sn, .string si, .string sf, .int .i64 sx, .bool sm], .int .i64 0]) ∧ Below W.heap.size W w') (s2 : ∀ W, Tab W → Calls Tryz.prog 22 #[dcV 0 na ta ea, prV 1 mf (xf + n) ms xs st cs ns ts es md false im ix] W fun e w' => e = .returned (.tuple #[.agg #[.int .i64 vc, .bool vn, .string vi, .string vf, .int .i64 vx, .bool vm], .int .i64 0]) ∧ Below W.heap.size W w') (s3 : ∀ W, Tab W → Calls Tryz.prog 22 #[dcV 0 na ta ea, prV 1 mf xf ms xs st cs ns ts es md true im ix] W fun e w' => e = .returned (.tuple #[.agg #[.int .i64 sc, .bool sn, .string si, .string sf, .int .i64 sx, .bool sm], .int .i64 0]) ∧ Below W.heap.size W w') (hl : (sf.size : Int) ≤ (vf.size : Int)) (hz : sf.size ≤ 4096) (hj : j < sf.size) (hJ : ∀ q, q < j → ∀ h : q < sf.size, sf[q].toNat = 48) (hB : ∀ h : j < sf.size, sf[j].toNat = b) (hb : ¬ b = 48) : Calls Tryz.prog 12 #[dcV 0 na ta ea, prV 1 mf xf ms xs st cs ns ts es md hd im ix, .int .i64 n] w fun e w' => e = .returned (.bool true) ∧ Below w.heap.size w w' := by
  have C0 := hide (fun W => rmay_yes 0 na ta ea W h)
  have C1 := hide (fun W (hW : Tab W) => check_tP 1 mf xf ms xs st cs ns ts es md hd im ix W hW h2)
  have H1 := hide s1
  have H2 := hide s2
  have H3 := hide s3
  have HT := hide htab
  have n3 : ¬ 99 - xf < n := by omega
  have n4 : decide (99 - xf < n) = false := decide_eq_false n3
  have n5 : ¬ n < 0 := by omega
  clear htab h h2 s1 s2 s3
  have l1 : ¬ (vf.size : Int) < (sf.size : Int) := by omega
  have l2 : decide ((vf.size : Int) < (sf.size : Int)) = false := decide_eq_false l1
  clear hl
  have HJ := hide hJ
  have HB := hide hB
  have hb1 : ((b : Int) == 48) = false := by simp; omega
  have hb2 : ¬ (b : Int) = 48 := by omega
  clear hJ hB hb
  have Ba0 := hide ((Blk.newAt w (w.heap.size) (rfl) #[.int .i64 0, .bool na, .string ta, .int .i64 ea] 23).alloc (.cells #[.int .i64 1, .int .i64 mf, .int .i64 xf, .int .i64 ms, .int .i64 xs, .bool st, .int .i64 cs, .bool ns, .string ts, .int .i64 es, .int .i64 md, .bool hd, .int .i64 im, .int .i64 ix] 32))
  have Bp0 := hide (Blk.newAt (w.alloc (.cells #[.int .i64 0, .bool na, .string ta, .int .i64 ea] 23)) (w.heap.size + 1) (by simp) #[.int .i64 1, .int .i64 mf, .int .i64 xf, .int .i64 ms, .int .i64 xs, .bool st, .int .i64 cs, .bool ns, .string ts, .int .i64 es, .int .i64 md, .bool hd, .int .i64 im, .int .i64 ix] 32)
  have HB0 : Hid (Below w.heap.size w ((w.alloc (.cells #[.int .i64 0, .bool na, .string ta, .int .i64 ea] 23)).alloc (.cells #[.int .i64 1, .int .i64 mf, .int .i64 xf, .int .i64 ms, .int .i64 xs, .bool st, .int .i64 cs, .bool ns, .string ts, .int .i64 es, .int .i64 md, .bool hd, .int .i64 im, .int .i64 ix] 32))) := (((Below.refl _ _).alloc (Nat.le_refl _) _).alloc (by simp <;> omega) _)
  go_enter Tryz.func12, Tryz.ntmps12
  go_wp2_with fail
  refine (xawake_any _ (HT.out.below HB0.out)).mono ?_
  rintro e w1 ⟨rfl, hb⟩
  have Ba1 := Blk.on Ba0 hb
  have Bp1 := Blk.on Bp0 hb
  have HB1 := hide (HB0.out.trans (hb.mono HB0.out.size))
  clear hb Ba0 Bp0 HB0 
  obtain ⟨ya0, ya1, ya2, ya3⟩ := Ba1.out.four
  obtain ⟨yp0, yp1, yp2, yp3, yp4, yp5, yp6, yp7, yp8, yp9, yp10, yp11, yp12, yp13⟩ := Bp1.out.fourteen
  go_wp2_with fail
  refine (C0.out _).mono ?_
  rintro e w2 ⟨rfl, hb⟩
  have Ba2 := Blk.on Ba1 hb
  have Bp2 := Blk.on Bp1 hb
  have HB2 := hide (HB1.out.trans (hb.mono HB1.out.size))
  clear hb Ba1 Bp1 HB1 ya0 ya1 ya2 ya3 yp0 yp1 yp2 yp3 yp4 yp5 yp6 yp7 yp8 yp9 yp10 yp11 yp12 yp13
  obtain ⟨ya0, ya1, ya2, ya3⟩ := Ba2.out.four
  obtain ⟨yp0, yp1, yp2, yp3, yp4, yp5, yp6, yp7, yp8, yp9, yp10, yp11, yp12, yp13⟩ := Bp2.out.fourteen
  go_wp2_with fail
  refine (C1.out _ (HT.out.below HB2.out)).mono ?_
  rintro e w3 ⟨rfl, hb⟩
  have Ba3 := Blk.on Ba2 hb
  have Bp3 := Blk.on Bp2 hb
  have HB3 := hide (HB2.out.trans (hb.mono HB2.out.size))
  clear hb Ba2 Bp2 HB2 ya0 ya1 ya2 ya3 yp0 yp1 yp2 yp3 yp4 yp5 yp6 yp7 yp8 yp9 yp10 yp11 yp12 yp13
  obtain ⟨ya0, ya1, ya2, ya3⟩ := Ba3.out.four
  obtain ⟨yp0, yp1, yp2, yp3, yp4, yp5, yp6, yp7, yp8, yp9, yp10, yp11, yp12, yp13⟩ := Bp3.out.fourteen
  have fp11 := Bp3.out.free 11
  have Bp4 := hide (Bp3.out.fset11 (.bool false))
  have Ba4 := hide (Ba3.out.other (a := ⟨w.heap.size + 1, 11, none⟩) (by simp) (.bool false))
  have HB4 : Hid (Below w.heap.size w (w3.setCell ⟨w.heap.size + 1, 11, none⟩ (.bool false))) := HB3.out.setCell (Nat.le_succ _) _
  clear Bp3 Ba3 HB3
  obtain ⟨ya0, ya1, ya2, ya3⟩ := Ba4.out.four
  obtain ⟨yp0, yp1, yp2, yp3, yp4, yp5, yp6, yp7, yp8, yp9, yp10, yp11, yp12, yp13⟩ := Bp4.out.fourteen
  have Ba5 := Blk.up Ba4 (.cells #[.int .i64 1, .int .i64 mf, .int .i64 (xf + n), .int .i64 ms, .int .i64 xs, .bool st, .int .i64 cs, .bool ns, .string ts, .int .i64 es, .int .i64 md, .bool false, .int .i64 im, .int .i64 ix] 32)
  have Bp5 := Blk.up Bp4 (.cells #[.int .i64 1, .int .i64 mf, .int .i64 (xf + n), .int .i64 ms, .int .i64 xs, .bool st, .int .i64 cs, .bool ns, .string ts, .int .i64 es, .int .i64 md, .bool false, .int .i64 im, .int .i64 ix] 32)
  have Bq5 := hide ((Blk.newAt (w3.setCell ⟨w.heap.size + 1, 11, none⟩ (.bool false)) (w3.heap.size) (by simp) #[.int .i64 1, .int .i64 mf, .int .i64 (xf + n), .int .i64 ms, .int .i64 xs, .bool st, .int .i64 cs, .bool ns, .string ts, .int .i64 es, .int .i64 md, .bool false, .int .i64 im, .int .i64 ix] 32))
  have HB5 : Hid (Below w.heap.size w ((w3.setCell ⟨w.heap.size + 1, 11, none⟩ (.bool false)).alloc (.cells #[.int .i64 1, .int .i64 mf, .int .i64 (xf + n), .int .i64 ms, .int .i64 xs, .bool st, .int .i64 cs, .bool ns, .string ts, .int .i64 es, .int .i64 md, .bool false, .int .i64 im, .int .i64 ix] 32))) := (HB4.out.alloc HB4.out.size _)
  clear Ba4 Bp4 HB4 
  obtain ⟨ya0, ya1, ya2, ya3⟩ := Ba5.out.four
  obtain ⟨yp0, yp1, yp2, yp3, yp4, yp5, yp6, yp7, yp8, yp9, yp10, yp11, yp12, yp13⟩ := Bp5.out.fourteen
  obtain ⟨yq0, yq1, yq2, yq3, yq4, yq5, yq6, yq7, yq8, yq9, yq10, yq11, yq12, yq13⟩ := Bq5.out.fourteen
  have Ba6 := Blk.up Ba5 (.cells #[.int .i64 1, .int .i64 mf, .int .i64 xf, .int .i64 ms, .int .i64 xs, .bool st, .int .i64 cs, .bool ns, .string ts, .int .i64 es, .int .i64 md, .bool true, .int .i64 im, .int .i64 ix] 32)
  have Bp6 := Blk.up Bp5 (.cells #[.int .i64 1, .int .i64 mf, .int .i64 xf, .int .i64 ms, .int .i64 xs, .bool st, .int .i64 cs, .bool ns, .string ts, .int .i64 es, .int .i64 md, .bool true, .int .i64 im, .int .i64 ix] 32)
  have Bq6 := Blk.up Bq5 (.cells #[.int .i64 1, .int .i64 mf, .int .i64 xf, .int .i64 ms, .int .i64 xs, .bool st, .int .i64 cs, .bool ns, .string ts, .int .i64 es, .int .i64 md, .bool true, .int .i64 im, .int .i64 ix] 32)
  have Bh6 := hide ((Blk.newAt ((w3.setCell ⟨w.heap.size + 1, 11, none⟩ (.bool false)).alloc (.cells #[.int .i64 1, .int .i64 mf, .int .i64 (xf + n), .int .i64 ms, .int .i64 xs, .bool st, .int .i64 cs, .bool ns, .string ts, .int .i64 es, .int .i64 md, .bool false, .int .i64 im, .int .i64 ix] 32)) (w3.heap.size + 1) (by simp) #[.int .i64 1, .int .i64 mf, .int .i64 xf, .int .i64 ms, .int .i64 xs, .bool st, .int .i64 cs, .bool ns, .string ts, .int .i64 es, .int .i64 md, .bool true, .int .i64 im, .int .i64 ix] 32))
  have HB6 : Hid (Below w.heap.size w (((w3.setCell ⟨w.heap.size + 1, 11, none⟩ (.bool false)).alloc (.cells #[.int .i64 1, .int .i64 mf, .int .i64 (xf + n), .int .i64 ms, .int .i64 xs, .bool st, .int .i64 cs, .bool ns, .string ts, .int .i64 es, .int .i64 md, .bool false, .int .i64 im, .int .i64 ix] 32)).alloc (.cells #[.int .i64 1, .int .i64 mf, .int .i64 xf, .int .i64 ms, .int .i64 xs, .bool st, .int .i64 cs, .bool ns, .string ts, .int .i64 es, .int .i64 md, .bool true, .int .i64 im, .int .i64 ix] 32))) := (HB5.out.alloc HB5.out.size _)
  clear Ba5 Bp5 Bq5 HB5 
  obtain ⟨ya0, ya1, ya2, ya3⟩ := Ba6.out.four
  obtain ⟨yp0, yp1, yp2, yp3, yp4, yp5, yp6, yp7, yp8, yp9, yp10, yp11, yp12, yp13⟩ := Bp6.out.fourteen
  obtain ⟨yq0, yq1, yq2, yq3, yq4, yq5, yq6, yq7, yq8, yq9, yq10, yq11, yq12, yq13⟩ := Bq6.out.fourteen
  obtain ⟨yh0, yh1, yh2, yh3, yh4, yh5, yh6, yh7, yh8, yh9, yh10, yh11, yh12, yh13⟩ := Bh6.out.fourteen
  go_wp2_with fail
  refine (H1.out _ (HT.out.below HB6.out)).mono ?_
  rintro e w7 ⟨rfl, hb⟩
  have Ba7 := Blk.on Ba6 hb
  have Bp7 := Blk.on Bp6 hb
  have Bq7 := Blk.on Bq6 hb
  have Bh7 := Blk.on Bh6 hb
  have HB7 := hide (HB6.out.trans (hb.mono HB6.out.size))
  clear hb Ba6 Bp6 Bq6 Bh6 HB6 ya0 ya1 ya2 ya3 yp0 yp1 yp2 yp3 yp4 yp5 yp6 yp7 yp8 yp9 yp10 yp11 yp12 yp13 yq0 yq1 yq2 yq3 yq4 yq5 yq6 yq7 yq8 yq9 yq10 yq11 yq12 yq13 yh0 yh1 yh2 yh3 yh4 yh5 yh6 yh7 yh8 yh9 yh10 yh11 yh12 yh13
  obtain ⟨ya0, ya1, ya2, ya3⟩ := Ba7.out.four
  obtain ⟨yp0, yp1, yp2, yp3, yp4, yp5, yp6, yp7, yp8, yp9, yp10, yp11, yp12, yp13⟩ := Bp7.out.fourteen
  obtain ⟨yq0, yq1, yq2, yq3, yq4, yq5, yq6, yq7, yq8, yq9, yq10, yq11, yq12, yq13⟩ := Bq7.out.fourteen
  obtain ⟨yh0, yh1, yh2, yh3, yh4, yh5, yh6, yh7, yh8, yh9, yh10, yh11, yh12, yh13⟩ := Bh7.out.fourteen
  have Ba8 := Blk.up Ba7 (.cells #[.int .i64 sc, .bool sn, .string si, .string sf, .int .i64 sx, .bool sm] 36)
  have Bp8 := Blk.up Bp7 (.cells #[.int .i64 sc, .bool sn, .string si, .string sf, .int .i64 sx, .bool sm] 36)
  have Bq8 := Blk.up Bq7 (.cells #[.int .i64 sc, .bool sn, .string si, .string sf, .int .i64 sx, .bool sm] 36)
  have Bh8 := Blk.up Bh7 (.cells #[.int .i64 sc, .bool sn, .string si, .string sf, .int .i64 sx, .bool sm] 36)
  have Bs8 := hide ((Blk.newAt w7 (w7.heap.size) (rfl) #[.int .i64 sc, .bool sn, .string si, .string sf, .int .i64 sx, .bool sm] 36))
  have HB8 : Hid (Below w.heap.size w (w7.alloc (.cells #[.int .i64 sc, .bool sn, .string si, .string sf, .int .i64 sx, .bool sm] 36))) := (HB7.out.alloc HB7.out.size _)
  clear Ba7 Bp7 Bq7 Bh7 HB7 ya0 ya1 ya2 ya3 yp0 yp1 yp2 yp3 yp4 yp5 yp6 yp7 yp8 yp9 yp10 yp11 yp12 yp13 yq0 yq1 yq2 yq3 yq4 yq5 yq6 yq7 yq8 yq9 yq10 yq11 yq12 yq13 yh0 yh1 yh2 yh3 yh4 yh5 yh6 yh7 yh8 yh9 yh10 yh11 yh12 yh13
  obtain ⟨ya0, ya1, ya2, ya3⟩ := Ba8.out.four
  obtain ⟨yp0, yp1, yp2, yp3, yp4, yp5, yp6, yp7, yp8, yp9, yp10, yp11, yp12, yp13⟩ := Bp8.out.fourteen
  obtain ⟨yq0, yq1, yq2, yq3, yq4, yq5, yq6, yq7, yq8, yq9, yq10, yq11, yq12, yq13⟩ := Bq8.out.fourteen
  obtain ⟨yh0, yh1, yh2, yh3, yh4, yh5, yh6, yh7, yh8, yh9, yh10, yh11, yh12, yh13⟩ := Bh8.out.fourteen
  obtain ⟨ys0, ys1, ys2, ys3, ys4, ys5⟩ := Bs8.out.six
  go_wp2_with fail
  refine (H2.out _ (HT.out.below HB8.out)).mono ?_
  rintro e w9 ⟨rfl, hb⟩
  have Ba9 := Blk.on Ba8 hb
  have Bp9 := Blk.on Bp8 hb
  have Bq9 := Blk.on Bq8 hb
  have Bh9 := Blk.on Bh8 hb
  have Bs9 := Blk.on Bs8 hb
  have HB9 := hide (HB8.out.trans (hb.mono HB8.out.size))
  clear hb Ba8 Bp8 Bq8 Bh8 Bs8 HB8 ya0 ya1 ya2 ya3 yp0 yp1 yp2 yp3 yp4 yp5 yp6 yp7 yp8 yp9 yp10 yp11 yp12 yp13 yq0 yq1 yq2 yq3 yq4 yq5 yq6 yq7 yq8 yq9 yq10 yq11 yq12 yq13 yh0 yh1 yh2 yh3 yh4 yh5 yh6 yh7 yh8 yh9 yh10 yh11 yh12 yh13 ys0 ys1 ys2 ys3 ys4 ys5
  obtain ⟨ya0, ya1, ya2, ya3⟩ := Ba9.out.four
  obtain ⟨yp0, yp1, yp2, yp3, yp4, yp5, yp6, yp7, yp8, yp9, yp10, yp11, yp12, yp13⟩ := Bp9.out.fourteen
  obtain ⟨yq0, yq1, yq2, yq3, yq4, yq5, yq6, yq7, yq8, yq9, yq10, yq11, yq12, yq13⟩ := Bq9.out.fourteen
  obtain ⟨yh0, yh1, yh2, yh3, yh4, yh5, yh6, yh7, yh8, yh9, yh10, yh11, yh12, yh13⟩ := Bh9.out.fourteen
  obtain ⟨ys0, ys1, ys2, ys3, ys4, ys5⟩ := Bs9.out.six
  have Ba10 := Blk.up Ba9 (.cells #[.int .i64 vc, .bool vn, .string vi, .string vf, .int .i64 vx, .bool vm] 36)
  have Bp10 := Blk.up Bp9 (.cells #[.int .i64 vc, .bool vn, .string vi, .string vf, .int .i64 vx, .bool vm] 36)
  have Bq10 := Blk.up Bq9 (.cells #[.int .i64 vc, .bool vn, .string vi, .string vf, .int .i64 vx, .bool vm] 36)
  have Bh10 := Blk.up Bh9 (.cells #[.int .i64 vc, .bool vn, .string vi, .string vf, .int .i64 vx, .bool vm] 36)
  have Bs10 := Blk.up Bs9 (.cells #[.int .i64 vc, .bool vn, .string vi, .string vf, .int .i64 vx, .bool vm] 36)
  have Bt10 := hide ((Blk.newAt w9 (w9.heap.size) (rfl) #[.int .i64 vc, .bool vn, .string vi, .string vf, .int .i64 vx, .bool vm] 36))
  have HB10 : Hid (Below w.heap.size w (w9.alloc (.cells #[.int .i64 vc, .bool vn, .string vi, .string vf, .int .i64 vx, .bool vm] 36))) := (HB9.out.alloc HB9.out.size _)
  clear Ba9 Bp9 Bq9 Bh9 Bs9 HB9 ya0 ya1 ya2 ya3 yp0 yp1 yp2 yp3 yp4 yp5 yp6 yp7 yp8 yp9 yp10 yp11 yp12 yp13 yq0 yq1 yq2 yq3 yq4 yq5 yq6 yq7 yq8 yq9 yq10 yq11 yq12 yq13 yh0 yh1 yh2 yh3 yh4 yh5 yh6 yh7 yh8 yh9 yh10 yh11 yh12 yh13 ys0 ys1 ys2 ys3 ys4 ys5
  obtain ⟨ya0, ya1, ya2, ya3⟩ := Ba10.out.four
  obtain ⟨yp0, yp1, yp2, yp3, yp4, yp5, yp6, yp7, yp8, yp9, yp10, yp11, yp12, yp13⟩ := Bp10.out.fourteen
  obtain ⟨yq0, yq1, yq2, yq3, yq4, yq5, yq6, yq7, yq8, yq9, yq10, yq11, yq12, yq13⟩ := Bq10.out.fourteen
  obtain ⟨yh0, yh1, yh2, yh3, yh4, yh5, yh6, yh7, yh8, yh9, yh10, yh11, yh12, yh13⟩ := Bh10.out.fourteen
  obtain ⟨ys0, ys1, ys2, ys3, ys4, ys5⟩ := Bs10.out.six
  obtain ⟨yt0, yt1, yt2, yt3, yt4, yt5⟩ := Bt10.out.six
  go_wp2_with fail
  refine (H3.out _ (HT.out.below HB10.out)).mono ?_
  rintro e w11 ⟨rfl, hb⟩
  have Ba11 := Blk.on Ba10 hb
  have Bp11 := Blk.on Bp10 hb
  have Bq11 := Blk.on Bq10 hb
  have Bh11 := Blk.on Bh10 hb
  have Bs11 := Blk.on Bs10 hb
  have Bt11 := Blk.on Bt10 hb
  have HB11 := hide (HB10.out.trans (hb.mono HB10.out.size))
  clear hb Ba10 Bp10 Bq10 Bh10 Bs10 Bt10 HB10 ya0 ya1 ya2 ya3 yp0 yp1 yp2 yp3 yp4 yp5 yp6 yp7 yp8 yp9 yp10 yp11 yp12 yp13 yq0 yq1 yq2 yq3 yq4 yq5 yq6 yq7 yq8 yq9 yq10 yq11 yq12 yq13 yh0 yh1 yh2 yh3 yh4 yh5 yh6 yh7 yh8 yh9 yh10 yh11 yh12 yh13 ys0 ys1 ys2 ys3 ys4 ys5 yt0 yt1 yt2 yt3 yt4 yt5
  obtain ⟨ya0, ya1, ya2, ya3⟩ := Ba11.out.four
  obtain ⟨yp0, yp1, yp2, yp3, yp4, yp5, yp6, yp7, yp8, yp9, yp10, yp11, yp12, yp13⟩ := Bp11.out.fourteen
  obtain ⟨yq0, yq1, yq2, yq3, yq4, yq5, yq6, yq7, yq8, yq9, yq10, yq11, yq12, yq13⟩ := Bq11.out.fourteen
  obtain ⟨yh0, yh1, yh2, yh3, yh4, yh5, yh6, yh7, yh8, yh9, yh10, yh11, yh12, yh13⟩ := Bh11.out.fourteen
  obtain ⟨ys0, ys1, ys2, ys3, ys4, ys5⟩ := Bs11.out.six
  obtain ⟨yt0, yt1, yt2, yt3, yt4, yt5⟩ := Bt11.out.six
  have Ba12 := Blk.up Ba11 (.cells #[.int .i64 sc, .bool sn, .string si, .string sf, .int .i64 sx, .bool sm] 36)
  have Bp12 := Blk.up Bp11 (.cells #[.int .i64 sc, .bool sn, .string si, .string sf, .int .i64 sx, .bool sm] 36)
  have Bq12 := Blk.up Bq11 (.cells #[.int .i64 sc, .bool sn, .string si, .string sf, .int .i64 sx, .bool sm] 36)
  have Bh12 := Blk.up Bh11 (.cells #[.int .i64 sc, .bool sn, .string si, .string sf, .int .i64 sx, .bool sm] 36)
  have Bs12 := Blk.up Bs11 (.cells #[.int .i64 sc, .bool sn, .string si, .string sf, .int .i64 sx, .bool sm] 36)
  have Bt12 := Blk.up Bt11 (.cells #[.int .i64 sc, .bool sn, .string si, .string sf, .int .i64 sx, .bool sm] 36)
  have Bu12 := hide ((Blk.newAt w11 (w11.heap.size) (rfl) #[.int .i64 sc, .bool sn, .string si, .string sf, .int .i64 sx, .bool sm] 36))
  have HB12 : Hid (Below w.heap.size w (w11.alloc (.cells #[.int .i64 sc, .bool sn, .string si, .string sf, .int .i64 sx, .bool sm] 36))) := (HB11.out.alloc HB11.out.size _)
  clear Ba11 Bp11 Bq11 Bh11 Bs11 Bt11 HB11 ya0 ya1 ya2 ya3 yp0 yp1 yp2 yp3 yp4 yp5 yp6 yp7 yp8 yp9 yp10 yp11 yp12 yp13 yq0 yq1 yq2 yq3 yq4 yq5 yq6 yq7 yq8 yq9 yq10 yq11 yq12 yq13 yh0 yh1 yh2 yh3 yh4 yh5 yh6 yh7 yh8 yh9 yh10 yh11 yh12 yh13 ys0 ys1 ys2 ys3 ys4 ys5 yt0 yt1 yt2 yt3 yt4 yt5
  obtain ⟨Z, hZ⟩ : ∃ Z, Z = (w11.alloc (.cells #[.int .i64 sc, .bool sn, .string si, .string sf, .int .i64 sx, .bool sm] 36)) := ⟨_, rfl⟩
  rw [← hZ] at HB12 Ba12 Bp12 Bq12 Bh12 Bs12 Bt12 Bu12
  have HZ := hide hZ
  clear hZ
  obtain ⟨ys0, ys1, ys2, ys3, ys4, ys5⟩ := Bs12.out.six
  obtain ⟨yt0, yt1, yt2, yt3, yt4, yt5⟩ := Bt12.out.six
  obtain ⟨yu0, yu1, yu2, yu3, yu4, yu5⟩ := Bu12.out.six
  go_wp2_with (simp only [← HZ.out])
  go_loopw [15] (fun i wr => ∃ q : Nat, q ≤ j ∧ i = .int .i64 (q : Int) ∧ wr = Z) (fun i _ => j - (intOf i).toNat)
  case atStart => exact ⟨0, Nat.zero_le _, rfl, rfl⟩
  case round =>
    obtain ⟨q, hq, rfl, rfl⟩ := hrel
    by_cases hlt : q < j
    · have hlt' : (q : Int) < (sf.size : Int) := by omega
      have hks : q < sf.size := by omega
      have hg := HJ.out q hlt
      clear HJ HB
      go_wp2
      exact ⟨⟨q + 1, by omega, by go_num, trivial⟩, by simp [intOf]; omega⟩
    · obtain rfl : q = j := by omega
      have hlt' : (q : Int) < (sf.size : Int) := by omega
      have hg := HB.out
      clear hlt hq
      go_wp2
      go_ret
      exact ⟨rfl, HB12.out⟩

end Go.Proofs.YtckijnlolmbdiaaGreatDoor

namespace Go.Proofs.YtckijnlolmbdiaaGreatDoor

theorem ab_len {c : Int} {n : Bool} {l : List UInt8} {e : Int} (h : MayD c n l e) : (aheadD l e).length ≤ 2000 ∧ (behindD l e).length ≤ 3000 ∧ ((behindD l e).length : Int) = max 0 (-e) ∧ ((aheadD l e).length : Int) = max 0 ((l.length : Int) + e) := by
  obtain ⟨b1, b2, b3, b4, b5⟩ := may_pl h
  have hl : l.length = 0 → e = 0 := by
    intro hl
    have hl := List.length_eq_zero_iff.1 hl
    rcases h with ⟨_, ⟨_, h2⟩ | ⟨h1, _⟩⟩ | ⟨_, _, h2⟩ | ⟨_, _, _, h2⟩
    · exact h2
    · exact absurd hl h1
    · exact h2
    · exact h2
  unfold aheadD behindD
  by_cases h1 : (l.length : Int) + e ≤ 0
  · rw [if_pos h1, if_pos h1]
    simp only [List.length_append, List.length_nil, nought_len]
    omega
  · rw [if_neg h1, if_neg h1]
    by_cases h2 : 0 ≤ e
    · rw [if_pos h2, if_pos h2]
      simp only [List.length_append, List.length_nil, nought_len]
      omega
    · rw [if_neg h2, if_neg h2]
      simp only [List.length_take, List.length_drop]
      omega

theorem fill_len (p : PrecT) (a : List UInt8) : ((fillI p a).length : Int) = max p.imin a.length := by
  unfold fillI; rw [List.length_append, nought_len]; omega

theorem frac_len (p : PrecT) (b : List UInt8) (n : Int) : (fracP p b n).length = 0 ∧ b = [] ∧ p.hide = true ∨ ((fracP p b n).length : Int) = max (b.length : Int) n ∧ fracP p b n = b ++ nought (n - b.length) := by
  unfold fracP
  by_cases h : p.hide = true ∧ b = []
  · rw [if_pos h]; exact .inl ⟨rfl, h.2, h.1⟩
  · rw [if_neg h]
    refine .inr ⟨?_, rfl⟩
    rw [List.length_append, nought_len]; omega

theorem mayP_imax {p : PrecT} (h : MayP p) : 0 ≤ p.imin ∧ p.imin ≤ 99 ∧ 0 ≤ p.imax ∧ p.imax ≤ 99 := by
  obtain ⟨_, ⟨⟨h1, h2⟩, h3⟩, _⟩ := h
  omega

theorem digits_form (p : PrecT) (r : DecT) (n : Int) : (wholeP p (aheadD r.dig r.exp) = [] ∧ fracP p (behindD r.dig r.exp) n = [] ∧ digitsP p r n = ([48], [])) ∨ ((wholeP p (aheadD r.dig r.exp) ≠ [] ∨ fracP p (behindD r.dig r.exp) n ≠ []) ∧ digitsP p r n = (wholeP p (aheadD r.dig r.exp), fracP p (behindD r.dig r.exp) n)) := by
  unfold digitsP
  by_cases h : wholeP p (aheadD r.dig r.exp) = [] ∧ fracP p (behindD r.dig r.exp) n = []
  · rw [if_pos h]; exact .inl ⟨h.1, h.2, rfl⟩
  · rw [if_neg h]
    refine .inr ⟨?_, rfl⟩
    by_cases h1 : wholeP p (aheadD r.dig r.exp) = []
    · exact .inr fun g => h ⟨h1, g⟩
    · exact .inl h1

end Go.Proofs.YtckijnlolmbdiaaGreatDoor
