/-
  WidthAgain answers true, whatever it is handed.
-/
import Derived.Test.YtckijnlolmbdiaaGreatDoorZB13
import Derived.Test.YtckijnlolmbdiaaGreatDoorZB19
namespace Go.Proofs.YtckijnlolmbdiaaGreatDoor
open Go.RowKit

set_option maxRecDepth 100000 in
set_option maxHeartbeats 2000000 in
theorem again_51 (ca : Int) (na : Bool) (ta : ByteArray) (ea k mf xf ms xs : Int) (st : Bool) (cs : Int) (ns : Bool) (ts : ByteArray) (es md : Int) (hd : Bool) (im ix : Int)  (w : World) (htab : Tab w) (h1 : ∀ W, Tab W → Calls Tryz.prog 22 #[dcV ca na ta ea, prV k mf xf ms xs st cs ns ts es md hd im ix] W fun e w' => e = .returned (.tuple #[.agg #[.int .i64 0, .bool false, .string ⟨#[]⟩, .string ⟨#[]⟩, .int .i64 0, .bool false], .int .i64 51]) ∧ Below W.heap.size W w') : Calls Tryz.prog 11 #[dcV ca na ta ea, prV k mf xf ms xs st cs ns ts es md hd im ix] w fun e w' => e = .returned (.bool true) ∧ Below w.heap.size w w' := by
  have H1 := hide h1
  have HT := hide htab
  clear htab h1 
  have Ba0 := hide ((Blk.newAt w (w.heap.size) (rfl) #[.int .i64 ca, .bool na, .string ta, .int .i64 ea] 23).alloc (.cells #[.int .i64 k, .int .i64 mf, .int .i64 xf, .int .i64 ms, .int .i64 xs, .bool st, .int .i64 cs, .bool ns, .string ts, .int .i64 es, .int .i64 md, .bool hd, .int .i64 im, .int .i64 ix] 32))
  have Bp0 := hide (Blk.newAt (w.alloc (.cells #[.int .i64 ca, .bool na, .string ta, .int .i64 ea] 23)) (w.heap.size + 1) (by simp) #[.int .i64 k, .int .i64 mf, .int .i64 xf, .int .i64 ms, .int .i64 xs, .bool st, .int .i64 cs, .bool ns, .string ts, .int .i64 es, .int .i64 md, .bool hd, .int .i64 im, .int .i64 ix] 32)
  have HB0 : Hid (Below w.heap.size w ((w.alloc (.cells #[.int .i64 ca, .bool na, .string ta, .int .i64 ea] 23)).alloc (.cells #[.int .i64 k, .int .i64 mf, .int .i64 xf, .int .i64 ms, .int .i64 xs, .bool st, .int .i64 cs, .bool ns, .string ts, .int .i64 es, .int .i64 md, .bool hd, .int .i64 im, .int .i64 ix] 32))) := (((Below.refl _ _).alloc (Nat.le_refl _) _).alloc (by simp <;> omega) _)
  go_enter Tryz.func11, Tryz.ntmps11
  go_wp2_with fail
  refine (H1.out _ (HT.out.below HB0.out)).mono ?_
  rintro e w1 ⟨rfl, hb⟩
  have Ba1 := Blk.on Ba0 hb
  have Bp1 := Blk.on Bp0 hb
  have HB1 := hide (HB0.out.trans (hb.mono HB0.out.size))
  clear hb Ba0 Bp0 HB0 
  obtain ⟨ya0, ya1, ya2, ya3⟩ := Ba1.out.four
  obtain ⟨yp0, yp1, yp2, yp3, yp4, yp5, yp6, yp7, yp8, yp9, yp10, yp11, yp12, yp13⟩ := Bp1.out.fourteen
  have Ba2 := Blk.up Ba1 (.cells #[.int .i64 0, .bool false, .string ⟨#[]⟩, .string ⟨#[]⟩, .int .i64 0, .bool false] 36)
  have Bp2 := Blk.up Bp1 (.cells #[.int .i64 0, .bool false, .string ⟨#[]⟩, .string ⟨#[]⟩, .int .i64 0, .bool false] 36)
  have Bs2 := hide ((Blk.newAt w1 (w1.heap.size) (rfl) #[.int .i64 0, .bool false, .string ⟨#[]⟩, .string ⟨#[]⟩, .int .i64 0, .bool false] 36))
  have HB2 : Hid (Below w.heap.size w (w1.alloc (.cells #[.int .i64 0, .bool false, .string ⟨#[]⟩, .string ⟨#[]⟩, .int .i64 0, .bool false] 36))) := (HB1.out.alloc HB1.out.size _)
  clear Ba1 Bp1 HB1 ya0 ya1 ya2 ya3 yp0 yp1 yp2 yp3 yp4 yp5 yp6 yp7 yp8 yp9 yp10 yp11 yp12 yp13
  obtain ⟨ya0, ya1, ya2, ya3⟩ := Ba2.out.four
  obtain ⟨yp0, yp1, yp2, yp3, yp4, yp5, yp6, yp7, yp8, yp9, yp10, yp11, yp12, yp13⟩ := Bp2.out.fourteen
  obtain ⟨ys0, ys1, ys2, ys3, ys4, ys5⟩ := Bs2.out.six
  go_wp2_with fail
  refine (xawake_any _ (HT.out.below HB2.out)).mono ?_
  rintro e w3 ⟨rfl, hb⟩
  have Ba3 := Blk.on Ba2 hb
  have Bp3 := Blk.on Bp2 hb
  have Bs3 := Blk.on Bs2 hb
  have HB3 := hide (HB2.out.trans (hb.mono HB2.out.size))
  clear hb Ba2 Bp2 Bs2 HB2 ya0 ya1 ya2 ya3 yp0 yp1 yp2 yp3 yp4 yp5 yp6 yp7 yp8 yp9 yp10 yp11 yp12 yp13 ys0 ys1 ys2 ys3 ys4 ys5
  obtain ⟨ya0, ya1, ya2, ya3⟩ := Ba3.out.four
  obtain ⟨yp0, yp1, yp2, yp3, yp4, yp5, yp6, yp7, yp8, yp9, yp10, yp11, yp12, yp13⟩ := Bp3.out.fourteen
  obtain ⟨ys0, ys1, ys2, ys3, ys4, ys5⟩ := Bs3.out.six
  go_wp2
  go_ret
  exact ⟨rfl, HB3.out⟩

set_option maxRecDepth 100000 in
set_option maxHeartbeats 2000000 in
theorem again_52 (ca : Int) (na : Bool) (ta : ByteArray) (ea k mf xf ms xs : Int) (st : Bool) (cs : Int) (ns : Bool) (ts : ByteArray) (es md : Int) (hd : Bool) (im ix : Int)  (w : World) (htab : Tab w) (h1 : ∀ W, Tab W → Calls Tryz.prog 22 #[dcV ca na ta ea, prV k mf xf ms xs st cs ns ts es md hd im ix] W fun e w' => e = .returned (.tuple #[.agg #[.int .i64 0, .bool false, .string ⟨#[]⟩, .string ⟨#[]⟩, .int .i64 0, .bool false], .int .i64 52]) ∧ Below W.heap.size W w') : Calls Tryz.prog 11 #[dcV ca na ta ea, prV k mf xf ms xs st cs ns ts es md hd im ix] w fun e w' => e = .returned (.bool true) ∧ Below w.heap.size w w' := by
  have H1 := hide h1
  have HT := hide htab
  clear htab h1 
  have Ba0 := hide ((Blk.newAt w (w.heap.size) (rfl) #[.int .i64 ca, .bool na, .string ta, .int .i64 ea] 23).alloc (.cells #[.int .i64 k, .int .i64 mf, .int .i64 xf, .int .i64 ms, .int .i64 xs, .bool st, .int .i64 cs, .bool ns, .string ts, .int .i64 es, .int .i64 md, .bool hd, .int .i64 im, .int .i64 ix] 32))
  have Bp0 := hide (Blk.newAt (w.alloc (.cells #[.int .i64 ca, .bool na, .string ta, .int .i64 ea] 23)) (w.heap.size + 1) (by simp) #[.int .i64 k, .int .i64 mf, .int .i64 xf, .int .i64 ms, .int .i64 xs, .bool st, .int .i64 cs, .bool ns, .string ts, .int .i64 es, .int .i64 md, .bool hd, .int .i64 im, .int .i64 ix] 32)
  have HB0 : Hid (Below w.heap.size w ((w.alloc (.cells #[.int .i64 ca, .bool na, .string ta, .int .i64 ea] 23)).alloc (.cells #[.int .i64 k, .int .i64 mf, .int .i64 xf, .int .i64 ms, .int .i64 xs, .bool st, .int .i64 cs, .bool ns, .string ts, .int .i64 es, .int .i64 md, .bool hd, .int .i64 im, .int .i64 ix] 32))) := (((Below.refl _ _).alloc (Nat.le_refl _) _).alloc (by simp <;> omega) _)
  go_enter Tryz.func11, Tryz.ntmps11
  go_wp2_with fail
  refine (H1.out _ (HT.out.below HB0.out)).mono ?_
  rintro e w1 ⟨rfl, hb⟩
  have Ba1 := Blk.on Ba0 hb
  have Bp1 := Blk.on Bp0 hb
  have HB1 := hide (HB0.out.trans (hb.mono HB0.out.size))
  clear hb Ba0 Bp0 HB0 
  obtain ⟨ya0, ya1, ya2, ya3⟩ := Ba1.out.four
  obtain ⟨yp0, yp1, yp2, yp3, yp4, yp5, yp6, yp7, yp8, yp9, yp10, yp11, yp12, yp13⟩ := Bp1.out.fourteen
  have Ba2 := Blk.up Ba1 (.cells #[.int .i64 0, .bool false, .string ⟨#[]⟩, .string ⟨#[]⟩, .int .i64 0, .bool false] 36)
  have Bp2 := Blk.up Bp1 (.cells #[.int .i64 0, .bool false, .string ⟨#[]⟩, .string ⟨#[]⟩, .int .i64 0, .bool false] 36)
  have Bs2 := hide ((Blk.newAt w1 (w1.heap.size) (rfl) #[.int .i64 0, .bool false, .string ⟨#[]⟩, .string ⟨#[]⟩, .int .i64 0, .bool false] 36))
  have HB2 : Hid (Below w.heap.size w (w1.alloc (.cells #[.int .i64 0, .bool false, .string ⟨#[]⟩, .string ⟨#[]⟩, .int .i64 0, .bool false] 36))) := (HB1.out.alloc HB1.out.size _)
  clear Ba1 Bp1 HB1 ya0 ya1 ya2 ya3 yp0 yp1 yp2 yp3 yp4 yp5 yp6 yp7 yp8 yp9 yp10 yp11 yp12 yp13
  obtain ⟨ya0, ya1, ya2, ya3⟩ := Ba2.out.four
  obtain ⟨yp0, yp1, yp2, yp3, yp4, yp5, yp6, yp7, yp8, yp9, yp10, yp11, yp12, yp13⟩ := Bp2.out.fourteen
  obtain ⟨ys0, ys1, ys2, ys3, ys4, ys5⟩ := Bs2.out.six
  go_wp2_with fail
  refine (xawake_any _ (HT.out.below HB2.out)).mono ?_
  rintro e w3 ⟨rfl, hb⟩
  have Ba3 := Blk.on Ba2 hb
  have Bp3 := Blk.on Bp2 hb
  have Bs3 := Blk.on Bs2 hb
  have HB3 := hide (HB2.out.trans (hb.mono HB2.out.size))
  clear hb Ba2 Bp2 Bs2 HB2 ya0 ya1 ya2 ya3 yp0 yp1 yp2 yp3 yp4 yp5 yp6 yp7 yp8 yp9 yp10 yp11 yp12 yp13 ys0 ys1 ys2 ys3 ys4 ys5
  obtain ⟨ya0, ya1, ya2, ya3⟩ := Ba3.out.four
  obtain ⟨yp0, yp1, yp2, yp3, yp4, yp5, yp6, yp7, yp8, yp9, yp10, yp11, yp12, yp13⟩ := Bp3.out.fourteen
  obtain ⟨ys0, ys1, ys2, ys3, ys4, ys5⟩ := Bs3.out.six
  go_wp2
  go_ret
  exact ⟨rfl, HB3.out⟩

set_option maxRecDepth 100000 in
set_option maxHeartbeats 2000000 in
theorem again_70 (ca : Int) (na : Bool) (ta : ByteArray) (ea k mf xf ms xs : Int) (st : Bool) (cs : Int) (ns : Bool) (ts : ByteArray) (es md : Int) (hd : Bool) (im ix : Int)  (w : World) (htab : Tab w) (h1 : ∀ W, Tab W → Calls Tryz.prog 22 #[dcV ca na ta ea, prV k mf xf ms xs st cs ns ts es md hd im ix] W fun e w' => e = .returned (.tuple #[.agg #[.int .i64 0, .bool false, .string ⟨#[]⟩, .string ⟨#[]⟩, .int .i64 0, .bool false], .int .i64 70]) ∧ Below W.heap.size W w') : Calls Tryz.prog 11 #[dcV ca na ta ea, prV k mf xf ms xs st cs ns ts es md hd im ix] w fun e w' => e = .returned (.bool true) ∧ Below w.heap.size w w' := by
  have H1 := hide h1
  have HT := hide htab
  clear htab h1 
  have Ba0 := hide ((Blk.newAt w (w.heap.size) (rfl) #[.int .i64 ca, .bool na, .string ta, .int .i64 ea] 23).alloc (.cells #[.int .i64 k, .int .i64 mf, .int .i64 xf, .int .i64 ms, .int .i64 xs, .bool st, .int .i64 cs, .bool ns, .string ts, .int .i64 es, .int .i64 md, .bool hd, .int .i64 im, .int .i64 ix] 32))
  have Bp0 := hide (Blk.newAt (w.alloc (.cells #[.int .i64 ca, .bool na, .string ta, .int .i64 ea] 23)) (w.heap.size + 1) (by simp) #[.int .i64 k, .int .i64 mf, .int .i64 xf, .int .i64 ms, .int .i64 xs, .bool st, .int .i64 cs, .bool ns, .string ts, .int .i64 es, .int .i64 md, .bool hd, .int .i64 im, .int .i64 ix] 32)
  have HB0 : Hid (Below w.heap.size w ((w.alloc (.cells #[.int .i64 ca, .bool na, .string ta, .int .i64 ea] 23)).alloc (.cells #[.int .i64 k, .int .i64 mf, .int .i64 xf, .int .i64 ms, .int .i64 xs, .bool st, .int .i64 cs, .bool ns, .string ts, .int .i64 es, .int .i64 md, .bool hd, .int .i64 im, .int .i64 ix] 32))) := (((Below.refl _ _).alloc (Nat.le_refl _) _).alloc (by simp <;> omega) _)
  go_enter Tryz.func11, Tryz.ntmps11
  go_wp2_with fail
  refine (H1.out _ (HT.out.below HB0.out)).mono ?_
  rintro e w1 ⟨rfl, hb⟩
  have Ba1 := Blk.on Ba0 hb
  have Bp1 := Blk.on Bp0 hb
  have HB1 := hide (HB0.out.trans (hb.mono HB0.out.size))
  clear hb Ba0 Bp0 HB0 
  obtain ⟨ya0, ya1, ya2, ya3⟩ := Ba1.out.four
  obtain ⟨yp0, yp1, yp2, yp3, yp4, yp5, yp6, yp7, yp8, yp9, yp10, yp11, yp12, yp13⟩ := Bp1.out.fourteen
  have Ba2 := Blk.up Ba1 (.cells #[.int .i64 0, .bool false, .string ⟨#[]⟩, .string ⟨#[]⟩, .int .i64 0, .bool false] 36)
  have Bp2 := Blk.up Bp1 (.cells #[.int .i64 0, .bool false, .string ⟨#[]⟩, .string ⟨#[]⟩, .int .i64 0, .bool false] 36)
  have Bs2 := hide ((Blk.newAt w1 (w1.heap.size) (rfl) #[.int .i64 0, .bool false, .string ⟨#[]⟩, .string ⟨#[]⟩, .int .i64 0, .bool false] 36))
  have HB2 : Hid (Below w.heap.size w (w1.alloc (.cells #[.int .i64 0, .bool false, .string ⟨#[]⟩, .string ⟨#[]⟩, .int .i64 0, .bool false] 36))) := (HB1.out.alloc HB1.out.size _)
  clear Ba1 Bp1 HB1 ya0 ya1 ya2 ya3 yp0 yp1 yp2 yp3 yp4 yp5 yp6 yp7 yp8 yp9 yp10 yp11 yp12 yp13
  obtain ⟨ya0, ya1, ya2, ya3⟩ := Ba2.out.four
  obtain ⟨yp0, yp1, yp2, yp3, yp4, yp5, yp6, yp7, yp8, yp9, yp10, yp11, yp12, yp13⟩ := Bp2.out.fourteen
  obtain ⟨ys0, ys1, ys2, ys3, ys4, ys5⟩ := Bs2.out.six
  go_wp2_with fail
  refine (xawake_any _ (HT.out.below HB2.out)).mono ?_
  rintro e w3 ⟨rfl, hb⟩
  have Ba3 := Blk.on Ba2 hb
  have Bp3 := Blk.on Bp2 hb
  have Bs3 := Blk.on Bs2 hb
  have HB3 := hide (HB2.out.trans (hb.mono HB2.out.size))
  clear hb Ba2 Bp2 Bs2 HB2 ya0 ya1 ya2 ya3 yp0 yp1 yp2 yp3 yp4 yp5 yp6 yp7 yp8 yp9 yp10 yp11 yp12 yp13 ys0 ys1 ys2 ys3 ys4 ys5
  obtain ⟨ya0, ya1, ya2, ya3⟩ := Ba3.out.four
  obtain ⟨yp0, yp1, yp2, yp3, yp4, yp5, yp6, yp7, yp8, yp9, yp10, yp11, yp12, yp13⟩ := Bp3.out.fourteen
  obtain ⟨ys0, ys1, ys2, ys3, ys4, ys5⟩ := Bs3.out.six
  go_wp2
  go_ret
  exact ⟨rfl, HB3.out⟩

set_option maxRecDepth 100000 in
set_option maxHeartbeats 2000000 in
theorem again_x (ca : Int) (na : Bool) (ta : ByteArray) (ea k mf xf ms xs : Int) (st : Bool) (cs : Int) (ns : Bool) (ts : ByteArray) (es md : Int) (hd : Bool) (im ix sc : Int) (sn : Bool) (si sf : ByteArray) (sx : Int) (sm : Bool) (w : World) (htab : Tab w) (h1 : ∀ W, Tab W → Calls Tryz.prog 22 #[dcV ca na ta ea, prV k mf xf ms xs st cs ns ts es md hd im ix] W fun e w' => e = .returned (.tuple #[.agg #[.int .i64 sc, .bool sn, .string si, .string sf, .int .i64 sx, .bool sm], .int .i64 0]) ∧ Below W.heap.size W w') (hx : 0 < ix) : Calls Tryz.prog 11 #[dcV ca na ta ea, prV k mf xf ms xs st cs ns ts es md hd im ix] w fun e w' => e = .returned (.bool true) ∧ Below w.heap.size w w' := by
  have H1 := hide h1
  have HT := hide htab
  clear htab h1 
  have Ba0 := hide ((Blk.newAt w (w.heap.size) (rfl) #[.int .i64 ca, .bool na, .string ta, .int .i64 ea] 23).alloc (.cells #[.int .i64 k, .int .i64 mf, .int .i64 xf, .int .i64 ms, .int .i64 xs, .bool st, .int .i64 cs, .bool ns, .string ts, .int .i64 es, .int .i64 md, .bool hd, .int .i64 im, .int .i64 ix] 32))
  have Bp0 := hide (Blk.newAt (w.alloc (.cells #[.int .i64 ca, .bool na, .string ta, .int .i64 ea] 23)) (w.heap.size + 1) (by simp) #[.int .i64 k, .int .i64 mf, .int .i64 xf, .int .i64 ms, .int .i64 xs, .bool st, .int .i64 cs, .bool ns, .string ts, .int .i64 es, .int .i64 md, .bool hd, .int .i64 im, .int .i64 ix] 32)
  have HB0 : Hid (Below w.heap.size w ((w.alloc (.cells #[.int .i64 ca, .bool na, .string ta, .int .i64 ea] 23)).alloc (.cells #[.int .i64 k, .int .i64 mf, .int .i64 xf, .int .i64 ms, .int .i64 xs, .bool st, .int .i64 cs, .bool ns, .string ts, .int .i64 es, .int .i64 md, .bool hd, .int .i64 im, .int .i64 ix] 32))) := (((Below.refl _ _).alloc (Nat.le_refl _) _).alloc (by simp <;> omega) _)
  go_enter Tryz.func11, Tryz.ntmps11
  go_wp2_with fail
  refine (H1.out _ (HT.out.below HB0.out)).mono ?_
  rintro e w1 ⟨rfl, hb⟩
  have Ba1 := Blk.on Ba0 hb
  have Bp1 := Blk.on Bp0 hb
  have HB1 := hide (HB0.out.trans (hb.mono HB0.out.size))
  clear hb Ba0 Bp0 HB0 
  obtain ⟨ya0, ya1, ya2, ya3⟩ := Ba1.out.four
  obtain ⟨yp0, yp1, yp2, yp3, yp4, yp5, yp6, yp7, yp8, yp9, yp10, yp11, yp12, yp13⟩ := Bp1.out.fourteen
  have Ba2 := Blk.up Ba1 (.cells #[.int .i64 sc, .bool sn, .string si, .string sf, .int .i64 sx, .bool sm] 36)
  have Bp2 := Blk.up Bp1 (.cells #[.int .i64 sc, .bool sn, .string si, .string sf, .int .i64 sx, .bool sm] 36)
  have Bs2 := hide ((Blk.newAt w1 (w1.heap.size) (rfl) #[.int .i64 sc, .bool sn, .string si, .string sf, .int .i64 sx, .bool sm] 36))
  have HB2 : Hid (Below w.heap.size w (w1.alloc (.cells #[.int .i64 sc, .bool sn, .string si, .string sf, .int .i64 sx, .bool sm] 36))) := (HB1.out.alloc HB1.out.size _)
  clear Ba1 Bp1 HB1 ya0 ya1 ya2 ya3 yp0 yp1 yp2 yp3 yp4 yp5 yp6 yp7 yp8 yp9 yp10 yp11 yp12 yp13
  obtain ⟨ya0, ya1, ya2, ya3⟩ := Ba2.out.four
  obtain ⟨yp0, yp1, yp2, yp3, yp4, yp5, yp6, yp7, yp8, yp9, yp10, yp11, yp12, yp13⟩ := Bp2.out.fourteen
  obtain ⟨ys0, ys1, ys2, ys3, ys4, ys5⟩ := Bs2.out.six
  go_wp2_with fail
  refine (xawake_any _ (HT.out.below HB2.out)).mono ?_
  rintro e w3 ⟨rfl, hb⟩
  have Ba3 := Blk.on Ba2 hb
  have Bp3 := Blk.on Bp2 hb
  have Bs3 := Blk.on Bs2 hb
  have HB3 := hide (HB2.out.trans (hb.mono HB2.out.size))
  clear hb Ba2 Bp2 Bs2 HB2 ya0 ya1 ya2 ya3 yp0 yp1 yp2 yp3 yp4 yp5 yp6 yp7 yp8 yp9 yp10 yp11 yp12 yp13 ys0 ys1 ys2 ys3 ys4 ys5
  obtain ⟨ya0, ya1, ya2, ya3⟩ := Ba3.out.four
  obtain ⟨yp0, yp1, yp2, yp3, yp4, yp5, yp6, yp7, yp8, yp9, yp10, yp11, yp12, yp13⟩ := Bp3.out.fourteen
  obtain ⟨ys0, ys1, ys2, ys3, ys4, ys5⟩ := Bs3.out.six
  go_wp2
  go_ret
  exact ⟨rfl, HB3.out⟩

set_option maxRecDepth 100000 in
set_option maxHeartbeats 2000000 in
theorem again_v (ca : Int) (na : Bool) (ta : ByteArray) (ea k mf xf ms xs : Int) (st : Bool) (cs : Int) (ns : Bool) (ts : ByteArray) (es md : Int) (hd : Bool) (im sc : Int) (sn : Bool) (si sf : ByteArray) (sx : Int) (sm : Bool) (cx : Int) (nx : Bool) (tx : ByteArray) (ex : Int) (w : World) (htab : Tab w) (h1 : ∀ W, Tab W → Calls Tryz.prog 22 #[dcV ca na ta ea, prV k mf xf ms xs st cs ns ts es md hd im 0] W fun e w' => e = .returned (.tuple #[.agg #[.int .i64 sc, .bool sn, .string si, .string sf, .int .i64 sx, .bool sm], .int .i64 0]) ∧ Below W.heap.size W w') (h2 : ∀ W, Tab W → Calls Tryz.prog 24 #[shV sc sn si sf sx sm] W fun e w' => e = .returned (.tuple #[.agg #[.int .i64 cx, .bool nx, .string tx, .int .i64 ex], .int .i64 0]) ∧ Below W.heap.size W w') (h3 : ∀ W, Tab W → Calls Tryz.prog 22 #[dcV cx nx tx ex, prV k mf xf ms xs st cs ns ts es md hd im 0] W fun e w' => e = .returned (.tuple #[.agg #[.int .i64 sc, .bool sn, .string si, .string sf, .int .i64 sx, .bool sm], .int .i64 0]) ∧ Below W.heap.size W w') : Calls Tryz.prog 11 #[dcV ca na ta ea, prV k mf xf ms xs st cs ns ts es md hd im 0] w fun e w' => e = .returned (.bool true) ∧ Below w.heap.size w w' := by
  have H1 := hide h1
  have H2 := hide h2
  have H3 := hide h3
  have HT := hide htab
  clear htab h1 h2 h3 
  have Ba0 := hide ((Blk.newAt w (w.heap.size) (rfl) #[.int .i64 ca, .bool na, .string ta, .int .i64 ea] 23).alloc (.cells #[.int .i64 k, .int .i64 mf, .int .i64 xf, .int .i64 ms, .int .i64 xs, .bool st, .int .i64 cs, .bool ns, .string ts, .int .i64 es, .int .i64 md, .bool hd, .int .i64 im, .int .i64 0] 32))
  have Bp0 := hide (Blk.newAt (w.alloc (.cells #[.int .i64 ca, .bool na, .string ta, .int .i64 ea] 23)) (w.heap.size + 1) (by simp) #[.int .i64 k, .int .i64 mf, .int .i64 xf, .int .i64 ms, .int .i64 xs, .bool st, .int .i64 cs, .bool ns, .string ts, .int .i64 es, .int .i64 md, .bool hd, .int .i64 im, .int .i64 0] 32)
  have HB0 : Hid (Below w.heap.size w ((w.alloc (.cells #[.int .i64 ca, .bool na, .string ta, .int .i64 ea] 23)).alloc (.cells #[.int .i64 k, .int .i64 mf, .int .i64 xf, .int .i64 ms, .int .i64 xs, .bool st, .int .i64 cs, .bool ns, .string ts, .int .i64 es, .int .i64 md, .bool hd, .int .i64 im, .int .i64 0] 32))) := (((Below.refl _ _).alloc (Nat.le_refl _) _).alloc (by simp <;> omega) _)
  go_enter Tryz.func11, Tryz.ntmps11
  go_wp2_with fail
  refine (H1.out _ (HT.out.below HB0.out)).mono ?_
  rintro e w1 ⟨rfl, hb⟩
  have Ba1 := Blk.on Ba0 hb
  have Bp1 := Blk.on Bp0 hb
  have HB1 := hide (HB0.out.trans (hb.mono HB0.out.size))
  clear hb Ba0 Bp0 HB0 
  obtain ⟨ya0, ya1, ya2, ya3⟩ := Ba1.out.four
  obtain ⟨yp0, yp1, yp2, yp3, yp4, yp5, yp6, yp7, yp8, yp9, yp10, yp11, yp12, yp13⟩ := Bp1.out.fourteen
  have Ba2 := Blk.up Ba1 (.cells #[.int .i64 sc, .bool sn, .string si, .string sf, .int .i64 sx, .bool sm] 36)
  have Bp2 := Blk.up Bp1 (.cells #[.int .i64 sc, .bool sn, .string si, .string sf, .int .i64 sx, .bool sm] 36)
  have Bs2 := hide ((Blk.newAt w1 (w1.heap.size) (rfl) #[.int .i64 sc, .bool sn, .string si, .string sf, .int .i64 sx, .bool sm] 36))
  have HB2 : Hid (Below w.heap.size w (w1.alloc (.cells #[.int .i64 sc, .bool sn, .string si, .string sf, .int .i64 sx, .bool sm] 36))) := (HB1.out.alloc HB1.out.size _)
  clear Ba1 Bp1 HB1 ya0 ya1 ya2 ya3 yp0 yp1 yp2 yp3 yp4 yp5 yp6 yp7 yp8 yp9 yp10 yp11 yp12 yp13
  obtain ⟨ya0, ya1, ya2, ya3⟩ := Ba2.out.four
  obtain ⟨yp0, yp1, yp2, yp3, yp4, yp5, yp6, yp7, yp8, yp9, yp10, yp11, yp12, yp13⟩ := Bp2.out.fourteen
  obtain ⟨ys0, ys1, ys2, ys3, ys4, ys5⟩ := Bs2.out.six
  go_wp2_with fail
  refine (xawake_any _ (HT.out.below HB2.out)).mono ?_
  rintro e w3 ⟨rfl, hb⟩
  have Ba3 := Blk.on Ba2 hb
  have Bp3 := Blk.on Bp2 hb
  have Bs3 := Blk.on Bs2 hb
  have HB3 := hide (HB2.out.trans (hb.mono HB2.out.size))
  clear hb Ba2 Bp2 Bs2 HB2 ya0 ya1 ya2 ya3 yp0 yp1 yp2 yp3 yp4 yp5 yp6 yp7 yp8 yp9 yp10 yp11 yp12 yp13 ys0 ys1 ys2 ys3 ys4 ys5
  obtain ⟨ya0, ya1, ya2, ya3⟩ := Ba3.out.four
  obtain ⟨yp0, yp1, yp2, yp3, yp4, yp5, yp6, yp7, yp8, yp9, yp10, yp11, yp12, yp13⟩ := Bp3.out.fourteen
  obtain ⟨ys0, ys1, ys2, ys3, ys4, ys5⟩ := Bs3.out.six
  go_wp2_with fail
  refine (H2.out _ (HT.out.below HB3.out)).mono ?_
  rintro e w4 ⟨rfl, hb⟩
  have Ba4 := Blk.on Ba3 hb
  have Bp4 := Blk.on Bp3 hb
  have Bs4 := Blk.on Bs3 hb
  have HB4 := hide (HB3.out.trans (hb.mono HB3.out.size))
  clear hb Ba3 Bp3 Bs3 HB3 ya0 ya1 ya2 ya3 yp0 yp1 yp2 yp3 yp4 yp5 yp6 yp7 yp8 yp9 yp10 yp11 yp12 yp13 ys0 ys1 ys2 ys3 ys4 ys5
  obtain ⟨ya0, ya1, ya2, ya3⟩ := Ba4.out.four
  obtain ⟨yp0, yp1, yp2, yp3, yp4, yp5, yp6, yp7, yp8, yp9, yp10, yp11, yp12, yp13⟩ := Bp4.out.fourteen
  obtain ⟨ys0, ys1, ys2, ys3, ys4, ys5⟩ := Bs4.out.six
  have Ba5 := Blk.up Ba4 (.cells #[.int .i64 cx, .bool nx, .string tx, .int .i64 ex] 23)
  have Bp5 := Blk.up Bp4 (.cells #[.int .i64 cx, .bool nx, .string tx, .int .i64 ex] 23)
  have Bs5 := Blk.up Bs4 (.cells #[.int .i64 cx, .bool nx, .string tx, .int .i64 ex] 23)
  have Bv5 := hide ((Blk.newAt w4 (w4.heap.size) (rfl) #[.int .i64 cx, .bool nx, .string tx, .int .i64 ex] 23))
  have HB5 : Hid (Below w.heap.size w (w4.alloc (.cells #[.int .i64 cx, .bool nx, .string tx, .int .i64 ex] 23))) := (HB4.out.alloc HB4.out.size _)
  clear Ba4 Bp4 Bs4 HB4 ya0 ya1 ya2 ya3 yp0 yp1 yp2 yp3 yp4 yp5 yp6 yp7 yp8 yp9 yp10 yp11 yp12 yp13 ys0 ys1 ys2 ys3 ys4 ys5
  obtain ⟨ya0, ya1, ya2, ya3⟩ := Ba5.out.four
  obtain ⟨yp0, yp1, yp2, yp3, yp4, yp5, yp6, yp7, yp8, yp9, yp10, yp11, yp12, yp13⟩ := Bp5.out.fourteen
  obtain ⟨ys0, ys1, ys2, ys3, ys4, ys5⟩ := Bs5.out.six
  obtain ⟨yv0, yv1, yv2, yv3⟩ := Bv5.out.four
  go_wp2_with fail
  refine (H3.out _ (HT.out.below HB5.out)).mono ?_
  rintro e w6 ⟨rfl, hb⟩
  have Ba6 := Blk.on Ba5 hb
  have Bp6 := Blk.on Bp5 hb
  have Bs6 := Blk.on Bs5 hb
  have Bv6 := Blk.on Bv5 hb
  have HB6 := hide (HB5.out.trans (hb.mono HB5.out.size))
  clear hb Ba5 Bp5 Bs5 Bv5 HB5 ya0 ya1 ya2 ya3 yp0 yp1 yp2 yp3 yp4 yp5 yp6 yp7 yp8 yp9 yp10 yp11 yp12 yp13 ys0 ys1 ys2 ys3 ys4 ys5 yv0 yv1 yv2 yv3
  obtain ⟨ya0, ya1, ya2, ya3⟩ := Ba6.out.four
  obtain ⟨yp0, yp1, yp2, yp3, yp4, yp5, yp6, yp7, yp8, yp9, yp10, yp11, yp12, yp13⟩ := Bp6.out.fourteen
  obtain ⟨ys0, ys1, ys2, ys3, ys4, ys5⟩ := Bs6.out.six
  obtain ⟨yv0, yv1, yv2, yv3⟩ := Bv6.out.four
  have Ba7 := Blk.up Ba6 (.cells #[.int .i64 sc, .bool sn, .string si, .string sf, .int .i64 sx, .bool sm] 36)
  have Bp7 := Blk.up Bp6 (.cells #[.int .i64 sc, .bool sn, .string si, .string sf, .int .i64 sx, .bool sm] 36)
  have Bs7 := Blk.up Bs6 (.cells #[.int .i64 sc, .bool sn, .string si, .string sf, .int .i64 sx, .bool sm] 36)
  have Bv7 := Blk.up Bv6 (.cells #[.int .i64 sc, .bool sn, .string si, .string sf, .int .i64 sx, .bool sm] 36)
  have Bt7 := hide ((Blk.newAt w6 (w6.heap.size) (rfl) #[.int .i64 sc, .bool sn, .string si, .string sf, .int .i64 sx, .bool sm] 36))
  have HB7 : Hid (Below w.heap.size w (w6.alloc (.cells #[.int .i64 sc, .bool sn, .string si, .string sf, .int .i64 sx, .bool sm] 36))) := (HB6.out.alloc HB6.out.size _)
  clear Ba6 Bp6 Bs6 Bv6 HB6 ya0 ya1 ya2 ya3 yp0 yp1 yp2 yp3 yp4 yp5 yp6 yp7 yp8 yp9 yp10 yp11 yp12 yp13 ys0 ys1 ys2 ys3 ys4 ys5 yv0 yv1 yv2 yv3
  obtain ⟨ya0, ya1, ya2, ya3⟩ := Ba7.out.four
  obtain ⟨yp0, yp1, yp2, yp3, yp4, yp5, yp6, yp7, yp8, yp9, yp10, yp11, yp12, yp13⟩ := Bp7.out.fourteen
  obtain ⟨ys0, ys1, ys2, ys3, ys4, ys5⟩ := Bs7.out.six
  obtain ⟨yv0, yv1, yv2, yv3⟩ := Bv7.out.four
  obtain ⟨yt0, yt1, yt2, yt3, yt4, yt5⟩ := Bt7.out.six
  go_wp2
  go_ret
  exact ⟨rfl, HB7.out⟩

theorem wagain_walk (w : World) (htab : Tab w) (ca : Int) (na : Bool) (ta : ByteArray) (ea k mf xf ms xs : Int) (st : Bool) (cs : Int) (ns : Bool) (ts : ByteArray) (es md : Int) (hd : Bool) (im ix : Int) : Calls Tryz.prog 11 #[dcV ca na ta ea, prV k mf xf ms xs st cs ns ts es md hd im ix] w fun e w' => e = .returned (.bool true) ∧ Below w.heap.size w w' := by
  have SA := fun W hW => Show_any ca na ta ea k mf xf ms xs st cs ns ts es md hd im ix W hW
  rcases showP_cases ca na (bys ta) ea ⟨k, mf, xf, ms, xs, st, cs, ns, bys ts, es, md, hd, im, ix⟩ with g | g | g | ⟨r, h, hp, hr, hm, g⟩
  · rw [g] at SA; exact again_51 ca na ta ea k mf xf ms xs st cs ns ts es md hd im ix w htab SA
  · rw [g] at SA; exact again_52 ca na ta ea k mf xf ms xs st cs ns ts es md hd im ix w htab SA
  · rw [g] at SA; exact again_70 ca na ta ea k mf xf ms xs st cs ns ts es md hd im ix w htab SA
  · rw [g] at SA
    by_cases hx : 0 < ix
    · exact again_x ca na ta ea k mf xf ms xs st cs ns ts es md hd im ix _ _ _ _ _ _ w htab SA hx
    · have hx0 : ix = 0 := by have := (mayP_imax hp).2.2.1; simp only at this; omega
      subst hx0
      obtain ⟨hS, hv⟩ := value_shown hp hm rfl
      have hra := round_again hp h hr
      obtain ⟨c, n, l, e⟩ := r
      simp only at hra
      have g2 := showP_in (p := ⟨k, mf, xf, ms, xs, st, cs, ns, bys ts, es, md, hd, im, 0⟩) (show MayD (c : Int) n l e from hm) hp (by rw [hra])
      rw [hra] at g2
      have SB := fun W hW => Show_any (c : Int) n ⟨l.toArray⟩ e k mf xf ms xs st cs ns ts es md hd im 0 W hW
      rw [bys_mk l, g2] at SB
      generalize shownP _ _ = s at SA SB hS hv
      obtain ⟨sc, sn, si, sf, sx, sm⟩ := s
      have VL := fun W hW => Value_any sc sn ⟨si.toArray⟩ ⟨sf.toArray⟩ sx sm W hW
      rw [bys_mk si, bys_mk sf, hv] at VL
      exact again_v ca na ta ea k mf xf ms xs st cs ns ts es md hd im sc sn ⟨si.toArray⟩ ⟨sf.toArray⟩ sx sm _ _ _ _ w htab SA VL SB

end Go.Proofs.YtckijnlolmbdiaaGreatDoor
