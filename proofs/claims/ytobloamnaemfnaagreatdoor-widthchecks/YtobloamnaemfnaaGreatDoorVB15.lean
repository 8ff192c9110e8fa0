/-
  What width.Show does with a precision of kind 4, out of what it calls.
  What width's kinds round to, and how many fraction digits they show at least, out of what they call.
-/
import Derived.Test.YtobloamnaemfnaaGreatDoorVB10
import Derived.Test.YtobloamnaemfnaaGreatDoorVB12
import Derived.Test.YtobloamnaemfnaaGreatDoorVB6
import Derived.Test.YtobloamnaemfnaaGreatDoorVB5
import Derived.Test.YtobloamnaemfnaaGreatDoorVB11
import Derived.Deep.RegionHeld3
namespace Go.Proofs.YtobloamnaemfnaaGreatDoor
open Go.RowKit

end Go.Proofs.YtobloamnaemfnaaGreatDoor

namespace Go.Proofs.YtobloamnaemfnaaGreatDoor
open Go.RowKit

set_option maxHeartbeats 1000000 in
theorem atFrac_g (k mf xf ms xs : Int) (st : Bool) (cs : Int) (ns : Bool) (ts : ByteArray) (es md : Int) (hd : Bool) (im ix ca : Int) (na : Bool) (ta : ByteArray) (ea cx : Int) (nx : Bool) (tx : ByteArray) (ex rx : Int) (w : World) (htab : Tab w) (hC : ∀ W, Tab W → Calls Tryz.prog 123 #[dcV ca na ta ea, .int .i64 (-xf), .int .i64 md] W fun e w' => e = .returned (.tuple #[.agg #[.int .i64 cx, .bool nx, .string tx, .int .i64 ex], .int .i64 rx]) ∧ Below W.heap.size W w') (h1 : 0 ≤ xf) (h2 : xf ≤ 99) : Calls Tryz.prog 78 #[prV k mf xf ms xs st cs ns ts es md hd im ix, dcV ca na ta ea] w fun e w' => e = .returned (.tuple #[.agg #[.int .i64 cx, .bool nx, .string tx, .int .i64 ex], .int .i64 rx]) ∧ Below w.heap.size w w' := by
  have HC := hide hC
  have HT := hide htab
  clear hC htab
  have Bp0 := hide (((Blk.newAt w (w.heap.size) (rfl) #[.int .i64 k, .int .i64 mf, .int .i64 xf, .int .i64 ms, .int .i64 xs, .bool st, .int .i64 cs, .bool ns, .string ts, .int .i64 es, .int .i64 md, .bool hd, .int .i64 im, .int .i64 ix] 61).alloc (.cells #[.int .i64 ca, .bool na, .string ta, .int .i64 ea] 23)).alloc (.cells #[.int .i64 0, .bool false, .string ⟨#[]⟩, .int .i64 0] 23))
  have Ba0 := hide ((Blk.newAt (w.alloc (.cells #[.int .i64 k, .int .i64 mf, .int .i64 xf, .int .i64 ms, .int .i64 xs, .bool st, .int .i64 cs, .bool ns, .string ts, .int .i64 es, .int .i64 md, .bool hd, .int .i64 im, .int .i64 ix] 61)) (w.heap.size + 1) (by simp) #[.int .i64 ca, .bool na, .string ta, .int .i64 ea] 23).alloc (.cells #[.int .i64 0, .bool false, .string ⟨#[]⟩, .int .i64 0] 23))
  have Br0 := hide (Blk.newAt ((w.alloc (.cells #[.int .i64 k, .int .i64 mf, .int .i64 xf, .int .i64 ms, .int .i64 xs, .bool st, .int .i64 cs, .bool ns, .string ts, .int .i64 es, .int .i64 md, .bool hd, .int .i64 im, .int .i64 ix] 61)).alloc (.cells #[.int .i64 ca, .bool na, .string ta, .int .i64 ea] 23)) (w.heap.size + 1 + 1) (by simp) #[.int .i64 0, .bool false, .string ⟨#[]⟩, .int .i64 0] 23)
  have HB0 : Hid (Below w.heap.size w (((w.alloc (.cells #[.int .i64 k, .int .i64 mf, .int .i64 xf, .int .i64 ms, .int .i64 xs, .bool st, .int .i64 cs, .bool ns, .string ts, .int .i64 es, .int .i64 md, .bool hd, .int .i64 im, .int .i64 ix] 61)).alloc (.cells #[.int .i64 ca, .bool na, .string ta, .int .i64 ea] 23)).alloc (.cells #[.int .i64 0, .bool false, .string ⟨#[]⟩, .int .i64 0] 23))) := ((((Below.refl _ _).alloc (Nat.le_refl _) _).alloc (by simp <;> omega) _).alloc (by simp <;> omega) _)
  go_enter Tryz.func78, Tryz.ntmps78
  go_wp2_with fail
  refine (HC.out _ (HT.out.below HB0.out)).mono ?_
  rintro e w1 ⟨rfl, hb⟩
  have Bp1 := Blk.on Bp0 hb
  have Ba1 := Blk.on Ba0 hb
  have Br1 := Blk.on Br0 hb
  have HB1 := hide (HB0.out.trans (hb.mono HB0.out.size))
  clear hb Bp0 Ba0 Br0 HB0 
  obtain ⟨yp0, yp1, yp2, yp3, yp4, yp5, yp6, yp7, yp8, yp9, yp10, yp11, yp12, yp13⟩ := Bp1.out.fourteen
  obtain ⟨ya0, ya1, ya2, ya3⟩ := Ba1.out.four
  obtain ⟨yr0, yr1, yr2, yr3⟩ := Br1.out.four
  have fr0 := Br1.out.free 0
  have fr1 := Br1.out.free 1
  have fr2 := Br1.out.free 2
  have fr3 := Br1.out.free 3
  go_wp2
  refine bodyPost_ret (results_dec2 rfl _ _ _ _ _ _ _ rfl (Br1.out.put4 _ _ _ _)) rfl ?_
  exact ⟨rfl, below_put4 (HB1.out) (by omega) _ _ _ _⟩

set_option maxHeartbeats 1000000 in
theorem minFrac_any (k mf xf ms xs : Int) (st : Bool) (cs : Int) (ns : Bool) (ts : ByteArray) (es md : Int) (hd : Bool) (im ix ca : Int) (na : Bool) (ta : ByteArray) (ea : Int) (w : World) : Calls Tryz.prog 79 #[prV k mf xf ms xs st cs ns ts es md hd im ix, dcV ca na ta ea] w fun e w' => e = .returned (.int .i64 mf) ∧ Below w.heap.size w w' := by
  have Bp0 := hide ((Blk.newAt w (w.heap.size) (rfl) #[.int .i64 k, .int .i64 mf, .int .i64 xf, .int .i64 ms, .int .i64 xs, .bool st, .int .i64 cs, .bool ns, .string ts, .int .i64 es, .int .i64 md, .bool hd, .int .i64 im, .int .i64 ix] 61).alloc (.cells #[.int .i64 ca, .bool na, .string ta, .int .i64 ea] 23))
  have Ba0 := hide (Blk.newAt (w.alloc (.cells #[.int .i64 k, .int .i64 mf, .int .i64 xf, .int .i64 ms, .int .i64 xs, .bool st, .int .i64 cs, .bool ns, .string ts, .int .i64 es, .int .i64 md, .bool hd, .int .i64 im, .int .i64 ix] 61)) (w.heap.size + 1) (by simp) #[.int .i64 ca, .bool na, .string ta, .int .i64 ea] 23)
  have HB0 : Hid (Below w.heap.size w ((w.alloc (.cells #[.int .i64 k, .int .i64 mf, .int .i64 xf, .int .i64 ms, .int .i64 xs, .bool st, .int .i64 cs, .bool ns, .string ts, .int .i64 es, .int .i64 md, .bool hd, .int .i64 im, .int .i64 ix] 61)).alloc (.cells #[.int .i64 ca, .bool na, .string ta, .int .i64 ea] 23))) := (((Below.refl _ _).alloc (Nat.le_refl _) _).alloc (by simp <;> omega) _)
  go_enter Tryz.func79, Tryz.ntmps79
  go_wp2
  go_ret
  exact ⟨rfl, HB0.out⟩

end Go.Proofs.YtobloamnaemfnaaGreatDoor
