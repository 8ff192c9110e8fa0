/-
  What quipulaw07's rounded answers.
  Plain mathematics: the digits that are shown show just the number that was rounded to.
  WidthTrue answers true, whatever it is handed.
  What the rows' list of package variables gives, and a world that holds them.
-/
import Derived.Test.YtckijnlolmbdiaaGreatDoorZB11
import Derived.Test.YtckijnlolmbdiaaGreatDoorZB7
import Derived.Test.YtckijnlolmbdiaaGreatDoorZB12
import Derived.Test.YtckijnlolmbdiaaGreatDoorRows
import Derived.Test.YtckijnlolmbdiaaGreatDoorZB4
import Derived.Lib.LaidTab
import Derived.Deep.DeepHandedRow
namespace Go.Proofs.YtckijnlolmbdiaaGreatDoor
open Go.RowKit

set_option maxHeartbeats 1000000 in
theorem lrnd_0 (ca : Int) (na : Bool) (ta : ByteArray) (ea mf xf ms xs : Int) (st : Bool) (cs : Int) (ns : Bool) (ts : ByteArray) (es md : Int) (hd : Bool) (im ix : Int) (w : World) : Calls Tryz.prog 26 #[dcV ca na ta ea, prV 0 mf xf ms xs st cs ns ts es md hd im ix] w fun e w' => e = .returned (.tuple #[dcV ca na ta ea, .int .i64 0]) ∧ Below w.heap.size w w' := by
  have Ba0 := hide (((Blk.newAt w (w.heap.size) (rfl) #[.int .i64 ca, .bool na, .string ta, .int .i64 ea] 23).alloc (.cells #[.int .i64 0, .int .i64 mf, .int .i64 xf, .int .i64 ms, .int .i64 xs, .bool st, .int .i64 cs, .bool ns, .string ts, .int .i64 es, .int .i64 md, .bool hd, .int .i64 im, .int .i64 ix] 32)).alloc (.cells #[.int .i64 0, .bool false, .string ⟨#[]⟩, .int .i64 0] 23))
  have Bp0 := hide ((Blk.newAt (w.alloc (.cells #[.int .i64 ca, .bool na, .string ta, .int .i64 ea] 23)) (w.heap.size + 1) (by simp) #[.int .i64 0, .int .i64 mf, .int .i64 xf, .int .i64 ms, .int .i64 xs, .bool st, .int .i64 cs, .bool ns, .string ts, .int .i64 es, .int .i64 md, .bool hd, .int .i64 im, .int .i64 ix] 32).alloc (.cells #[.int .i64 0, .bool false, .string ⟨#[]⟩, .int .i64 0] 23))
  have Br0 := hide (Blk.newAt ((w.alloc (.cells #[.int .i64 ca, .bool na, .string ta, .int .i64 ea] 23)).alloc (.cells #[.int .i64 0, .int .i64 mf, .int .i64 xf, .int .i64 ms, .int .i64 xs, .bool st, .int .i64 cs, .bool ns, .string ts, .int .i64 es, .int .i64 md, .bool hd, .int .i64 im, .int .i64 ix] 32)) (w.heap.size + 1 + 1) (by simp) #[.int .i64 0, .bool false, .string ⟨#[]⟩, .int .i64 0] 23)
  have HB0 : Hid (Below w.heap.size w (((w.alloc (.cells #[.int .i64 ca, .bool na, .string ta, .int .i64 ea] 23)).alloc (.cells #[.int .i64 0, .int .i64 mf, .int .i64 xf, .int .i64 ms, .int .i64 xs, .bool st, .int .i64 cs, .bool ns, .string ts, .int .i64 es, .int .i64 md, .bool hd, .int .i64 im, .int .i64 ix] 32)).alloc (.cells #[.int .i64 0, .bool false, .string ⟨#[]⟩, .int .i64 0] 23))) := ((((Below.refl _ _).alloc (Nat.le_refl _) _).alloc (by simp <;> omega) _).alloc (by simp <;> omega) _)
  go_enter Tryz.func26, Tryz.ntmps26
  go_wp2
  refine bodyPost_ret (results_dec2 rfl _ _ _ _ _ _ _ rfl (Blk.newAt _ (w.heap.size + 1 + 1) (by simp) _ _)) rfl ?_
  exact ⟨rfl, (((Below.refl _ _).alloc (Nat.le_refl _) _).alloc (by simp) _).alloc (by simp; omega) _⟩

set_option maxHeartbeats 1000000 in
theorem lrnd_1 (ca : Int) (na : Bool) (ta : ByteArray) (ea mf xf ms xs : Int) (st : Bool) (cs : Int) (ns : Bool) (ts : ByteArray) (es md : Int) (hd : Bool) (im ix cx : Int) (nx : Bool) (tx : ByteArray) (ex rx : Int) (w : World) (htab : Tab w) (hC : ∀ W, Tab W → Calls Tryz.prog 16 #[dcV ca na ta ea, .int .i64 (-xf), .int .i64 md] W fun e w' => e = .returned (.tuple #[.agg #[.int .i64 cx, .bool nx, .string tx, .int .i64 ex], .int .i64 rx]) ∧ Below W.heap.size W w') (h1 : 0 ≤ xf) (h2 : xf ≤ 99) : Calls Tryz.prog 26 #[dcV ca na ta ea, prV 1 mf xf ms xs st cs ns ts es md hd im ix] w fun e w' => e = .returned (.tuple #[.agg #[.int .i64 cx, .bool nx, .string tx, .int .i64 ex], .int .i64 rx]) ∧ Below w.heap.size w w' := by
  have HC := hide hC
  have HT := hide htab
  clear hC htab
  have Ba0 := hide (((Blk.newAt w (w.heap.size) (rfl) #[.int .i64 ca, .bool na, .string ta, .int .i64 ea] 23).alloc (.cells #[.int .i64 1, .int .i64 mf, .int .i64 xf, .int .i64 ms, .int .i64 xs, .bool st, .int .i64 cs, .bool ns, .string ts, .int .i64 es, .int .i64 md, .bool hd, .int .i64 im, .int .i64 ix] 32)).alloc (.cells #[.int .i64 0, .bool false, .string ⟨#[]⟩, .int .i64 0] 23))
  have Bp0 := hide ((Blk.newAt (w.alloc (.cells #[.int .i64 ca, .bool na, .string ta, .int .i64 ea] 23)) (w.heap.size + 1) (by simp) #[.int .i64 1, .int .i64 mf, .int .i64 xf, .int .i64 ms, .int .i64 xs, .bool st, .int .i64 cs, .bool ns, .string ts, .int .i64 es, .int .i64 md, .bool hd, .int .i64 im, .int .i64 ix] 32).alloc (.cells #[.int .i64 0, .bool false, .string ⟨#[]⟩, .int .i64 0] 23))
  have Br0 := hide (Blk.newAt ((w.alloc (.cells #[.int .i64 ca, .bool na, .string ta, .int .i64 ea] 23)).alloc (.cells #[.int .i64 1, .int .i64 mf, .int .i64 xf, .int .i64 ms, .int .i64 xs, .bool st, .int .i64 cs, .bool ns, .string ts, .int .i64 es, .int .i64 md, .bool hd, .int .i64 im, .int .i64 ix] 32)) (w.heap.size + 1 + 1) (by simp) #[.int .i64 0, .bool false, .string ⟨#[]⟩, .int .i64 0] 23)
  have HB0 : Hid (Below w.heap.size w (((w.alloc (.cells #[.int .i64 ca, .bool na, .string ta, .int .i64 ea] 23)).alloc (.cells #[.int .i64 1, .int .i64 mf, .int .i64 xf, .int .i64 ms, .int .i64 xs, .bool st, .int .i64 cs, .bool ns, .string ts, .int .i64 es, .int .i64 md, .bool hd, .int .i64 im, .int .i64 ix] 32)).alloc (.cells #[.int .i64 0, .bool false, .string ⟨#[]⟩, .int .i64 0] 23))) := ((((Below.refl _ _).alloc (Nat.le_refl _) _).alloc (by simp <;> omega) _).alloc (by simp <;> omega) _)
  go_enter Tryz.func26, Tryz.ntmps26
  go_wp2_with fail
  refine (HC.out _ (HT.out.below HB0.out)).mono ?_
  rintro e w1 ⟨rfl, hb⟩
  have Ba1 := Blk.on Ba0 hb
  have Bp1 := Blk.on Bp0 hb
  have Br1 := Blk.on Br0 hb
  have HB1 := hide (HB0.out.trans (hb.mono HB0.out.size))
  clear hb Ba0 Bp0 Br0 HB0 
  obtain ⟨ya0, ya1, ya2, ya3⟩ := Ba1.out.four
  obtain ⟨yp0, yp1, yp2, yp3, yp4, yp5, yp6, yp7, yp8, yp9, yp10, yp11, yp12, yp13⟩ := Bp1.out.fourteen
  obtain ⟨yr0, yr1, yr2, yr3⟩ := Br1.out.four
  have fr0 := Br1.out.free 0
  have fr1 := Br1.out.free 1
  have fr2 := Br1.out.free 2
  have fr3 := Br1.out.free 3
  go_wp2
  refine bodyPost_ret (results_dec2 rfl _ _ _ _ _ _ _ rfl (Br1.out.put4 _ _ _ _)) rfl ?_
  exact ⟨rfl, below_put4 (HB1.out) (by omega) _ _ _ _⟩

set_option maxHeartbeats 1000000 in
theorem lrnd_2 (ca : Int) (na : Bool) (ta : ByteArray) (ea mf xf ms xs : Int) (st : Bool) (cs : Int) (ns : Bool) (ts : ByteArray) (es md : Int) (hd : Bool) (im ix cx : Int) (nx : Bool) (tx : ByteArray) (ex rx : Int) (w : World) (htab : Tab w) (hC : ∀ W, Tab W → Calls Tryz.prog 50 #[dcV ca na ta ea, .int .i64 xs, .int .i64 md] W fun e w' => e = .returned (.tuple #[.agg #[.int .i64 cx, .bool nx, .string tx, .int .i64 ex], .int .i64 rx]) ∧ Below W.heap.size W w')  : Calls Tryz.prog 26 #[dcV ca na ta ea, prV 2 mf xf ms xs st cs ns ts es md hd im ix] w fun e w' => e = .returned (.tuple #[.agg #[.int .i64 cx, .bool nx, .string tx, .int .i64 ex], .int .i64 rx]) ∧ Below w.heap.size w w' := by
  have HC := hide hC
  have HT := hide htab
  clear hC htab
  have Ba0 := hide (((Blk.newAt w (w.heap.size) (rfl) #[.int .i64 ca, .bool na, .string ta, .int .i64 ea] 23).alloc (.cells #[.int .i64 2, .int .i64 mf, .int .i64 xf, .int .i64 ms, .int .i64 xs, .bool st, .int .i64 cs, .bool ns, .string ts, .int .i64 es, .int .i64 md, .bool hd, .int .i64 im, .int .i64 ix] 32)).alloc (.cells #[.int .i64 0, .bool false, .string ⟨#[]⟩, .int .i64 0] 23))
  have Bp0 := hide ((Blk.newAt (w.alloc (.cells #[.int .i64 ca, .bool na, .string ta, .int .i64 ea] 23)) (w.heap.size + 1) (by simp) #[.int .i64 2, .int .i64 mf, .int .i64 xf, .int .i64 ms, .int .i64 xs, .bool st, .int .i64 cs, .bool ns, .string ts, .int .i64 es, .int .i64 md, .bool hd, .int .i64 im, .int .i64 ix] 32).alloc (.cells #[.int .i64 0, .bool false, .string ⟨#[]⟩, .int .i64 0] 23))
  have Br0 := hide (Blk.newAt ((w.alloc (.cells #[.int .i64 ca, .bool na, .string ta, .int .i64 ea] 23)).alloc (.cells #[.int .i64 2, .int .i64 mf, .int .i64 xf, .int .i64 ms, .int .i64 xs, .bool st, .int .i64 cs, .bool ns, .string ts, .int .i64 es, .int .i64 md, .bool hd, .int .i64 im, .int .i64 ix] 32)) (w.heap.size + 1 + 1) (by simp) #[.int .i64 0, .bool false, .string ⟨#[]⟩, .int .i64 0] 23)
  have HB0 : Hid (Below w.heap.size w (((w.alloc (.cells #[.int .i64 ca, .bool na, .string ta, .int .i64 ea] 23)).alloc (.cells #[.int .i64 2, .int .i64 mf, .int .i64 xf, .int .i64 ms, .int .i64 xs, .bool st, .int .i64 cs, .bool ns, .string ts, .int .i64 es, .int .i64 md, .bool hd, .int .i64 im, .int .i64 ix] 32)).alloc (.cells #[.int .i64 0, .bool false, .string ⟨#[]⟩, .int .i64 0] 23))) := ((((Below.refl _ _).alloc (Nat.le_refl _) _).alloc (by simp <;> omega) _).alloc (by simp <;> omega) _)
  go_enter Tryz.func26, Tryz.ntmps26
  go_wp2_with fail
  refine (HC.out _ (HT.out.below HB0.out)).mono ?_
  rintro e w1 ⟨rfl, hb⟩
  have Ba1 := Blk.on Ba0 hb
  have Bp1 := Blk.on Bp0 hb
  have Br1 := Blk.on Br0 hb
  have HB1 := hide (HB0.out.trans (hb.mono HB0.out.size))
  clear hb Ba0 Bp0 Br0 HB0 
  obtain ⟨ya0, ya1, ya2, ya3⟩ := Ba1.out.four
  obtain ⟨yp0, yp1, yp2, yp3, yp4, yp5, yp6, yp7, yp8, yp9, yp10, yp11, yp12, yp13⟩ := Bp1.out.fourteen
  obtain ⟨yr0, yr1, yr2, yr3⟩ := Br1.out.four
  have fr0 := Br1.out.free 0
  have fr1 := Br1.out.free 1
  have fr2 := Br1.out.free 2
  have fr3 := Br1.out.free 3
  go_wp2
  refine bodyPost_ret (results_dec2 rfl _ _ _ _ _ _ _ rfl (Br1.out.put4 _ _ _ _)) rfl ?_
  exact ⟨rfl, below_put4 (HB1.out) (by omega) _ _ _ _⟩

set_option maxHeartbeats 1000000 in
theorem lrnd_4 (ca : Int) (na : Bool) (ta : ByteArray) (ea mf xf ms xs : Int) (st : Bool) (cs : Int) (ns : Bool) (ts : ByteArray) (es md : Int) (hd : Bool) (im ix cx : Int) (nx : Bool) (tx : ByteArray) (ex rx : Int) (w : World) (htab : Tab w) (hC : ∀ W, Tab W → Calls Tryz.prog 51 #[dcV ca na ta ea, dcV cs ns ts es, .int .i64 md] W fun e w' => e = .returned (.tuple #[.agg #[.int .i64 cx, .bool nx, .string tx, .int .i64 ex], .int .i64 rx]) ∧ Below W.heap.size W w')  : Calls Tryz.prog 26 #[dcV ca na ta ea, prV 4 mf xf ms xs st cs ns ts es md hd im ix] w fun e w' => e = .returned (.tuple #[.agg #[.int .i64 cx, .bool nx, .string tx, .int .i64 ex], .int .i64 rx]) ∧ Below w.heap.size w w' := by
  have HC := hide hC
  have HT := hide htab
  clear hC htab
  have Ba0 := hide (((Blk.newAt w (w.heap.size) (rfl) #[.int .i64 ca, .bool na, .string ta, .int .i64 ea] 23).alloc (.cells #[.int .i64 4, .int .i64 mf, .int .i64 xf, .int .i64 ms, .int .i64 xs, .bool st, .int .i64 cs, .bool ns, .string ts, .int .i64 es, .int .i64 md, .bool hd, .int .i64 im, .int .i64 ix] 32)).alloc (.cells #[.int .i64 0, .bool false, .string ⟨#[]⟩, .int .i64 0] 23))
  have Bp0 := hide ((Blk.newAt (w.alloc (.cells #[.int .i64 ca, .bool na, .string ta, .int .i64 ea] 23)) (w.heap.size + 1) (by simp) #[.int .i64 4, .int .i64 mf, .int .i64 xf, .int .i64 ms, .int .i64 xs, .bool st, .int .i64 cs, .bool ns, .string ts, .int .i64 es, .int .i64 md, .bool hd, .int .i64 im, .int .i64 ix] 32).alloc (.cells #[.int .i64 0, .bool false, .string ⟨#[]⟩, .int .i64 0] 23))
  have Br0 := hide (Blk.newAt ((w.alloc (.cells #[.int .i64 ca, .bool na, .string ta, .int .i64 ea] 23)).alloc (.cells #[.int .i64 4, .int .i64 mf, .int .i64 xf, .int .i64 ms, .int .i64 xs, .bool st, .int .i64 cs, .bool ns, .string ts, .int .i64 es, .int .i64 md, .bool hd, .int .i64 im, .int .i64 ix] 32)) (w.heap.size + 1 + 1) (by simp) #[.int .i64 0, .bool false, .string ⟨#[]⟩, .int .i64 0] 23)
  have HB0 : Hid (Below w.heap.size w (((w.alloc (.cells #[.int .i64 ca, .bool na, .string ta, .int .i64 ea] 23)).alloc (.cells #[.int .i64 4, .int .i64 mf, .int .i64 xf, .int .i64 ms, .int .i64 xs, .bool st, .int .i64 cs, .bool ns, .string ts, .int .i64 es, .int .i64 md, .bool hd, .int .i64 im, .int .i64 ix] 32)).alloc (.cells #[.int .i64 0, .bool false, .string ⟨#[]⟩, .int .i64 0] 23))) := ((((Below.refl _ _).alloc (Nat.le_refl _) _).alloc (by simp <;> omega) _).alloc (by simp <;> omega) _)
  go_enter Tryz.func26, Tryz.ntmps26
  go_wp2_with fail
  refine (HC.out _ (HT.out.below HB0.out)).mono ?_
  rintro e w1 ⟨rfl, hb⟩
  have Ba1 := Blk.on Ba0 hb
  have Bp1 := Blk.on Bp0 hb
  have Br1 := Blk.on Br0 hb
  have HB1 := hide (HB0.out.trans (hb.mono HB0.out.size))
  clear hb Ba0 Bp0 Br0 HB0 
  obtain ⟨ya0, ya1, ya2, ya3⟩ := Ba1.out.four
  obtain ⟨yp0, yp1, yp2, yp3, yp4, yp5, yp6, yp7, yp8, yp9, yp10, yp11, yp12, yp13⟩ := Bp1.out.fourteen
  obtain ⟨yr0, yr1, yr2, yr3⟩ := Br1.out.four
  have fr0 := Br1.out.free 0
  have fr1 := Br1.out.free 1
  have fr2 := Br1.out.free 2
  have fr3 := Br1.out.free 3
  go_wp2
  refine bodyPost_ret (results_dec2 rfl _ _ _ _ _ _ _ rfl (Br1.out.put4 _ _ _ _)) rfl ?_
  exact ⟨rfl, below_put4 (HB1.out) (by omega) _ _ _ _⟩

set_option maxHeartbeats 2000000 in
theorem lrnd_3tl (ca : Int) (na : Bool) (ta : ByteArray) (ea mf xf ms xs cs : Int) (ns : Bool) (ts : ByteArray) (es md : Int) (hd : Bool) (im ix pl cx : Int) (nx : Bool) (tx : ByteArray) (ex rx : Int) (w : World) (htab : Tab w) (hP : ∀ W, Calls Tryz.prog 39 #[dcV ca na ta ea] W fun e w' => e = .returned (.int .i64 pl) ∧ Below W.heap.size W w') (hC : ∀ W, Tab W → Calls Tryz.prog 16 #[dcV ca na ta ea, .int .i64 (pl - xs), .int .i64 md] W fun e w' => e = .returned (.tuple #[.agg #[.int .i64 cx, .bool nx, .string tx, .int .i64 ex], .int .i64 rx]) ∧ Below W.heap.size W w') (h1 : 0 ≤ xf) (h2 : xf ≤ 99) (h3 : -10000 ≤ pl) (h4 : pl ≤ 10000) (h5 : 0 ≤ xs) (h6 : xs ≤ 99) (hl : -xf < pl - xs) : Calls Tryz.prog 26 #[dcV ca na ta ea, prV 3 mf xf ms xs true cs ns ts es md hd im ix] w fun e w' => e = .returned (.tuple #[.agg #[.int .i64 cx, .bool nx, .string tx, .int .i64 ex], .int .i64 rx]) ∧ Below w.heap.size w w' := by
  have HC := hide hC
  have HP := hide hP
  have HT := hide htab
  have hw1 : IntKind.i64.wrap (-xf) = -xf := by rw [IntKind.wrap_i64]; omega
  have hw2 : IntKind.i64.wrap (pl - xs) = pl - xs := by rw [IntKind.wrap_i64]; omega
  have hdl : decide (-xf < pl - xs) = true := decide_eq_true (by omega)
  clear hC hP htab h1 h2 h3 h4 h5 h6
  have Ba0 := hide (((Blk.newAt w (w.heap.size) (rfl) #[.int .i64 ca, .bool na, .string ta, .int .i64 ea] 23).alloc (.cells #[.int .i64 3, .int .i64 mf, .int .i64 xf, .int .i64 ms, .int .i64 xs, .bool true, .int .i64 cs, .bool ns, .string ts, .int .i64 es, .int .i64 md, .bool hd, .int .i64 im, .int .i64 ix] 32)).alloc (.cells #[.int .i64 0, .bool false, .string ⟨#[]⟩, .int .i64 0] 23))
  have Bp0 := hide ((Blk.newAt (w.alloc (.cells #[.int .i64 ca, .bool na, .string ta, .int .i64 ea] 23)) (w.heap.size + 1) (by simp) #[.int .i64 3, .int .i64 mf, .int .i64 xf, .int .i64 ms, .int .i64 xs, .bool true, .int .i64 cs, .bool ns, .string ts, .int .i64 es, .int .i64 md, .bool hd, .int .i64 im, .int .i64 ix] 32).alloc (.cells #[.int .i64 0, .bool false, .string ⟨#[]⟩, .int .i64 0] 23))
  have Br0 := hide (Blk.newAt ((w.alloc (.cells #[.int .i64 ca, .bool na, .string ta, .int .i64 ea] 23)).alloc (.cells #[.int .i64 3, .int .i64 mf, .int .i64 xf, .int .i64 ms, .int .i64 xs, .bool true, .int .i64 cs, .bool ns, .string ts, .int .i64 es, .int .i64 md, .bool hd, .int .i64 im, .int .i64 ix] 32)) (w.heap.size + 1 + 1) (by simp) #[.int .i64 0, .bool false, .string ⟨#[]⟩, .int .i64 0] 23)
  have HB0 : Hid (Below w.heap.size w (((w.alloc (.cells #[.int .i64 ca, .bool na, .string ta, .int .i64 ea] 23)).alloc (.cells #[.int .i64 3, .int .i64 mf, .int .i64 xf, .int .i64 ms, .int .i64 xs, .bool true, .int .i64 cs, .bool ns, .string ts, .int .i64 es, .int .i64 md, .bool hd, .int .i64 im, .int .i64 ix] 32)).alloc (.cells #[.int .i64 0, .bool false, .string ⟨#[]⟩, .int .i64 0] 23))) := ((((Below.refl _ _).alloc (Nat.le_refl _) _).alloc (by simp <;> omega) _).alloc (by simp <;> omega) _)
  obtain ⟨W, hW⟩ : ∃ W, W = (((w.alloc (.cells #[.int .i64 ca, .bool na, .string ta, .int .i64 ea] 23)).alloc (.cells #[.int .i64 3, .int .i64 mf, .int .i64 xf, .int .i64 ms, .int .i64 xs, .bool true, .int .i64 cs, .bool ns, .string ts, .int .i64 es, .int .i64 md, .bool hd, .int .i64 im, .int .i64 ix] 32)).alloc (.cells #[.int .i64 0, .bool false, .string ⟨#[]⟩, .int .i64 0] 23)) := ⟨_, rfl⟩
  rw [← hW] at HB0 Ba0 Bp0 Br0 
  have HW := hide hW
  clear hW
  obtain ⟨ya0, ya1, ya2, ya3⟩ := Ba0.out.four
  obtain ⟨yp0, yp1, yp2, yp3, yp4, yp5, yp6, yp7, yp8, yp9, yp10, yp11, yp12, yp13⟩ := Bp0.out.fourteen
  obtain ⟨yr0, yr1, yr2, yr3⟩ := Br0.out.four
  go_enter Tryz.func26, Tryz.ntmps26
  have b0 : Hid (Below W.heap.size W W.drew) := bdrewD W
  have C0 : Hid (∀ X, Hid (Below W.heap.size W X) → Calls Tryz.prog 39 #[dcV ca na ta ea] X fun e w' => e = .returned (.int .i64 pl) ∧ Hid (Below W.heap.size W w') ∧ w'.cell? ⟨w.heap.size, 0, none⟩ = some (.int .i64 ca) ∧ w'.cell? ⟨w.heap.size, 1, none⟩ = some (.bool na) ∧ w'.cell? ⟨w.heap.size, 2, none⟩ = some (.string ta) ∧ w'.cell? ⟨w.heap.size, 3, none⟩ = some (.int .i64 ea) ∧ w'.cell? ⟨w.heap.size + 1, 2, none⟩ = some (.int .i64 xf) ∧ w'.cell? ⟨w.heap.size + 1, 4, none⟩ = some (.int .i64 xs)) := by
    intro X bX
    refine (HP.out X).mono ?_
    rintro e w' ⟨rfl, hb⟩
    have bb := bX.out.trans (hb.mono bX.out.size)
    have Baq := Ba0.out.below bb Ba0.out.lt
    have Bpq := Bp0.out.below bb Bp0.out.lt
    exact ⟨rfl, bb, Baq.cell 0, Baq.cell 1, Baq.cell 2, Baq.cell 3, Bpq.cell 2, Bpq.cell 4⟩
  go_wp2_with fail
  simp only [← HW.out]
  have mk0 : True := trivial
  go_region_held3 (fun w' => w'.cell? ⟨w.heap.size, 0, none⟩ = some (.int .i64 ca) ∧ w'.cell? ⟨w.heap.size, 1, none⟩ = some (.bool na) ∧ w'.cell? ⟨w.heap.size, 2, none⟩ = some (.string ta) ∧ w'.cell? ⟨w.heap.size, 3, none⟩ = some (.int .i64 ea) ∧ w'.cell? ⟨w.heap.size + 1, 2, none⟩ = some (.int .i64 xf) ∧ w'.cell? ⟨w.heap.size + 1, 4, none⟩ = some (.int .i64 xs)) (go_keep) (first
    | (clear mk0; go_at_call 39; refine (C0.out _ b0).mono ?_; rintro e w1 ⟨rfl, b1, q0_0, q0_1, q0_2, q0_3, q0_4, q0_5⟩; have mk1 : True := trivial))
  have Ba1 := hide (Ba0.out.below b1.out Ba0.out.lt)
  have Bp1 := hide (Bp0.out.below b1.out Bp0.out.lt)
  have Br1 := hide (Br0.out.below b1.out Br0.out.lt)
  have HB1 := hide (HB0.out.trans (b1.out.mono HB0.out.size))
  clear mk1 b0 b1 C0 q0_0 q0_1 q0_2 q0_3 q0_4 q0_5 Ba0 Bp0 Br0 HB0 ya0 ya1 ya2 ya3 yp0 yp1 yp2 yp3 yp4 yp5 yp6 yp7 yp8 yp9 yp10 yp11 yp12 yp13 yr0 yr1 yr2 yr3
  obtain ⟨ya0, ya1, ya2, ya3⟩ := Ba1.out.four
  obtain ⟨yp0, yp1, yp2, yp3, yp4, yp5, yp6, yp7, yp8, yp9, yp10, yp11, yp12, yp13⟩ := Bp1.out.fourteen
  obtain ⟨yr0, yr1, yr2, yr3⟩ := Br1.out.four
  go_wp2_with fail
  refine (HC.out _ (HT.out.below HB1.out)).mono ?_
  rintro e w2 ⟨rfl, hb⟩
  have Ba2 := Blk.on Ba1 hb
  have Bp2 := Blk.on Bp1 hb
  have Br2 := Blk.on Br1 hb
  have HB2 := hide (HB1.out.trans (hb.mono HB1.out.size))
  clear hb Ba1 Bp1 Br1 HB1 ya0 ya1 ya2 ya3 yp0 yp1 yp2 yp3 yp4 yp5 yp6 yp7 yp8 yp9 yp10 yp11 yp12 yp13 yr0 yr1 yr2 yr3
  obtain ⟨ya0, ya1, ya2, ya3⟩ := Ba2.out.four
  obtain ⟨yp0, yp1, yp2, yp3, yp4, yp5, yp6, yp7, yp8, yp9, yp10, yp11, yp12, yp13⟩ := Bp2.out.fourteen
  obtain ⟨yr0, yr1, yr2, yr3⟩ := Br2.out.four
  have fr0 := Br2.out.free 0
  have fr1 := Br2.out.free 1
  have fr2 := Br2.out.free 2
  have fr3 := Br2.out.free 3
  go_wp2
  refine bodyPost_ret (results_dec2 rfl _ _ _ _ _ _ _ rfl (Br2.out.put4 _ _ _ _)) rfl ?_
  exact ⟨rfl, below_put4 (HB2.out) (by omega) _ _ _ _⟩

set_option maxHeartbeats 2000000 in
theorem lrnd_3tn (ca : Int) (na : Bool) (ta : ByteArray) (ea mf xf ms xs cs : Int) (ns : Bool) (ts : ByteArray) (es md : Int) (hd : Bool) (im ix pl cx : Int) (nx : Bool) (tx : ByteArray) (ex rx : Int) (w : World) (htab : Tab w) (hP : ∀ W, Calls Tryz.prog 39 #[dcV ca na ta ea] W fun e w' => e = .returned (.int .i64 pl) ∧ Below W.heap.size W w') (hC : ∀ W, Tab W → Calls Tryz.prog 16 #[dcV ca na ta ea, .int .i64 (-xf), .int .i64 md] W fun e w' => e = .returned (.tuple #[.agg #[.int .i64 cx, .bool nx, .string tx, .int .i64 ex], .int .i64 rx]) ∧ Below W.heap.size W w') (h1 : 0 ≤ xf) (h2 : xf ≤ 99) (h3 : -10000 ≤ pl) (h4 : pl ≤ 10000) (h5 : 0 ≤ xs) (h6 : xs ≤ 99) (hl : ¬ -xf < pl - xs) : Calls Tryz.prog 26 #[dcV ca na ta ea, prV 3 mf xf ms xs true cs ns ts es md hd im ix] w fun e w' => e = .returned (.tuple #[.agg #[.int .i64 cx, .bool nx, .string tx, .int .i64 ex], .int .i64 rx]) ∧ Below w.heap.size w w' := by
  have HC := hide hC
  have HP := hide hP
  have HT := hide htab
  have hw1 : IntKind.i64.wrap (-xf) = -xf := by rw [IntKind.wrap_i64]; omega
  have hw2 : IntKind.i64.wrap (pl - xs) = pl - xs := by rw [IntKind.wrap_i64]; omega
  have hdl : decide (-xf < pl - xs) = false := decide_eq_false (by omega)
  clear hC hP htab h1 h2 h3 h4 h5 h6 hl
  have Ba0 := hide (((Blk.newAt w (w.heap.size) (rfl) #[.int .i64 ca, .bool na, .string ta, .int .i64 ea] 23).alloc (.cells #[.int .i64 3, .int .i64 mf, .int .i64 xf, .int .i64 ms, .int .i64 xs, .bool true, .int .i64 cs, .bool ns, .string ts, .int .i64 es, .int .i64 md, .bool hd, .int .i64 im, .int .i64 ix] 32)).alloc (.cells #[.int .i64 0, .bool false, .string ⟨#[]⟩, .int .i64 0] 23))
  have Bp0 := hide ((Blk.newAt (w.alloc (.cells #[.int .i64 ca, .bool na, .string ta, .int .i64 ea] 23)) (w.heap.size + 1) (by simp) #[.int .i64 3, .int .i64 mf, .int .i64 xf, .int .i64 ms, .int .i64 xs, .bool true, .int .i64 cs, .bool ns, .string ts, .int .i64 es, .int .i64 md, .bool hd, .int .i64 im, .int .i64 ix] 32).alloc (.cells #[.int .i64 0, .bool false, .string ⟨#[]⟩, .int .i64 0] 23))
  have Br0 := hide (Blk.newAt ((w.alloc (.cells #[.int .i64 ca, .bool na, .string ta, .int .i64 ea] 23)).alloc (.cells #[.int .i64 3, .int .i64 mf, .int .i64 xf, .int .i64 ms, .int .i64 xs, .bool true, .int .i64 cs, .bool ns, .string ts, .int .i64 es, .int .i64 md, .bool hd, .int .i64 im, .int .i64 ix] 32)) (w.heap.size + 1 + 1) (by simp) #[.int .i64 0, .bool false, .string ⟨#[]⟩, .int .i64 0] 23)
  have HB0 : Hid (Below w.heap.size w (((w.alloc (.cells #[.int .i64 ca, .bool na, .string ta, .int .i64 ea] 23)).alloc (.cells #[.int .i64 3, .int .i64 mf, .int .i64 xf, .int .i64 ms, .int .i64 xs, .bool true, .int .i64 cs, .bool ns, .string ts, .int .i64 es, .int .i64 md, .bool hd, .int .i64 im, .int .i64 ix] 32)).alloc (.cells #[.int .i64 0, .bool false, .string ⟨#[]⟩, .int .i64 0] 23))) := ((((Below.refl _ _).alloc (Nat.le_refl _) _).alloc (by simp <;> omega) _).alloc (by simp <;> omega) _)
  obtain ⟨W, hW⟩ : ∃ W, W = (((w.alloc (.cells #[.int .i64 ca, .bool na, .string ta, .int .i64 ea] 23)).alloc (.cells #[.int .i64 3, .int .i64 mf, .int .i64 xf, .int .i64 ms, .int .i64 xs, .bool true, .int .i64 cs, .bool ns, .string ts, .int .i64 es, .int .i64 md, .bool hd, .int .i64 im, .int .i64 ix] 32)).alloc (.cells #[.int .i64 0, .bool false, .string ⟨#[]⟩, .int .i64 0] 23)) := ⟨_, rfl⟩
  rw [← hW] at HB0 Ba0 Bp0 Br0 
  have HW := hide hW
  clear hW
  obtain ⟨ya0, ya1, ya2, ya3⟩ := Ba0.out.four
  obtain ⟨yp0, yp1, yp2, yp3, yp4, yp5, yp6, yp7, yp8, yp9, yp10, yp11, yp12, yp13⟩ := Bp0.out.fourteen
  obtain ⟨yr0, yr1, yr2, yr3⟩ := Br0.out.four
  go_enter Tryz.func26, Tryz.ntmps26
  have b0 : Hid (Below W.heap.size W W.drew) := bdrewD W
  have C0 : Hid (∀ X, Hid (Below W.heap.size W X) → Calls Tryz.prog 39 #[dcV ca na ta ea] X fun e w' => e = .returned (.int .i64 pl) ∧ Hid (Below W.heap.size W w') ∧ w'.cell? ⟨w.heap.size, 0, none⟩ = some (.int .i64 ca) ∧ w'.cell? ⟨w.heap.size, 1, none⟩ = some (.bool na) ∧ w'.cell? ⟨w.heap.size, 2, none⟩ = some (.string ta) ∧ w'.cell? ⟨w.heap.size, 3, none⟩ = some (.int .i64 ea) ∧ w'.cell? ⟨w.heap.size + 1, 2, none⟩ = some (.int .i64 xf) ∧ w'.cell? ⟨w.heap.size + 1, 4, none⟩ = some (.int .i64 xs)) := by
    intro X bX
    refine (HP.out X).mono ?_
    rintro e w' ⟨rfl, hb⟩
    have bb := bX.out.trans (hb.mono bX.out.size)
    have Baq := Ba0.out.below bb Ba0.out.lt
    have Bpq := Bp0.out.below bb Bp0.out.lt
    exact ⟨rfl, bb, Baq.cell 0, Baq.cell 1, Baq.cell 2, Baq.cell 3, Bpq.cell 2, Bpq.cell 4⟩
  go_wp2_with fail
  simp only [← HW.out]
  have mk0 : True := trivial
  go_region_held3 (fun w' => w'.cell? ⟨w.heap.size, 0, none⟩ = some (.int .i64 ca) ∧ w'.cell? ⟨w.heap.size, 1, none⟩ = some (.bool na) ∧ w'.cell? ⟨w.heap.size, 2, none⟩ = some (.string ta) ∧ w'.cell? ⟨w.heap.size, 3, none⟩ = some (.int .i64 ea) ∧ w'.cell? ⟨w.heap.size + 1, 2, none⟩ = some (.int .i64 xf) ∧ w'.cell? ⟨w.heap.size + 1, 4, none⟩ = some (.int .i64 xs)) (go_keep) (first
    | (clear mk0; go_at_call 39; refine (C0.out _ b0).mono ?_; rintro e w1 ⟨rfl, b1, q0_0, q0_1, q0_2, q0_3, q0_4, q0_5⟩; have mk1 : True := trivial))
  have Ba1 := hide (Ba0.out.below b1.out Ba0.out.lt)
  have Bp1 := hide (Bp0.out.below b1.out Bp0.out.lt)
  have Br1 := hide (Br0.out.below b1.out Br0.out.lt)
  have HB1 := hide (HB0.out.trans (b1.out.mono HB0.out.size))
  clear mk1 b0 b1 C0 q0_0 q0_1 q0_2 q0_3 q0_4 q0_5 Ba0 Bp0 Br0 HB0 ya0 ya1 ya2 ya3 yp0 yp1 yp2 yp3 yp4 yp5 yp6 yp7 yp8 yp9 yp10 yp11 yp12 yp13 yr0 yr1 yr2 yr3
  obtain ⟨ya0, ya1, ya2, ya3⟩ := Ba1.out.four
  obtain ⟨yp0, yp1, yp2, yp3, yp4, yp5, yp6, yp7, yp8, yp9, yp10, yp11, yp12, yp13⟩ := Bp1.out.fourteen
  obtain ⟨yr0, yr1, yr2, yr3⟩ := Br1.out.four
  go_wp2_with fail
  refine (HC.out _ (HT.out.below HB1.out)).mono ?_
  rintro e w2 ⟨rfl, hb⟩
  have Ba2 := Blk.on Ba1 hb
  have Bp2 := Blk.on Bp1 hb
  have Br2 := Blk.on Br1 hb
  have HB2 := hide (HB1.out.trans (hb.mono HB1.out.size))
  clear hb Ba1 Bp1 Br1 HB1 ya0 ya1 ya2 ya3 yp0 yp1 yp2 yp3 yp4 yp5 yp6 yp7 yp8 yp9 yp10 yp11 yp12 yp13 yr0 yr1 yr2 yr3
  obtain ⟨ya0, ya1, ya2, ya3⟩ := Ba2.out.four
  obtain ⟨yp0, yp1, yp2, yp3, yp4, yp5, yp6, yp7, yp8, yp9, yp10, yp11, yp12, yp13⟩ := Bp2.out.fourteen
  obtain ⟨yr0, yr1, yr2, yr3⟩ := Br2.out.four
  have fr0 := Br2.out.free 0
  have fr1 := Br2.out.free 1
  have fr2 := Br2.out.free 2
  have fr3 := Br2.out.free 3
  go_wp2
  refine bodyPost_ret (results_dec2 rfl _ _ _ _ _ _ _ rfl (Br2.out.put4 _ _ _ _)) rfl ?_
  exact ⟨rfl, below_put4 (HB2.out) (by omega) _ _ _ _⟩

set_option maxHeartbeats 2000000 in
theorem lrnd_3fl (ca : Int) (na : Bool) (ta : ByteArray) (ea mf xf ms xs cs : Int) (ns : Bool) (ts : ByteArray) (es md : Int) (hd : Bool) (im ix pl cx : Int) (nx : Bool) (tx : ByteArray) (ex rx : Int) (w : World) (htab : Tab w) (hP : ∀ W, Calls Tryz.prog 39 #[dcV ca na ta ea] W fun e w' => e = .returned (.int .i64 pl) ∧ Below W.heap.size W w') (hC : ∀ W, Tab W → Calls Tryz.prog 16 #[dcV ca na ta ea, .int .i64 (-xf), .int .i64 md] W fun e w' => e = .returned (.tuple #[.agg #[.int .i64 cx, .bool nx, .string tx, .int .i64 ex], .int .i64 rx]) ∧ Below W.heap.size W w') (h1 : 0 ≤ xf) (h2 : xf ≤ 99) (h3 : -10000 ≤ pl) (h4 : pl ≤ 10000) (h5 : 0 ≤ xs) (h6 : xs ≤ 99) (hl : -xf < pl - xs) : Calls Tryz.prog 26 #[dcV ca na ta ea, prV 3 mf xf ms xs false cs ns ts es md hd im ix] w fun e w' => e = .returned (.tuple #[.agg #[.int .i64 cx, .bool nx, .string tx, .int .i64 ex], .int .i64 rx]) ∧ Below w.heap.size w w' := by
  have HC := hide hC
  have HP := hide hP
  have HT := hide htab
  have hw1 : IntKind.i64.wrap (-xf) = -xf := by rw [IntKind.wrap_i64]; omega
  have hw2 : IntKind.i64.wrap (pl - xs) = pl - xs := by rw [IntKind.wrap_i64]; omega
  have hdl : decide (-xf < pl - xs) = true := decide_eq_true (by omega)
  clear hC hP htab h1 h2 h3 h4 h5 h6
  have Ba0 := hide (((Blk.newAt w (w.heap.size) (rfl) #[.int .i64 ca, .bool na, .string ta, .int .i64 ea] 23).alloc (.cells #[.int .i64 3, .int .i64 mf, .int .i64 xf, .int .i64 ms, .int .i64 xs, .bool false, .int .i64 cs, .bool ns, .string ts, .int .i64 es, .int .i64 md, .bool hd, .int .i64 im, .int .i64 ix] 32)).alloc (.cells #[.int .i64 0, .bool false, .string ⟨#[]⟩, .int .i64 0] 23))
  have Bp0 := hide ((Blk.newAt (w.alloc (.cells #[.int .i64 ca, .bool na, .string ta, .int .i64 ea] 23)) (w.heap.size + 1) (by simp) #[.int .i64 3, .int .i64 mf, .int .i64 xf, .int .i64 ms, .int .i64 xs, .bool false, .int .i64 cs, .bool ns, .string ts, .int .i64 es, .int .i64 md, .bool hd, .int .i64 im, .int .i64 ix] 32).alloc (.cells #[.int .i64 0, .bool false, .string ⟨#[]⟩, .int .i64 0] 23))
  have Br0 := hide (Blk.newAt ((w.alloc (.cells #[.int .i64 ca, .bool na, .string ta, .int .i64 ea] 23)).alloc (.cells #[.int .i64 3, .int .i64 mf, .int .i64 xf, .int .i64 ms, .int .i64 xs, .bool false, .int .i64 cs, .bool ns, .string ts, .int .i64 es, .int .i64 md, .bool hd, .int .i64 im, .int .i64 ix] 32)) (w.heap.size + 1 + 1) (by simp) #[.int .i64 0, .bool false, .string ⟨#[]⟩, .int .i64 0] 23)
  have HB0 : Hid (Below w.heap.size w (((w.alloc (.cells #[.int .i64 ca, .bool na, .string ta, .int .i64 ea] 23)).alloc (.cells #[.int .i64 3, .int .i64 mf, .int .i64 xf, .int .i64 ms, .int .i64 xs, .bool false, .int .i64 cs, .bool ns, .string ts, .int .i64 es, .int .i64 md, .bool hd, .int .i64 im, .int .i64 ix] 32)).alloc (.cells #[.int .i64 0, .bool false, .string ⟨#[]⟩, .int .i64 0] 23))) := ((((Below.refl _ _).alloc (Nat.le_refl _) _).alloc (by simp <;> omega) _).alloc (by simp <;> omega) _)
  obtain ⟨W, hW⟩ : ∃ W, W = (((w.alloc (.cells #[.int .i64 ca, .bool na, .string ta, .int .i64 ea] 23)).alloc (.cells #[.int .i64 3, .int .i64 mf, .int .i64 xf, .int .i64 ms, .int .i64 xs, .bool false, .int .i64 cs, .bool ns, .string ts, .int .i64 es, .int .i64 md, .bool hd, .int .i64 im, .int .i64 ix] 32)).alloc (.cells #[.int .i64 0, .bool false, .string ⟨#[]⟩, .int .i64 0] 23)) := ⟨_, rfl⟩
  rw [← hW] at HB0 Ba0 Bp0 Br0 
  have HW := hide hW
  clear hW
  obtain ⟨ya0, ya1, ya2, ya3⟩ := Ba0.out.four
  obtain ⟨yp0, yp1, yp2, yp3, yp4, yp5, yp6, yp7, yp8, yp9, yp10, yp11, yp12, yp13⟩ := Bp0.out.fourteen
  obtain ⟨yr0, yr1, yr2, yr3⟩ := Br0.out.four
  go_enter Tryz.func26, Tryz.ntmps26
  have b0 : Hid (Below W.heap.size W W.drew) := bdrewD W
  have C0 : Hid (∀ X, Hid (Below W.heap.size W X) → Calls Tryz.prog 39 #[dcV ca na ta ea] X fun e w' => e = .returned (.int .i64 pl) ∧ Hid (Below W.heap.size W w') ∧ w'.cell? ⟨w.heap.size, 0, none⟩ = some (.int .i64 ca) ∧ w'.cell? ⟨w.heap.size, 1, none⟩ = some (.bool na) ∧ w'.cell? ⟨w.heap.size, 2, none⟩ = some (.string ta) ∧ w'.cell? ⟨w.heap.size, 3, none⟩ = some (.int .i64 ea) ∧ w'.cell? ⟨w.heap.size + 1, 2, none⟩ = some (.int .i64 xf) ∧ w'.cell? ⟨w.heap.size + 1, 4, none⟩ = some (.int .i64 xs)) := by
    intro X bX
    refine (HP.out X).mono ?_
    rintro e w' ⟨rfl, hb⟩
    have bb := bX.out.trans (hb.mono bX.out.size)
    have Baq := Ba0.out.below bb Ba0.out.lt
    have Bpq := Bp0.out.below bb Bp0.out.lt
    exact ⟨rfl, bb, Baq.cell 0, Baq.cell 1, Baq.cell 2, Baq.cell 3, Bpq.cell 2, Bpq.cell 4⟩
  go_wp2_with fail
  simp only [← HW.out]
  have mk0 : True := trivial
  go_region_held3 (fun w' => w'.cell? ⟨w.heap.size, 0, none⟩ = some (.int .i64 ca) ∧ w'.cell? ⟨w.heap.size, 1, none⟩ = some (.bool na) ∧ w'.cell? ⟨w.heap.size, 2, none⟩ = some (.string ta) ∧ w'.cell? ⟨w.heap.size, 3, none⟩ = some (.int .i64 ea) ∧ w'.cell? ⟨w.heap.size + 1, 2, none⟩ = some (.int .i64 xf) ∧ w'.cell? ⟨w.heap.size + 1, 4, none⟩ = some (.int .i64 xs)) (go_keep) (first
    | (clear mk0; go_at_call 39; refine (C0.out _ b0).mono ?_; rintro e w1 ⟨rfl, b1, q0_0, q0_1, q0_2, q0_3, q0_4, q0_5⟩; have mk1 : True := trivial))
  have Ba1 := hide (Ba0.out.below b1.out Ba0.out.lt)
  have Bp1 := hide (Bp0.out.below b1.out Bp0.out.lt)
  have Br1 := hide (Br0.out.below b1.out Br0.out.lt)
  have HB1 := hide (HB0.out.trans (b1.out.mono HB0.out.size))
  clear mk1 b0 b1 C0 q0_0 q0_1 q0_2 q0_3 q0_4 q0_5 Ba0 Bp0 Br0 HB0 ya0 ya1 ya2 ya3 yp0 yp1 yp2 yp3 yp4 yp5 yp6 yp7 yp8 yp9 yp10 yp11 yp12 yp13 yr0 yr1 yr2 yr3
  obtain ⟨ya0, ya1, ya2, ya3⟩ := Ba1.out.four
  obtain ⟨yp0, yp1, yp2, yp3, yp4, yp5, yp6, yp7, yp8, yp9, yp10, yp11, yp12, yp13⟩ := Bp1.out.fourteen
  obtain ⟨yr0, yr1, yr2, yr3⟩ := Br1.out.four
  go_wp2_with fail
  refine (HC.out _ (HT.out.below HB1.out)).mono ?_
  rintro e w2 ⟨rfl, hb⟩
  have Ba2 := Blk.on Ba1 hb
  have Bp2 := Blk.on Bp1 hb
  have Br2 := Blk.on Br1 hb
  have HB2 := hide (HB1.out.trans (hb.mono HB1.out.size))
  clear hb Ba1 Bp1 Br1 HB1 ya0 ya1 ya2 ya3 yp0 yp1 yp2 yp3 yp4 yp5 yp6 yp7 yp8 yp9 yp10 yp11 yp12 yp13 yr0 yr1 yr2 yr3
  obtain ⟨ya0, ya1, ya2, ya3⟩ := Ba2.out.four
  obtain ⟨yp0, yp1, yp2, yp3, yp4, yp5, yp6, yp7, yp8, yp9, yp10, yp11, yp12, yp13⟩ := Bp2.out.fourteen
  obtain ⟨yr0, yr1, yr2, yr3⟩ := Br2.out.four
  have fr0 := Br2.out.free 0
  have fr1 := Br2.out.free 1
  have fr2 := Br2.out.free 2
  have fr3 := Br2.out.free 3
  go_wp2
  refine bodyPost_ret (results_dec2 rfl _ _ _ _ _ _ _ rfl (Br2.out.put4 _ _ _ _)) rfl ?_
  exact ⟨rfl, below_put4 (HB2.out) (by omega) _ _ _ _⟩

set_option maxHeartbeats 2000000 in
theorem lrnd_3fn (ca : Int) (na : Bool) (ta : ByteArray) (ea mf xf ms xs cs : Int) (ns : Bool) (ts : ByteArray) (es md : Int) (hd : Bool) (im ix pl cx : Int) (nx : Bool) (tx : ByteArray) (ex rx : Int) (w : World) (htab : Tab w) (hP : ∀ W, Calls Tryz.prog 39 #[dcV ca na ta ea] W fun e w' => e = .returned (.int .i64 pl) ∧ Below W.heap.size W w') (hC : ∀ W, Tab W → Calls Tryz.prog 16 #[dcV ca na ta ea, .int .i64 (pl - xs), .int .i64 md] W fun e w' => e = .returned (.tuple #[.agg #[.int .i64 cx, .bool nx, .string tx, .int .i64 ex], .int .i64 rx]) ∧ Below W.heap.size W w') (h1 : 0 ≤ xf) (h2 : xf ≤ 99) (h3 : -10000 ≤ pl) (h4 : pl ≤ 10000) (h5 : 0 ≤ xs) (h6 : xs ≤ 99) (hl : ¬ -xf < pl - xs) : Calls Tryz.prog 26 #[dcV ca na ta ea, prV 3 mf xf ms xs false cs ns ts es md hd im ix] w fun e w' => e = .returned (.tuple #[.agg #[.int .i64 cx, .bool nx, .string tx, .int .i64 ex], .int .i64 rx]) ∧ Below w.heap.size w w' := by
  have HC := hide hC
  have HP := hide hP
  have HT := hide htab
  have hw1 : IntKind.i64.wrap (-xf) = -xf := by rw [IntKind.wrap_i64]; omega
  have hw2 : IntKind.i64.wrap (pl - xs) = pl - xs := by rw [IntKind.wrap_i64]; omega
  have hdl : decide (-xf < pl - xs) = false := decide_eq_false (by omega)
  clear hC hP htab h1 h2 h3 h4 h5 h6 hl
  have Ba0 := hide (((Blk.newAt w (w.heap.size) (rfl) #[.int .i64 ca, .bool na, .string ta, .int .i64 ea] 23).alloc (.cells #[.int .i64 3, .int .i64 mf, .int .i64 xf, .int .i64 ms, .int .i64 xs, .bool false, .int .i64 cs, .bool ns, .string ts, .int .i64 es, .int .i64 md, .bool hd, .int .i64 im, .int .i64 ix] 32)).alloc (.cells #[.int .i64 0, .bool false, .string ⟨#[]⟩, .int .i64 0] 23))
  have Bp0 := hide ((Blk.newAt (w.alloc (.cells #[.int .i64 ca, .bool na, .string ta, .int .i64 ea] 23)) (w.heap.size + 1) (by simp) #[.int .i64 3, .int .i64 mf, .int .i64 xf, .int .i64 ms, .int .i64 xs, .bool false, .int .i64 cs, .bool ns, .string ts, .int .i64 es, .int .i64 md, .bool hd, .int .i64 im, .int .i64 ix] 32).alloc (.cells #[.int .i64 0, .bool false, .string ⟨#[]⟩, .int .i64 0] 23))
  have Br0 := hide (Blk.newAt ((w.alloc (.cells #[.int .i64 ca, .bool na, .string ta, .int .i64 ea] 23)).alloc (.cells #[.int .i64 3, .int .i64 mf, .int .i64 xf, .int .i64 ms, .int .i64 xs, .bool false, .int .i64 cs, .bool ns, .string ts, .int .i64 es, .int .i64 md, .bool hd, .int .i64 im, .int .i64 ix] 32)) (w.heap.size + 1 + 1) (by simp) #[.int .i64 0, .bool false, .string ⟨#[]⟩, .int .i64 0] 23)
  have HB0 : Hid (Below w.heap.size w (((w.alloc (.cells #[.int .i64 ca, .bool na, .string ta, .int .i64 ea] 23)).alloc (.cells #[.int .i64 3, .int .i64 mf, .int .i64 xf, .int .i64 ms, .int .i64 xs, .bool false, .int .i64 cs, .bool ns, .string ts, .int .i64 es, .int .i64 md, .bool hd, .int .i64 im, .int .i64 ix] 32)).alloc (.cells #[.int .i64 0, .bool false, .string ⟨#[]⟩, .int .i64 0] 23))) := ((((Below.refl _ _).alloc (Nat.le_refl _) _).alloc (by simp <;> omega) _).alloc (by simp <;> omega) _)
  obtain ⟨W, hW⟩ : ∃ W, W = (((w.alloc (.cells #[.int .i64 ca, .bool na, .string ta, .int .i64 ea] 23)).alloc (.cells #[.int .i64 3, .int .i64 mf, .int .i64 xf, .int .i64 ms, .int .i64 xs, .bool false, .int .i64 cs, .bool ns, .string ts, .int .i64 es, .int .i64 md, .bool hd, .int .i64 im, .int .i64 ix] 32)).alloc (.cells #[.int .i64 0, .bool false, .string ⟨#[]⟩, .int .i64 0] 23)) := ⟨_, rfl⟩
  rw [← hW] at HB0 Ba0 Bp0 Br0 
  have HW := hide hW
  clear hW
  obtain ⟨ya0, ya1, ya2, ya3⟩ := Ba0.out.four
  obtain ⟨yp0, yp1, yp2, yp3, yp4, yp5, yp6, yp7, yp8, yp9, yp10, yp11, yp12, yp13⟩ := Bp0.out.fourteen
  obtain ⟨yr0, yr1, yr2, yr3⟩ := Br0.out.four
  go_enter Tryz.func26, Tryz.ntmps26
  have b0 : Hid (Below W.heap.size W W.drew) := bdrewD W
  have C0 : Hid (∀ X, Hid (Below W.heap.size W X) → Calls Tryz.prog 39 #[dcV ca na ta ea] X fun e w' => e = .returned (.int .i64 pl) ∧ Hid (Below W.heap.size W w') ∧ w'.cell? ⟨w.heap.size, 0, none⟩ = some (.int .i64 ca) ∧ w'.cell? ⟨w.heap.size, 1, none⟩ = some (.bool na) ∧ w'.cell? ⟨w.heap.size, 2, none⟩ = some (.string ta) ∧ w'.cell? ⟨w.heap.size, 3, none⟩ = some (.int .i64 ea) ∧ w'.cell? ⟨w.heap.size + 1, 2, none⟩ = some (.int .i64 xf) ∧ w'.cell? ⟨w.heap.size + 1, 4, none⟩ = some (.int .i64 xs)) := by
    intro X bX
    refine (HP.out X).mono ?_
    rintro e w' ⟨rfl, hb⟩
    have bb := bX.out.trans (hb.mono bX.out.size)
    have Baq := Ba0.out.below bb Ba0.out.lt
    have Bpq := Bp0.out.below bb Bp0.out.lt
    exact ⟨rfl, bb, Baq.cell 0, Baq.cell 1, Baq.cell 2, Baq.cell 3, Bpq.cell 2, Bpq.cell 4⟩
  go_wp2_with fail
  simp only [← HW.out]
  have mk0 : True := trivial
  go_region_held3 (fun w' => w'.cell? ⟨w.heap.size, 0, none⟩ = some (.int .i64 ca) ∧ w'.cell? ⟨w.heap.size, 1, none⟩ = some (.bool na) ∧ w'.cell? ⟨w.heap.size, 2, none⟩ = some (.string ta) ∧ w'.cell? ⟨w.heap.size, 3, none⟩ = some (.int .i64 ea) ∧ w'.cell? ⟨w.heap.size + 1, 2, none⟩ = some (.int .i64 xf) ∧ w'.cell? ⟨w.heap.size + 1, 4, none⟩ = some (.int .i64 xs)) (go_keep) (first
    | (clear mk0; go_at_call 39; refine (C0.out _ b0).mono ?_; rintro e w1 ⟨rfl, b1, q0_0, q0_1, q0_2, q0_3, q0_4, q0_5⟩; have mk1 : True := trivial))
  have Ba1 := hide (Ba0.out.below b1.out Ba0.out.lt)
  have Bp1 := hide (Bp0.out.below b1.out Bp0.out.lt)
  have Br1 := hide (Br0.out.below b1.out Br0.out.lt)
  have HB1 := hide (HB0.out.trans (b1.out.mono HB0.out.size))
  clear mk1 b0 b1 C0 q0_0 q0_1 q0_2 q0_3 q0_4 q0_5 Ba0 Bp0 Br0 HB0 ya0 ya1 ya2 ya3 yp0 yp1 yp2 yp3 yp4 yp5 yp6 yp7 yp8 yp9 yp10 yp11 yp12 yp13 yr0 yr1 yr2 yr3
  obtain ⟨ya0, ya1, ya2, ya3⟩ := Ba1.out.four
  obtain ⟨yp0, yp1, yp2, yp3, yp4, yp5, yp6, yp7, yp8, yp9, yp10, yp11, yp12, yp13⟩ := Bp1.out.fourteen
  obtain ⟨yr0, yr1, yr2, yr3⟩ := Br1.out.four
  go_wp2_with fail
  refine (HC.out _ (HT.out.below HB1.out)).mono ?_
  rintro e w2 ⟨rfl, hb⟩
  have Ba2 := Blk.on Ba1 hb
  have Bp2 := Blk.on Bp1 hb
  have Br2 := Blk.on Br1 hb
  have HB2 := hide (HB1.out.trans (hb.mono HB1.out.size))
  clear hb Ba1 Bp1 Br1 HB1 ya0 ya1 ya2 ya3 yp0 yp1 yp2 yp3 yp4 yp5 yp6 yp7 yp8 yp9 yp10 yp11 yp12 yp13 yr0 yr1 yr2 yr3
  obtain ⟨ya0, ya1, ya2, ya3⟩ := Ba2.out.four
  obtain ⟨yp0, yp1, yp2, yp3, yp4, yp5, yp6, yp7, yp8, yp9, yp10, yp11, yp12, yp13⟩ := Bp2.out.fourteen
  obtain ⟨yr0, yr1, yr2, yr3⟩ := Br2.out.four
  have fr0 := Br2.out.free 0
  have fr1 := Br2.out.free 1
  have fr2 := Br2.out.free 2
  have fr3 := Br2.out.free 3
  go_wp2
  refine bodyPost_ret (results_dec2 rfl _ _ _ _ _ _ _ rfl (Br2.out.put4 _ _ _ _)) rfl ?_
  exact ⟨rfl, below_put4 (HB2.out) (by omega) _ _ _ _⟩

theorem lrnd_any (ca : Int) (na : Bool) (ta : ByteArray) (ea k mf xf ms xs : Int) (st : Bool) (cs : Int) (ns : Bool) (ts : ByteArray) (es md : Int) (hd : Bool) (im ix : Int) (w : World) (htab : Tab w) (h : MayD ca na (bys ta) ea) (hp : MayP ⟨k, mf, xf, ms, xs, st, cs, ns, bys ts, es, md, hd, im, ix⟩) : Calls Tryz.prog 26 #[dcV ca na ta ea, prV k mf xf ms xs st cs ns ts es md hd im ix] w fun e w' => e = .returned (decErr (roundP ⟨k, mf, xf, ms, xs, st, cs, ns, bys ts, es, md, hd, im, ix⟩ ca na (bys ta) ea)) ∧ Below w.heap.size w w' := by
  have hk : k = 0 ∨ k = 1 ∨ k = 2 ∨ k = 3 ∨ k = 4 := mayP_kind hp
  rcases hk with rfl | rfl | rfl | rfl | rfl
  · rw [roundP_0 rfl]
    have g := lrnd_0 ca na ta ea mf xf ms xs st cs ns ts es md hd im ix w
    unfold decErr decVal
    simp only
    rw [mk_bys, ← may_cls h]
    exact g
  · obtain ⟨⟨⟨q1, q2⟩, q3⟩, _⟩ := mayP_1 hp rfl
    simp only at q1 q2 q3
    rw [roundP_1 rfl]
    exact lrnd_1 ca na ta ea mf xf ms xs st cs ns ts es md hd im ix _ _ _ _ _ w htab (fun W hW => At_any ca na ta ea (-xf) md W hW) (by omega) q3
  · rw [roundP_2 rfl]
    exact lrnd_2 ca na ta ea mf xf ms xs st cs ns ts es md hd im ix _ _ _ _ _ w htab (fun W hW => Digits_any ca na ta ea xs md W hW)
  · obtain ⟨⟨⟨q1, q2⟩, q3⟩, ⟨⟨q4, q5⟩, q6⟩, _⟩ := mayP_3 hp rfl
    simp only at q1 q2 q3 q4 q5 q6
    obtain ⟨b1, b2, b3, b4⟩ := may_place h
    rw [roundP_3 rfl, bys_len]
    unfold bothAt
    simp only
    have PL := fun W => Place_yes ca na ta ea W h
    cases st
    · simp only [Bool.false_eq_true, if_false]
      by_cases hl : -xf < (ta.size : Int) + ea - xs
      · rw [show min (-xf) ((ta.size : Int) + ea - xs) = -xf by omega]
        exact lrnd_3fl ca na ta ea mf xf ms xs cs ns ts es md hd im ix _ _ _ _ _ _ w htab PL (fun W hW => At_any ca na ta ea _ md W hW) (by omega) q3 (by omega) (by omega) (by omega) q6 hl
      · rw [show min (-xf) ((ta.size : Int) + ea - xs) = (ta.size : Int) + ea - xs by omega]
        exact lrnd_3fn ca na ta ea mf xf ms xs cs ns ts es md hd im ix _ _ _ _ _ _ w htab PL (fun W hW => At_any ca na ta ea _ md W hW) (by omega) q3 (by omega) (by omega) (by omega) q6 hl
    · simp only [if_true]
      by_cases hl : -xf < (ta.size : Int) + ea - xs
      · rw [show max (-xf) ((ta.size : Int) + ea - xs) = (ta.size : Int) + ea - xs by omega]
        exact lrnd_3tl ca na ta ea mf xf ms xs cs ns ts es md hd im ix _ _ _ _ _ _ w htab PL (fun W hW => At_any ca na ta ea _ md W hW) (by omega) q3 (by omega) (by omega) (by omega) q6 hl
      · rw [show max (-xf) ((ta.size : Int) + ea - xs) = -xf by omega]
        exact lrnd_3tn ca na ta ea mf xf ms xs cs ns ts es md hd im ix _ _ _ _ _ _ w htab PL (fun W hW => At_any ca na ta ea _ md W hW) (by omega) q3 (by omega) (by omega) (by omega) q6 hl
  · rw [roundP_4 rfl]
    exact lrnd_4 ca na ta ea mf xf ms xs st cs ns ts es md hd im ix _ _ _ _ _ w htab (fun W hW => Step_any ca na ta ea cs ns ts es md W hW)

end Go.Proofs.YtckijnlolmbdiaaGreatDoor

namespace Go.Proofs.YtckijnlolmbdiaaGreatDoor

theorem nought_digB (n : Int) : DigB (nought n) := digB_rep _
theorem nought_val (n : Int) : decV (nought n) = 0 := decV_rep _

theorem decV_ahead (n : Int) (l : List UInt8) : decV (nought n ++ l) = decV l := by
  rw [decV_append, nought_val]; omega
theorem decV_behind (l : List UInt8) (n : Int) : decV (l ++ nought n) = decV l * 10 ^ n.toNat := by
  rw [decV_append, nought_val, nought_len]; omega

theorem ab_val (l : List UInt8) (e : Int) : ∃ k : Nat, decV (aheadD l e ++ behindD l e) = decV l * 10 ^ k ∧ -((behindD l e).length : Int) + k = e := by
  unfold aheadD behindD
  by_cases h1 : (l.length : Int) + e ≤ 0
  · rw [if_pos h1, if_pos h1]
    refine ⟨0, ?_, ?_⟩
    · rw [List.nil_append, decV_ahead]; omega
    · rw [List.length_append, nought_len]; omega
  · rw [if_neg h1, if_neg h1]
    by_cases h2 : 0 ≤ e
    · rw [if_pos h2, if_pos h2]
      refine ⟨e.toNat, ?_, ?_⟩
      · rw [List.append_nil, decV_behind]
      · simp only [List.length_nil]; omega
    · rw [if_neg h2, if_neg h2]
      refine ⟨0, ?_, ?_⟩
      · rw [List.take_append_drop]; omega
      · rw [List.length_drop]; omega

theorem ab_digB {l : List UInt8} (e : Int) (h : DigB l) : DigB (aheadD l e) ∧ DigB (behindD l e) := by
  have h0 : DigB ([] : List UInt8) := fun k hk => absurd hk (by simp)
  unfold aheadD behindD
  by_cases h1 : (l.length : Int) + e ≤ 0
  · rw [if_pos h1, if_pos h1]; exact ⟨h0, (nought_digB _).append h⟩
  · rw [if_neg h1, if_neg h1]
    by_cases h2 : 0 ≤ e
    · rw [if_pos h2, if_pos h2]; exact ⟨h.append (nought_digB _), h0⟩
    · rw [if_neg h2, if_neg h2]; exact ⟨h.take _, h.drop _⟩

theorem ab_len {c : Int} {n : Bool} {l : List UInt8} {e : Int} (h : MayD c n l e) : (aheadD l e).length ≤ 2000 ∧ (behindD l e).length ≤ 3000 ∧ ((behindD l e).length : Int) = max 0 (-e) ∧ ((aheadD l e).length : Int) = max 0 ((l.length : Int) + e) := by
  obtain ⟨b1, b2, b3, b4, b5⟩ := may_pl h
  have hl : l.length = 0 → e = 0 := by
    intro hl
    have hl := List.length_eq_zero_iff.1 hl
    rcases h with ⟨_, ⟨_, h2⟩ | ⟨h1, _⟩⟩ | ⟨_, _, h2⟩ | ⟨_, _, _, h2⟩
    · exact h2
    · exact absurd hl h1
    · exact h2
    · exact h2
  unfold aheadD behindD
  by_cases h1 : (l.length : Int) + e ≤ 0
  · rw [if_pos h1, if_pos h1]
    simp only [List.length_append, List.length_nil, nought_len]
    omega
  · rw [if_neg h1, if_neg h1]
    by_cases h2 : 0 ≤ e
    · rw [if_pos h2, if_pos h2]
      simp only [List.length_append, List.length_nil, nought_len]
      omega
    · rw [if_neg h2, if_neg h2]
      simp only [List.length_take, List.length_drop]
      omega

theorem mayD_digB {c : Int} {n : Bool} {l : List UInt8} {e : Int} (h : MayD c n l e) : DigB l := by
  have h0 : DigB ([] : List UInt8) := fun k hk => absurd hk (by simp)
  rcases h with ⟨_, ⟨h1, _⟩ | ⟨_, _, _, _, _, _, h1⟩⟩ | ⟨_, h1, _⟩ | ⟨_, _, h1, _⟩
  · rw [h1]; exact h0
  · exact h1
  · rw [h1]; exact h0
  · rw [h1]; exact h0

theorem mayx_fin {n : Bool} {l : List UInt8} {e : Int} (h : May ⟨0, n, l, e⟩) : finD n (decV l) e = ⟨0, n, l, e⟩ := by
  rcases may_cases h with ⟨m, g⟩ | g | ⟨m, g⟩ | g
  · cases g; rfl
  · exact g.fin
  · cases g
  · cases g

theorem fill_len (p : PrecT) (a : List UInt8) : ((fillI p a).length : Int) = max p.imin a.length := by
  unfold fillI; rw [List.length_append, nought_len]; omega

theorem frac_len (p : PrecT) (b : List UInt8) (n : Int) : (fracP p b n).length = 0 ∧ b = [] ∧ p.hide = true ∨ ((fracP p b n).length : Int) = max (b.length : Int) n ∧ fracP p b n = b ++ nought (n - b.length) := by
  unfold fracP
  by_cases h : p.hide = true ∧ b = []
  · rw [if_pos h]; exact .inl ⟨rfl, h.2, h.1⟩
  · rw [if_neg h]
    refine .inr ⟨?_, rfl⟩
    rw [List.length_append, nought_len]; omega

theorem shown_val (p : PrecT) (neg : Bool) (l : List UInt8) (e n : Int) : finD neg (decV (fillI p (aheadD l e) ++ fracP p (behindD l e) n)) (-((fracP p (behindD l e) n).length : Int)) = finD neg (decV l) e := by
  obtain ⟨k, hk, hk2⟩ := ab_val l e
  rcases frac_len p (behindD l e) n with ⟨h1, h2, _⟩ | ⟨_, h2⟩
  · have h3 := List.length_eq_zero_iff.1 h1
    rw [h3, List.append_nil]
    unfold fillI
    rw [decV_ahead]
    rw [h2, List.append_nil] at hk
    rw [hk, finD_tens]
    congr 1
    rw [h2] at hk2
    simpa using hk2
  · rw [h2]
    unfold fillI
    rw [List.append_assoc, decV_ahead, ← List.append_assoc, decV_behind, hk, Nat.mul_assoc, ← Nat.pow_add, finD_tens, List.length_append, nought_len]
    congr 1
    omega

theorem shown_digB (p : PrecT) {l : List UInt8} (h : DigB l) (e n : Int) : DigB (fillI p (aheadD l e)) ∧ DigB (fracP p (behindD l e) n) := by
  have h0 : DigB ([] : List UInt8) := fun k hk => absurd hk (by simp)
  obtain ⟨h1, h2⟩ := ab_digB e h
  refine ⟨(nought_digB _).append h1, ?_⟩
  unfold fracP
  split
  · exact h0
  · exact h2.append (nought_digB _)

theorem mayP_imax {p : PrecT} (h : MayP p) : 0 ≤ p.imin ∧ p.imin ≤ 99 ∧ 0 ≤ p.imax ∧ p.imax ≤ 99 := by
  obtain ⟨_, ⟨⟨h1, h2⟩, h3⟩, _⟩ := h
  omega

theorem whole_cut (p : PrecT) (a : List UInt8) (h : p.imax = 0) : wholeP p a = fillI p a := by
  unfold wholeP; rw [if_neg (by omega)]

theorem digits_form (p : PrecT) (r : DecT) (n : Int) : (wholeP p (aheadD r.dig r.exp) = [] ∧ fracP p (behindD r.dig r.exp) n = [] ∧ digitsP p r n = ([48], [])) ∨ ((wholeP p (aheadD r.dig r.exp) ≠ [] ∨ fracP p (behindD r.dig r.exp) n ≠ []) ∧ digitsP p r n = (wholeP p (aheadD r.dig r.exp), fracP p (behindD r.dig r.exp) n)) := by
  unfold digitsP
  by_cases h : wholeP p (aheadD r.dig r.exp) = [] ∧ fracP p (behindD r.dig r.exp) n = []
  · rw [if_pos h]; exact .inl ⟨h.1, h.2, rfl⟩
  · rw [if_neg h]
    refine .inr ⟨?_, rfl⟩
    by_cases h1 : wholeP p (aheadD r.dig r.exp) = []
    · exact .inr fun g => h ⟨h1, g⟩
    · exact .inl h1

theorem value_shown {p : PrecT} {r : DecT} (hp : MayP p) (hr : May r) (hx : p.imax = 0) : MayS (shownP p r) ∧ valueS (shownP p r) = (r, 0) := by
  obtain ⟨i1, i2, _⟩ := mayP_imax hp
  obtain ⟨n1, n2⟩ := leastP_in hp hr
  have hm : MayD (r.cls : Int) r.neg r.dig r.exp := hr
  by_cases hc : r.cls = 0
  · obtain ⟨c, neg, l, e⟩ := r
    simp only at hc
    subst hc
    have hD := mayD_digB hm
    simp only at hD
    obtain ⟨l1, l2, _⟩ := ab_len hm
    simp only at l1 l2
    have fl := fill_len p (aheadD l e)
    have fin := mayx_fin hr
    have key : ∀ I F : List UInt8, digitsP p ⟨0, neg, l, e⟩ (leastP p ⟨0, neg, l, e⟩) = (I, F) → DigB I ∧ DigB F ∧ (I ≠ [] ∨ F ≠ []) ∧ I.length ≤ 4096 ∧ F.length ≤ 4096 ∧ finD neg (decV (I ++ F)) (0 - (F.length : Int)) = ⟨0, neg, l, e⟩ := by
      intro I F hIF
      obtain ⟨d1, d2⟩ := shown_digB p hD e (leastP p ⟨0, neg, l, e⟩)
      have sv := shown_val p neg l e (leastP p ⟨0, neg, l, e⟩)
      rcases digits_form p ⟨0, neg, l, e⟩ (leastP p ⟨0, neg, l, e⟩) with ⟨h1, h2, h3⟩ | ⟨h1, h2⟩
      · simp only at h1 h2
        rw [h3] at hIF
        obtain ⟨rfl, rfl⟩ := Prod.mk.inj hIF
        rw [whole_cut p _ hx] at h1
        rw [h1, h2, fin] at sv
        refine ⟨fun k hk => ?_, fun k hk => absurd hk (by simp), .inl (by simp), by simp, by simp, ?_⟩
        · have : k = 0 := by simp at hk; omega
          subst this; decide
        · rw [← sv]; rfl
      · simp only at h1 h2
        rw [h2] at hIF
        obtain ⟨rfl, rfl⟩ := Prod.mk.inj hIF
        rw [whole_cut p _ hx] at h1 ⊢
        refine ⟨d1, d2, h1, by omega, ?_, ?_⟩
        · rcases frac_len p (behindD l e) (leastP p ⟨0, neg, l, e⟩) with ⟨g, _⟩ | ⟨g, _⟩ <;> omega
        · rw [Int.zero_sub, sv, fin]
    unfold shownP
    simp only [if_true]
    rcases hIF : digitsP p ⟨0, neg, l, e⟩ (leastP p ⟨0, neg, l, e⟩) with ⟨I, F⟩
    obtain ⟨k1, k2, k3, k4, k5, k6⟩ := key I F hIF
    have hS : MayS ⟨0, neg, I, F, 0, false⟩ := ⟨⟨show (-2001 : Int) ≤ 0 by decide, show (0 : Int) ≤ 2001 by decide⟩, .inl ⟨rfl, k3, ⟨k4, k1⟩, ⟨k5, k2⟩⟩⟩
    refine ⟨hS, ?_⟩
    unfold valueS
    rw [if_neg (fun g => g hS), if_neg (fun g => g rfl)]
    simp only
    rw [tellF_yes (by rw [k6]; exact hr), k6]
  · have hs : shownP p r = ⟨r.cls, r.neg, [], [], 0, false⟩ := by unfold shownP; rw [if_neg hc]
    rcases may_cases hr with ⟨m, g⟩ | g | ⟨m, g⟩ | g
    · subst g; exact absurd rfl hc
    · exact absurd g.cls hc
    · subst g
      have hS : MayS ⟨1, m, [], [], 0, false⟩ := ⟨⟨show (-2001 : Int) ≤ 0 by decide, show (0 : Int) ≤ 2001 by decide⟩, .inr (.inl ⟨rfl, rfl, rfl⟩)⟩
      rw [hs]
      refine ⟨hS, ?_⟩
      unfold valueS
      rw [if_neg (fun g => g hS), if_pos (by simp)]
      rfl
    · subst g
      have hS : MayS ⟨2, false, [], [], 0, false⟩ := ⟨⟨show (-2001 : Int) ≤ 0 by decide, show (0 : Int) ≤ 2001 by decide⟩, .inr (.inr ⟨rfl, rfl, rfl, rfl⟩)⟩
      rw [hs]
      refine ⟨hS, ?_⟩
      unfold valueS
      rw [if_neg (fun g => g hS), if_pos (by simp)]
      rfl

end Go.Proofs.YtckijnlolmbdiaaGreatDoor

namespace Go.Proofs.YtckijnlolmbdiaaGreatDoor
open Go.RowKit

set_option maxRecDepth 100000 in
set_option maxHeartbeats 2000000 in
theorem true_51 (ca : Int) (na : Bool) (ta : ByteArray) (ea k mf xf ms xs : Int) (st : Bool) (cs : Int) (ns : Bool) (ts : ByteArray) (es md : Int) (hd : Bool) (im ix : Int)  (w : World) (htab : Tab w) (h1 : ∀ W, Tab W → Calls Tryz.prog 22 #[dcV ca na ta ea, prV k mf xf ms xs st cs ns ts es md hd im ix] W fun e w' => e = .returned (.tuple #[.agg #[.int .i64 0, .bool false, .string ⟨#[]⟩, .string ⟨#[]⟩, .int .i64 0, .bool false], .int .i64 51]) ∧ Below W.heap.size W w') : Calls Tryz.prog 8 #[dcV ca na ta ea, prV k mf xf ms xs st cs ns ts es md hd im ix] w fun e w' => e = .returned (.bool true) ∧ Below w.heap.size w w' := by
  have H1 := hide h1
  have HT := hide htab
  clear htab h1 
  have Ba0 := hide ((Blk.newAt w (w.heap.size) (rfl) #[.int .i64 ca, .bool na, .string ta, .int .i64 ea] 23).alloc (.cells #[.int .i64 k, .int .i64 mf, .int .i64 xf, .int .i64 ms, .int .i64 xs, .bool st, .int .i64 cs, .bool ns, .string ts, .int .i64 es, .int .i64 md, .bool hd, .int .i64 im, .int .i64 ix] 32))
  have Bp0 := hide (Blk.newAt (w.alloc (.cells #[.int .i64 ca, .bool na, .string ta, .int .i64 ea] 23)) (w.heap.size + 1) (by simp) #[.int .i64 k, .int .i64 mf, .int .i64 xf, .int .i64 ms, .int .i64 xs, .bool st, .int .i64 cs, .bool ns, .string ts, .int .i64 es, .int .i64 md, .bool hd, .int .i64 im, .int .i64 ix] 32)
  have HB0 : Hid (Below w.heap.size w ((w.alloc (.cells #[.int .i64 ca, .bool na, .string ta, .int .i64 ea] 23)).alloc (.cells #[.int .i64 k, .int .i64 mf, .int .i64 xf, .int .i64 ms, .int .i64 xs, .bool st, .int .i64 cs, .bool ns, .string ts, .int .i64 es, .int .i64 md, .bool hd, .int .i64 im, .int .i64 ix] 32))) := (((Below.refl _ _).alloc (Nat.le_refl _) _).alloc (by simp <;> omega) _)
  go_enter Tryz.func8, Tryz.ntmps8
  go_wp2_with fail
  refine (H1.out _ (HT.out.below HB0.out)).mono ?_
  rintro e w1 ⟨rfl, hb⟩
  have Ba1 := Blk.on Ba0 hb
  have Bp1 := Blk.on Bp0 hb
  have HB1 := hide (HB0.out.trans (hb.mono HB0.out.size))
  clear hb Ba0 Bp0 HB0 
  obtain ⟨ya0, ya1, ya2, ya3⟩ := Ba1.out.four
  obtain ⟨yp0, yp1, yp2, yp3, yp4, yp5, yp6, yp7, yp8, yp9, yp10, yp11, yp12, yp13⟩ := Bp1.out.fourteen
  have Ba2 := Blk.up Ba1 (.cells #[.int .i64 0, .bool false, .string ⟨#[]⟩, .string ⟨#[]⟩, .int .i64 0, .bool false] 36)
  have Bp2 := Blk.up Bp1 (.cells #[.int .i64 0, .bool false, .string ⟨#[]⟩, .string ⟨#[]⟩, .int .i64 0, .bool false] 36)
  have Bs2 := hide ((Blk.newAt w1 (w1.heap.size) (rfl) #[.int .i64 0, .bool false, .string ⟨#[]⟩, .string ⟨#[]⟩, .int .i64 0, .bool false] 36))
  have HB2 : Hid (Below w.heap.size w (w1.alloc (.cells #[.int .i64 0, .bool false, .string ⟨#[]⟩, .string ⟨#[]⟩, .int .i64 0, .bool false] 36))) := (HB1.out.alloc HB1.out.size _)
  clear Ba1 Bp1 HB1 ya0 ya1 ya2 ya3 yp0 yp1 yp2 yp3 yp4 yp5 yp6 yp7 yp8 yp9 yp10 yp11 yp12 yp13
  obtain ⟨ya0, ya1, ya2, ya3⟩ := Ba2.out.four
  obtain ⟨yp0, yp1, yp2, yp3, yp4, yp5, yp6, yp7, yp8, yp9, yp10, yp11, yp12, yp13⟩ := Bp2.out.fourteen
  obtain ⟨ys0, ys1, ys2, ys3, ys4, ys5⟩ := Bs2.out.six
  go_wp2_with fail
  refine (xawake_any _ (HT.out.below HB2.out)).mono ?_
  rintro e w3 ⟨rfl, hb⟩
  have Ba3 := Blk.on Ba2 hb
  have Bp3 := Blk.on Bp2 hb
  have Bs3 := Blk.on Bs2 hb
  have HB3 := hide (HB2.out.trans (hb.mono HB2.out.size))
  clear hb Ba2 Bp2 Bs2 HB2 ya0 ya1 ya2 ya3 yp0 yp1 yp2 yp3 yp4 yp5 yp6 yp7 yp8 yp9 yp10 yp11 yp12 yp13 ys0 ys1 ys2 ys3 ys4 ys5
  obtain ⟨ya0, ya1, ya2, ya3⟩ := Ba3.out.four
  obtain ⟨yp0, yp1, yp2, yp3, yp4, yp5, yp6, yp7, yp8, yp9, yp10, yp11, yp12, yp13⟩ := Bp3.out.fourteen
  obtain ⟨ys0, ys1, ys2, ys3, ys4, ys5⟩ := Bs3.out.six
  go_wp2
  go_ret
  exact ⟨rfl, HB3.out⟩

set_option maxRecDepth 100000 in
set_option maxHeartbeats 2000000 in
theorem true_52 (ca : Int) (na : Bool) (ta : ByteArray) (ea k mf xf ms xs : Int) (st : Bool) (cs : Int) (ns : Bool) (ts : ByteArray) (es md : Int) (hd : Bool) (im ix : Int)  (w : World) (htab : Tab w) (h1 : ∀ W, Tab W → Calls Tryz.prog 22 #[dcV ca na ta ea, prV k mf xf ms xs st cs ns ts es md hd im ix] W fun e w' => e = .returned (.tuple #[.agg #[.int .i64 0, .bool false, .string ⟨#[]⟩, .string ⟨#[]⟩, .int .i64 0, .bool false], .int .i64 52]) ∧ Below W.heap.size W w') : Calls Tryz.prog 8 #[dcV ca na ta ea, prV k mf xf ms xs st cs ns ts es md hd im ix] w fun e w' => e = .returned (.bool true) ∧ Below w.heap.size w w' := by
  have H1 := hide h1
  have HT := hide htab
  clear htab h1 
  have Ba0 := hide ((Blk.newAt w (w.heap.size) (rfl) #[.int .i64 ca, .bool na, .string ta, .int .i64 ea] 23).alloc (.cells #[.int .i64 k, .int .i64 mf, .int .i64 xf, .int .i64 ms, .int .i64 xs, .bool st, .int .i64 cs, .bool ns, .string ts, .int .i64 es, .int .i64 md, .bool hd, .int .i64 im, .int .i64 ix] 32))
  have Bp0 := hide (Blk.newAt (w.alloc (.cells #[.int .i64 ca, .bool na, .string ta, .int .i64 ea] 23)) (w.heap.size + 1) (by simp) #[.int .i64 k, .int .i64 mf, .int .i64 xf, .int .i64 ms, .int .i64 xs, .bool st, .int .i64 cs, .bool ns, .string ts, .int .i64 es, .int .i64 md, .bool hd, .int .i64 im, .int .i64 ix] 32)
  have HB0 : Hid (Below w.heap.size w ((w.alloc (.cells #[.int .i64 ca, .bool na, .string ta, .int .i64 ea] 23)).alloc (.cells #[.int .i64 k, .int .i64 mf, .int .i64 xf, .int .i64 ms, .int .i64 xs, .bool st, .int .i64 cs, .bool ns, .string ts, .int .i64 es, .int .i64 md, .bool hd, .int .i64 im, .int .i64 ix] 32))) := (((Below.refl _ _).alloc (Nat.le_refl _) _).alloc (by simp <;> omega) _)
  go_enter Tryz.func8, Tryz.ntmps8
  go_wp2_with fail
  refine (H1.out _ (HT.out.below HB0.out)).mono ?_
  rintro e w1 ⟨rfl, hb⟩
  have Ba1 := Blk.on Ba0 hb
  have Bp1 := Blk.on Bp0 hb
  have HB1 := hide (HB0.out.trans (hb.mono HB0.out.size))
  clear hb Ba0 Bp0 HB0 
  obtain ⟨ya0, ya1, ya2, ya3⟩ := Ba1.out.four
  obtain ⟨yp0, yp1, yp2, yp3, yp4, yp5, yp6, yp7, yp8, yp9, yp10, yp11, yp12, yp13⟩ := Bp1.out.fourteen
  have Ba2 := Blk.up Ba1 (.cells #[.int .i64 0, .bool false, .string ⟨#[]⟩, .string ⟨#[]⟩, .int .i64 0, .bool false] 36)
  have Bp2 := Blk.up Bp1 (.cells #[.int .i64 0, .bool false, .string ⟨#[]⟩, .string ⟨#[]⟩, .int .i64 0, .bool false] 36)
  have Bs2 := hide ((Blk.newAt w1 (w1.heap.size) (rfl) #[.int .i64 0, .bool false, .string ⟨#[]⟩, .string ⟨#[]⟩, .int .i64 0, .bool false] 36))
  have HB2 : Hid (Below w.heap.size w (w1.alloc (.cells #[.int .i64 0, .bool false, .string ⟨#[]⟩, .string ⟨#[]⟩, .int .i64 0, .bool false] 36))) := (HB1.out.alloc HB1.out.size _)
  clear Ba1 Bp1 HB1 ya0 ya1 ya2 ya3 yp0 yp1 yp2 yp3 yp4 yp5 yp6 yp7 yp8 yp9 yp10 yp11 yp12 yp13
  obtain ⟨ya0, ya1, ya2, ya3⟩ := Ba2.out.four
  obtain ⟨yp0, yp1, yp2, yp3, yp4, yp5, yp6, yp7, yp8, yp9, yp10, yp11, yp12, yp13⟩ := Bp2.out.fourteen
  obtain ⟨ys0, ys1, ys2, ys3, ys4, ys5⟩ := Bs2.out.six
  go_wp2_with fail
  refine (xawake_any _ (HT.out.below HB2.out)).mono ?_
  rintro e w3 ⟨rfl, hb⟩
  have Ba3 := Blk.on Ba2 hb
  have Bp3 := Blk.on Bp2 hb
  have Bs3 := Blk.on Bs2 hb
  have HB3 := hide (HB2.out.trans (hb.mono HB2.out.size))
  clear hb Ba2 Bp2 Bs2 HB2 ya0 ya1 ya2 ya3 yp0 yp1 yp2 yp3 yp4 yp5 yp6 yp7 yp8 yp9 yp10 yp11 yp12 yp13 ys0 ys1 ys2 ys3 ys4 ys5
  obtain ⟨ya0, ya1, ya2, ya3⟩ := Ba3.out.four
  obtain ⟨yp0, yp1, yp2, yp3, yp4, yp5, yp6, yp7, yp8, yp9, yp10, yp11, yp12, yp13⟩ := Bp3.out.fourteen
  obtain ⟨ys0, ys1, ys2, ys3, ys4, ys5⟩ := Bs3.out.six
  go_wp2
  go_ret
  exact ⟨rfl, HB3.out⟩

set_option maxRecDepth 100000 in
set_option maxHeartbeats 2000000 in
theorem true_70 (ca : Int) (na : Bool) (ta : ByteArray) (ea k mf xf ms xs : Int) (st : Bool) (cs : Int) (ns : Bool) (ts : ByteArray) (es md : Int) (hd : Bool) (im ix : Int)  (w : World) (htab : Tab w) (h1 : ∀ W, Tab W → Calls Tryz.prog 22 #[dcV ca na ta ea, prV k mf xf ms xs st cs ns ts es md hd im ix] W fun e w' => e = .returned (.tuple #[.agg #[.int .i64 0, .bool false, .string ⟨#[]⟩, .string ⟨#[]⟩, .int .i64 0, .bool false], .int .i64 70]) ∧ Below W.heap.size W w') : Calls Tryz.prog 8 #[dcV ca na ta ea, prV k mf xf ms xs st cs ns ts es md hd im ix] w fun e w' => e = .returned (.bool true) ∧ Below w.heap.size w w' := by
  have H1 := hide h1
  have HT := hide htab
  clear htab h1 
  have Ba0 := hide ((Blk.newAt w (w.heap.size) (rfl) #[.int .i64 ca, .bool na, .string ta, .int .i64 ea] 23).alloc (.cells #[.int .i64 k, .int .i64 mf, .int .i64 xf, .int .i64 ms, .int .i64 xs, .bool st, .int .i64 cs, .bool ns, .string ts, .int .i64 es, .int .i64 md, .bool hd, .int .i64 im, .int .i64 ix] 32))
  have Bp0 := hide (Blk.newAt (w.alloc (.cells #[.int .i64 ca, .bool na, .string ta, .int .i64 ea] 23)) (w.heap.size + 1) (by simp) #[.int .i64 k, .int .i64 mf, .int .i64 xf, .int .i64 ms, .int .i64 xs, .bool st, .int .i64 cs, .bool ns, .string ts, .int .i64 es, .int .i64 md, .bool hd, .int .i64 im, .int .i64 ix] 32)
  have HB0 : Hid (Below w.heap.size w ((w.alloc (.cells #[.int .i64 ca, .bool na, .string ta, .int .i64 ea] 23)).alloc (.cells #[.int .i64 k, .int .i64 mf, .int .i64 xf, .int .i64 ms, .int .i64 xs, .bool st, .int .i64 cs, .bool ns, .string ts, .int .i64 es, .int .i64 md, .bool hd, .int .i64 im, .int .i64 ix] 32))) := (((Below.refl _ _).alloc (Nat.le_refl _) _).alloc (by simp <;> omega) _)
  go_enter Tryz.func8, Tryz.ntmps8
  go_wp2_with fail
  refine (H1.out _ (HT.out.below HB0.out)).mono ?_
  rintro e w1 ⟨rfl, hb⟩
  have Ba1 := Blk.on Ba0 hb
  have Bp1 := Blk.on Bp0 hb
  have HB1 := hide (HB0.out.trans (hb.mono HB0.out.size))
  clear hb Ba0 Bp0 HB0 
  obtain ⟨ya0, ya1, ya2, ya3⟩ := Ba1.out.four
  obtain ⟨yp0, yp1, yp2, yp3, yp4, yp5, yp6, yp7, yp8, yp9, yp10, yp11, yp12, yp13⟩ := Bp1.out.fourteen
  have Ba2 := Blk.up Ba1 (.cells #[.int .i64 0, .bool false, .string ⟨#[]⟩, .string ⟨#[]⟩, .int .i64 0, .bool false] 36)
  have Bp2 := Blk.up Bp1 (.cells #[.int .i64 0, .bool false, .string ⟨#[]⟩, .string ⟨#[]⟩, .int .i64 0, .bool false] 36)
  have Bs2 := hide ((Blk.newAt w1 (w1.heap.size) (rfl) #[.int .i64 0, .bool false, .string ⟨#[]⟩, .string ⟨#[]⟩, .int .i64 0, .bool false] 36))
  have HB2 : Hid (Below w.heap.size w (w1.alloc (.cells #[.int .i64 0, .bool false, .string ⟨#[]⟩, .string ⟨#[]⟩, .int .i64 0, .bool false] 36))) := (HB1.out.alloc HB1.out.size _)
  clear Ba1 Bp1 HB1 ya0 ya1 ya2 ya3 yp0 yp1 yp2 yp3 yp4 yp5 yp6 yp7 yp8 yp9 yp10 yp11 yp12 yp13
  obtain ⟨ya0, ya1, ya2, ya3⟩ := Ba2.out.four
  obtain ⟨yp0, yp1, yp2, yp3, yp4, yp5, yp6, yp7, yp8, yp9, yp10, yp11, yp12, yp13⟩ := Bp2.out.fourteen
  obtain ⟨ys0, ys1, ys2, ys3, ys4, ys5⟩ := Bs2.out.six
  go_wp2_with fail
  refine (xawake_any _ (HT.out.below HB2.out)).mono ?_
  rintro e w3 ⟨rfl, hb⟩
  have Ba3 := Blk.on Ba2 hb
  have Bp3 := Blk.on Bp2 hb
  have Bs3 := Blk.on Bs2 hb
  have HB3 := hide (HB2.out.trans (hb.mono HB2.out.size))
  clear hb Ba2 Bp2 Bs2 HB2 ya0 ya1 ya2 ya3 yp0 yp1 yp2 yp3 yp4 yp5 yp6 yp7 yp8 yp9 yp10 yp11 yp12 yp13 ys0 ys1 ys2 ys3 ys4 ys5
  obtain ⟨ya0, ya1, ya2, ya3⟩ := Ba3.out.four
  obtain ⟨yp0, yp1, yp2, yp3, yp4, yp5, yp6, yp7, yp8, yp9, yp10, yp11, yp12, yp13⟩ := Bp3.out.fourteen
  obtain ⟨ys0, ys1, ys2, ys3, ys4, ys5⟩ := Bs3.out.six
  go_wp2
  go_ret
  exact ⟨rfl, HB3.out⟩

set_option maxRecDepth 100000 in
set_option maxHeartbeats 2000000 in
theorem true_x (ca : Int) (na : Bool) (ta : ByteArray) (ea k mf xf ms xs : Int) (st : Bool) (cs : Int) (ns : Bool) (ts : ByteArray) (es md : Int) (hd : Bool) (im ix sc : Int) (sn : Bool) (si sf : ByteArray) (sx : Int) (sm : Bool) (w : World) (htab : Tab w) (h1 : ∀ W, Tab W → Calls Tryz.prog 22 #[dcV ca na ta ea, prV k mf xf ms xs st cs ns ts es md hd im ix] W fun e w' => e = .returned (.tuple #[.agg #[.int .i64 sc, .bool sn, .string si, .string sf, .int .i64 sx, .bool sm], .int .i64 0]) ∧ Below W.heap.size W w') (hx : 0 < ix) : Calls Tryz.prog 8 #[dcV ca na ta ea, prV k mf xf ms xs st cs ns ts es md hd im ix] w fun e w' => e = .returned (.bool true) ∧ Below w.heap.size w w' := by
  have H1 := hide h1
  have HT := hide htab
  clear htab h1 
  have Ba0 := hide ((Blk.newAt w (w.heap.size) (rfl) #[.int .i64 ca, .bool na, .string ta, .int .i64 ea] 23).alloc (.cells #[.int .i64 k, .int .i64 mf, .int .i64 xf, .int .i64 ms, .int .i64 xs, .bool st, .int .i64 cs, .bool ns, .string ts, .int .i64 es, .int .i64 md, .bool hd, .int .i64 im, .int .i64 ix] 32))
  have Bp0 := hide (Blk.newAt (w.alloc (.cells #[.int .i64 ca, .bool na, .string ta, .int .i64 ea] 23)) (w.heap.size + 1) (by simp) #[.int .i64 k, .int .i64 mf, .int .i64 xf, .int .i64 ms, .int .i64 xs, .bool st, .int .i64 cs, .bool ns, .string ts, .int .i64 es, .int .i64 md, .bool hd, .int .i64 im, .int .i64 ix] 32)
  have HB0 : Hid (Below w.heap.size w ((w.alloc (.cells #[.int .i64 ca, .bool na, .string ta, .int .i64 ea] 23)).alloc (.cells #[.int .i64 k, .int .i64 mf, .int .i64 xf, .int .i64 ms, .int .i64 xs, .bool st, .int .i64 cs, .bool ns, .string ts, .int .i64 es, .int .i64 md, .bool hd, .int .i64 im, .int .i64 ix] 32))) := (((Below.refl _ _).alloc (Nat.le_refl _) _).alloc (by simp <;> omega) _)
  go_enter Tryz.func8, Tryz.ntmps8
  go_wp2_with fail
  refine (H1.out _ (HT.out.below HB0.out)).mono ?_
  rintro e w1 ⟨rfl, hb⟩
  have Ba1 := Blk.on Ba0 hb
  have Bp1 := Blk.on Bp0 hb
  have HB1 := hide (HB0.out.trans (hb.mono HB0.out.size))
  clear hb Ba0 Bp0 HB0 
  obtain ⟨ya0, ya1, ya2, ya3⟩ := Ba1.out.four
  obtain ⟨yp0, yp1, yp2, yp3, yp4, yp5, yp6, yp7, yp8, yp9, yp10, yp11, yp12, yp13⟩ := Bp1.out.fourteen
  have Ba2 := Blk.up Ba1 (.cells #[.int .i64 sc, .bool sn, .string si, .string sf, .int .i64 sx, .bool sm] 36)
  have Bp2 := Blk.up Bp1 (.cells #[.int .i64 sc, .bool sn, .string si, .string sf, .int .i64 sx, .bool sm] 36)
  have Bs2 := hide ((Blk.newAt w1 (w1.heap.size) (rfl) #[.int .i64 sc, .bool sn, .string si, .string sf, .int .i64 sx, .bool sm] 36))
  have HB2 : Hid (Below w.heap.size w (w1.alloc (.cells #[.int .i64 sc, .bool sn, .string si, .string sf, .int .i64 sx, .bool sm] 36))) := (HB1.out.alloc HB1.out.size _)
  clear Ba1 Bp1 HB1 ya0 ya1 ya2 ya3 yp0 yp1 yp2 yp3 yp4 yp5 yp6 yp7 yp8 yp9 yp10 yp11 yp12 yp13
  obtain ⟨ya0, ya1, ya2, ya3⟩ := Ba2.out.four
  obtain ⟨yp0, yp1, yp2, yp3, yp4, yp5, yp6, yp7, yp8, yp9, yp10, yp11, yp12, yp13⟩ := Bp2.out.fourteen
  obtain ⟨ys0, ys1, ys2, ys3, ys4, ys5⟩ := Bs2.out.six
  go_wp2_with fail
  refine (xawake_any _ (HT.out.below HB2.out)).mono ?_
  rintro e w3 ⟨rfl, hb⟩
  have Ba3 := Blk.on Ba2 hb
  have Bp3 := Blk.on Bp2 hb
  have Bs3 := Blk.on Bs2 hb
  have HB3 := hide (HB2.out.trans (hb.mono HB2.out.size))
  clear hb Ba2 Bp2 Bs2 HB2 ya0 ya1 ya2 ya3 yp0 yp1 yp2 yp3 yp4 yp5 yp6 yp7 yp8 yp9 yp10 yp11 yp12 yp13 ys0 ys1 ys2 ys3 ys4 ys5
  obtain ⟨ya0, ya1, ya2, ya3⟩ := Ba3.out.four
  obtain ⟨yp0, yp1, yp2, yp3, yp4, yp5, yp6, yp7, yp8, yp9, yp10, yp11, yp12, yp13⟩ := Bp3.out.fourteen
  obtain ⟨ys0, ys1, ys2, ys3, ys4, ys5⟩ := Bs3.out.six
  go_wp2
  go_ret
  exact ⟨rfl, HB3.out⟩

set_option maxRecDepth 100000 in
set_option maxHeartbeats 2000000 in
theorem true_v (ca : Int) (na : Bool) (ta : ByteArray) (ea k mf xf ms xs : Int) (st : Bool) (cs : Int) (ns : Bool) (ts : ByteArray) (es md : Int) (hd : Bool) (im sc : Int) (sn : Bool) (si sf : ByteArray) (sx : Int) (sm : Bool) (cx : Int) (nx : Bool) (tx : ByteArray) (ex : Int) (w : World) (htab : Tab w) (h1 : ∀ W, Tab W → Calls Tryz.prog 22 #[dcV ca na ta ea, prV k mf xf ms xs st cs ns ts es md hd im 0] W fun e w' => e = .returned (.tuple #[.agg #[.int .i64 sc, .bool sn, .string si, .string sf, .int .i64 sx, .bool sm], .int .i64 0]) ∧ Below W.heap.size W w') (h2 : ∀ W, Tab W → Calls Tryz.prog 24 #[shV sc sn si sf sx sm] W fun e w' => e = .returned (.tuple #[.agg #[.int .i64 cx, .bool nx, .string tx, .int .i64 ex], .int .i64 0]) ∧ Below W.heap.size W w') (h3 : ∀ W, Tab W → Calls Tryz.prog 26 #[dcV ca na ta ea, prV k mf xf ms xs st cs ns ts es md hd im 0] W fun e w' => e = .returned (.tuple #[.agg #[.int .i64 cx, .bool nx, .string tx, .int .i64 ex], .int .i64 0]) ∧ Below W.heap.size W w') : Calls Tryz.prog 8 #[dcV ca na ta ea, prV k mf xf ms xs st cs ns ts es md hd im 0] w fun e w' => e = .returned (.bool true) ∧ Below w.heap.size w w' := by
  have H1 := hide h1
  have H2 := hide h2
  have H3 := hide h3
  have HT := hide htab
  clear htab h1 h2 h3 
  have Ba0 := hide ((Blk.newAt w (w.heap.size) (rfl) #[.int .i64 ca, .bool na, .string ta, .int .i64 ea] 23).alloc (.cells #[.int .i64 k, .int .i64 mf, .int .i64 xf, .int .i64 ms, .int .i64 xs, .bool st, .int .i64 cs, .bool ns, .string ts, .int .i64 es, .int .i64 md, .bool hd, .int .i64 im, .int .i64 0] 32))
  have Bp0 := hide (Blk.newAt (w.alloc (.cells #[.int .i64 ca, .bool na, .string ta, .int .i64 ea] 23)) (w.heap.size + 1) (by simp) #[.int .i64 k, .int .i64 mf, .int .i64 xf, .int .i64 ms, .int .i64 xs, .bool st, .int .i64 cs, .bool ns, .string ts, .int .i64 es, .int .i64 md, .bool hd, .int .i64 im, .int .i64 0] 32)
  have HB0 : Hid (Below w.heap.size w ((w.alloc (.cells #[.int .i64 ca, .bool na, .string ta, .int .i64 ea] 23)).alloc (.cells #[.int .i64 k, .int .i64 mf, .int .i64 xf, .int .i64 ms, .int .i64 xs, .bool st, .int .i64 cs, .bool ns, .string ts, .int .i64 es, .int .i64 md, .bool hd, .int .i64 im, .int .i64 0] 32))) := (((Below.refl _ _).alloc (Nat.le_refl _) _).alloc (by simp <;> omega) _)
  go_enter Tryz.func8, Tryz.ntmps8
  go_wp2_with fail
  refine (H1.out _ (HT.out.below HB0.out)).mono ?_
  rintro e w1 ⟨rfl, hb⟩
  have Ba1 := Blk.on Ba0 hb
  have Bp1 := Blk.on Bp0 hb
  have HB1 := hide (HB0.out.trans (hb.mono HB0.out.size))
  clear hb Ba0 Bp0 HB0 
  obtain ⟨ya0, ya1, ya2, ya3⟩ := Ba1.out.four
  obtain ⟨yp0, yp1, yp2, yp3, yp4, yp5, yp6, yp7, yp8, yp9, yp10, yp11, yp12, yp13⟩ := Bp1.out.fourteen
  have Ba2 := Blk.up Ba1 (.cells #[.int .i64 sc, .bool sn, .string si, .string sf, .int .i64 sx, .bool sm] 36)
  have Bp2 := Blk.up Bp1 (.cells #[.int .i64 sc, .bool sn, .string si, .string sf, .int .i64 sx, .bool sm] 36)
  have Bs2 := hide ((Blk.newAt w1 (w1.heap.size) (rfl) #[.int .i64 sc, .bool sn, .string si, .string sf, .int .i64 sx, .bool sm] 36))
  have HB2 : Hid (Below w.heap.size w (w1.alloc (.cells #[.int .i64 sc, .bool sn, .string si, .string sf, .int .i64 sx, .bool sm] 36))) := (HB1.out.alloc HB1.out.size _)
  clear Ba1 Bp1 HB1 ya0 ya1 ya2 ya3 yp0 yp1 yp2 yp3 yp4 yp5 yp6 yp7 yp8 yp9 yp10 yp11 yp12 yp13
  obtain ⟨ya0, ya1, ya2, ya3⟩ := Ba2.out.four
  obtain ⟨yp0, yp1, yp2, yp3, yp4, yp5, yp6, yp7, yp8, yp9, yp10, yp11, yp12, yp13⟩ := Bp2.out.fourteen
  obtain ⟨ys0, ys1, ys2, ys3, ys4, ys5⟩ := Bs2.out.six
  go_wp2_with fail
  refine (xawake_any _ (HT.out.below HB2.out)).mono ?_
  rintro e w3 ⟨rfl, hb⟩
  have Ba3 := Blk.on Ba2 hb
  have Bp3 := Blk.on Bp2 hb
  have Bs3 := Blk.on Bs2 hb
  have HB3 := hide (HB2.out.trans (hb.mono HB2.out.size))
  clear hb Ba2 Bp2 Bs2 HB2 ya0 ya1 ya2 ya3 yp0 yp1 yp2 yp3 yp4 yp5 yp6 yp7 yp8 yp9 yp10 yp11 yp12 yp13 ys0 ys1 ys2 ys3 ys4 ys5
  obtain ⟨ya0, ya1, ya2, ya3⟩ := Ba3.out.four
  obtain ⟨yp0, yp1, yp2, yp3, yp4, yp5, yp6, yp7, yp8, yp9, yp10, yp11, yp12, yp13⟩ := Bp3.out.fourteen
  obtain ⟨ys0, ys1, ys2, ys3, ys4, ys5⟩ := Bs3.out.six
  go_wp2_with fail
  refine (H2.out _ (HT.out.below HB3.out)).mono ?_
  rintro e w4 ⟨rfl, hb⟩
  have Ba4 := Blk.on Ba3 hb
  have Bp4 := Blk.on Bp3 hb
  have Bs4 := Blk.on Bs3 hb
  have HB4 := hide (HB3.out.trans (hb.mono HB3.out.size))
  clear hb Ba3 Bp3 Bs3 HB3 ya0 ya1 ya2 ya3 yp0 yp1 yp2 yp3 yp4 yp5 yp6 yp7 yp8 yp9 yp10 yp11 yp12 yp13 ys0 ys1 ys2 ys3 ys4 ys5
  obtain ⟨ya0, ya1, ya2, ya3⟩ := Ba4.out.four
  obtain ⟨yp0, yp1, yp2, yp3, yp4, yp5, yp6, yp7, yp8, yp9, yp10, yp11, yp12, yp13⟩ := Bp4.out.fourteen
  obtain ⟨ys0, ys1, ys2, ys3, ys4, ys5⟩ := Bs4.out.six
  have Ba5 := Blk.up Ba4 (.cells #[.int .i64 cx, .bool nx, .string tx, .int .i64 ex] 23)
  have Bp5 := Blk.up Bp4 (.cells #[.int .i64 cx, .bool nx, .string tx, .int .i64 ex] 23)
  have Bs5 := Blk.up Bs4 (.cells #[.int .i64 cx, .bool nx, .string tx, .int .i64 ex] 23)
  have Bv5 := hide ((Blk.newAt w4 (w4.heap.size) (rfl) #[.int .i64 cx, .bool nx, .string tx, .int .i64 ex] 23))
  have HB5 : Hid (Below w.heap.size w (w4.alloc (.cells #[.int .i64 cx, .bool nx, .string tx, .int .i64 ex] 23))) := (HB4.out.alloc HB4.out.size _)
  clear Ba4 Bp4 Bs4 HB4 ya0 ya1 ya2 ya3 yp0 yp1 yp2 yp3 yp4 yp5 yp6 yp7 yp8 yp9 yp10 yp11 yp12 yp13 ys0 ys1 ys2 ys3 ys4 ys5
  obtain ⟨ya0, ya1, ya2, ya3⟩ := Ba5.out.four
  obtain ⟨yp0, yp1, yp2, yp3, yp4, yp5, yp6, yp7, yp8, yp9, yp10, yp11, yp12, yp13⟩ := Bp5.out.fourteen
  obtain ⟨ys0, ys1, ys2, ys3, ys4, ys5⟩ := Bs5.out.six
  obtain ⟨yv0, yv1, yv2, yv3⟩ := Bv5.out.four
  go_wp2_with fail
  refine (H3.out _ (HT.out.below HB5.out)).mono ?_
  rintro e w6 ⟨rfl, hb⟩
  have Ba6 := Blk.on Ba5 hb
  have Bp6 := Blk.on Bp5 hb
  have Bs6 := Blk.on Bs5 hb
  have Bv6 := Blk.on Bv5 hb
  have HB6 := hide (HB5.out.trans (hb.mono HB5.out.size))
  clear hb Ba5 Bp5 Bs5 Bv5 HB5 ya0 ya1 ya2 ya3 yp0 yp1 yp2 yp3 yp4 yp5 yp6 yp7 yp8 yp9 yp10 yp11 yp12 yp13 ys0 ys1 ys2 ys3 ys4 ys5 yv0 yv1 yv2 yv3
  obtain ⟨ya0, ya1, ya2, ya3⟩ := Ba6.out.four
  obtain ⟨yp0, yp1, yp2, yp3, yp4, yp5, yp6, yp7, yp8, yp9, yp10, yp11, yp12, yp13⟩ := Bp6.out.fourteen
  obtain ⟨ys0, ys1, ys2, ys3, ys4, ys5⟩ := Bs6.out.six
  obtain ⟨yv0, yv1, yv2, yv3⟩ := Bv6.out.four
  have Ba7 := Blk.up Ba6 (.cells #[.int .i64 cx, .bool nx, .string tx, .int .i64 ex] 23)
  have Bp7 := Blk.up Bp6 (.cells #[.int .i64 cx, .bool nx, .string tx, .int .i64 ex] 23)
  have Bs7 := Blk.up Bs6 (.cells #[.int .i64 cx, .bool nx, .string tx, .int .i64 ex] 23)
  have Bv7 := Blk.up Bv6 (.cells #[.int .i64 cx, .bool nx, .string tx, .int .i64 ex] 23)
  have Br7 := hide ((Blk.newAt w6 (w6.heap.size) (rfl) #[.int .i64 cx, .bool nx, .string tx, .int .i64 ex] 23))
  have HB7 : Hid (Below w.heap.size w (w6.alloc (.cells #[.int .i64 cx, .bool nx, .string tx, .int .i64 ex] 23))) := (HB6.out.alloc HB6.out.size _)
  clear Ba6 Bp6 Bs6 Bv6 HB6 ya0 ya1 ya2 ya3 yp0 yp1 yp2 yp3 yp4 yp5 yp6 yp7 yp8 yp9 yp10 yp11 yp12 yp13 ys0 ys1 ys2 ys3 ys4 ys5 yv0 yv1 yv2 yv3
  obtain ⟨ya0, ya1, ya2, ya3⟩ := Ba7.out.four
  obtain ⟨yp0, yp1, yp2, yp3, yp4, yp5, yp6, yp7, yp8, yp9, yp10, yp11, yp12, yp13⟩ := Bp7.out.fourteen
  obtain ⟨ys0, ys1, ys2, ys3, ys4, ys5⟩ := Bs7.out.six
  obtain ⟨yv0, yv1, yv2, yv3⟩ := Bv7.out.four
  obtain ⟨yr0, yr1, yr2, yr3⟩ := Br7.out.four
  go_wp2
  go_ret
  exact ⟨rfl, HB7.out⟩

theorem roundP_err {p : PrecT} {c : Int} {n : Bool} {l : List UInt8} {e : Int} (hp : MayP p) (h : MayD c n l e) : (roundP p c n l e).2 = 0 ∨ (roundP p c n l e).2 = 51 := by
  by_cases k : p.kind = 0
  · rw [roundP_0 k]; exact .inl rfl
  · rw [roundP_rnd hp h k]
    unfold rndD
    split
    · exact .inl rfl
    · unfold tellF
      split
      · exact .inl rfl
      · exact .inr rfl

theorem showP_cases (c : Int) (n : Bool) (l : List UInt8) (e : Int) (p : PrecT) : showP c n l e p = (zeroS, 51) ∨ showP c n l e p = (zeroS, 52) ∨ showP c n l e p = (zeroS, 70) ∨ ∃ r, MayD c n l e ∧ MayP p ∧ roundP p c n l e = (r, 0) ∧ May r ∧ showP c n l e p = (shownP p r, 0) := by
  by_cases h : MayD c n l e
  · by_cases hp : MayP p
    · rcases roundP_err hp h with g | g
      · refine .inr (.inr (.inr ⟨(roundP p c n l e).1, h, hp, ?_, roundP_may hp h, showP_in h hp g⟩))
        rw [← g]
      · refine .inl ?_
        rw [showP_err h hp (by omega), g]
    · exact .inr (.inr (.inl (showP_bad h hp)))
  · exact .inr (.inl (showP_no h))

theorem wtrue_walk (w : World) (htab : Tab w) (ca : Int) (na : Bool) (ta : ByteArray) (ea k mf xf ms xs : Int) (st : Bool) (cs : Int) (ns : Bool) (ts : ByteArray) (es md : Int) (hd : Bool) (im ix : Int) : Calls Tryz.prog 8 #[dcV ca na ta ea, prV k mf xf ms xs st cs ns ts es md hd im ix] w fun e w' => e = .returned (.bool true) ∧ Below w.heap.size w w' := by
  have SA := fun W hW => Show_any ca na ta ea k mf xf ms xs st cs ns ts es md hd im ix W hW
  rcases showP_cases ca na (bys ta) ea ⟨k, mf, xf, ms, xs, st, cs, ns, bys ts, es, md, hd, im, ix⟩ with g | g | g | ⟨r, h, hp, hr, hm, g⟩
  · rw [g] at SA; exact true_51 ca na ta ea k mf xf ms xs st cs ns ts es md hd im ix w htab SA
  · rw [g] at SA; exact true_52 ca na ta ea k mf xf ms xs st cs ns ts es md hd im ix w htab SA
  · rw [g] at SA; exact true_70 ca na ta ea k mf xf ms xs st cs ns ts es md hd im ix w htab SA
  · rw [g] at SA
    by_cases hx : 0 < ix
    · exact true_x ca na ta ea k mf xf ms xs st cs ns ts es md hd im ix _ _ _ _ _ _ w htab SA hx
    · have hx0 : ix = 0 := by have := (mayP_imax hp).2.2.1; simp only at this; omega
      subst hx0
      obtain ⟨hS, hv⟩ := value_shown hp hm rfl
      have LR := fun W hW => lrnd_any ca na ta ea k mf xf ms xs st cs ns ts es md hd im 0 W hW h hp
      rw [hr] at LR
      generalize shownP _ r = s at SA hS hv
      obtain ⟨sc, sn, si, sf, sx, sm⟩ := s
      have VL := fun W hW => Value_any sc sn ⟨si.toArray⟩ ⟨sf.toArray⟩ sx sm W hW
      rw [bys_mk si, bys_mk sf, hv] at VL
      exact true_v ca na ta ea k mf xf ms xs st cs ns ts es md hd im sc sn ⟨si.toArray⟩ ⟨sf.toArray⟩ sx sm _ _ _ _ w htab SA VL LR

end Go.Proofs.YtckijnlolmbdiaaGreatDoor

namespace Go.Proofs.YtckijnlolmbdiaaGreatDoor
open Go.RowKit

theorem tg : Tryz.prog.globalNamed "internal/strconv.uint64pow10" = some 5 := by kernel_rfl
theorem tgt : (Tryz.prog.globals[5]?).map (·.type) = some 228 := by kernel_rfl
theorem tc20 : Tryz.prog.cellsOf 228 = 20 := by kernel_rfl
theorem tc1 : Tryz.prog.cellsOf 120 = 1 := by kernel_rfl

theorem table {W : World} (h : laidMetH Tryz.prog [("math/bits.deBruijn32tab", Rows.laid_math_bits_deBruijn32tab), ("math/bits.deBruijn64tab", Rows.laid_math_bits_deBruijn64tab), ("internal/strconv.uint64pow10", Rows.laid_internal_strconv_uint64pow10), ("unicode/utf8.acceptRanges", Rows.laid_unicode_utf8_acceptRanges), ("strconv.ErrRange", Rows.laid_strconv_ErrRange), ("strconv.ErrSyntax", Rows.laid_strconv_ErrSyntax), ("unicode/utf8.first", Rows.laid_unicode_utf8_first)] W) : Tab W := by
  have h' : laidMet Tryz.prog [("math/bits.deBruijn32tab", Rows.laid_math_bits_deBruijn32tab), ("math/bits.deBruijn64tab", Rows.laid_math_bits_deBruijn64tab), ("internal/strconv.uint64pow10", Rows.laid_internal_strconv_uint64pow10), ("unicode/utf8.acceptRanges", Rows.laid_unicode_utf8_acceptRanges), ("strconv.ErrRange", Rows.laid_strconv_ErrRange), ("strconv.ErrSyntax", Rows.laid_strconv_ErrSyntax), ("unicode/utf8.first", Rows.laid_unicode_utf8_first)] W := h
  obtain ⟨ps, ⟨_, _, _, _, _, q1, _, _, _, _, ⟨_, _, _, _, _, q2, _, _, _, _, ⟨g', t', cs, fuel, p3, q3, hg', ht', hvar, hd, _, _⟩, _⟩, _⟩, _⟩ := h'
  obtain rfl := Option.some.inj (tg.symm.trans hg')
  obtain rfl := Option.some.inj (tgt.symm.trans ht')
  unfold Tab Lib.TabIs
  have hd' : DataW.trod (fun _ => ()) Tryz.prog W 0 (fun _ => true) false fuel 228 cs.toList = some (Lib.tabData .u64 Lib.pow10Tab, p3) := hd
  rw [hvar, ← Lib.cells_of_tab Tryz.underlying228 Tryz.underlying120 tc1 tc20 hd']

def tabVals : DataW Unit → Array Value
  | .agg l => (l.flatMap fun
      | .lit (.int k z) => [Value.int k z]
      | .agg l2 => l2.map fun
        | .lit (.int k z) => Value.int k z
        | _ => .int .u8 0
      | _ => []).toArray
  | _ => #[]

def putVals (d : DataW Unit) : Obj → Obj
  | .cells _ t frozen => .cells (tabVals d) t frozen
  | o => o

def errText : DataW Unit → ByteArray
  | .iface _ (.ptr (.agg [.lit (.string l)])) => ⟨l.toArray⟩
  | _ => ⟨#[]⟩

def putErr (b : Nat) : Obj → Obj
  | .cells _ t frozen => .cells #[.iface 231 (.pointer (some ⟨b, 0, none⟩))] t frozen
  | o => o

noncomputable def laidWorld (os : Os) : World :=
  { World.holding Tryz.prog os ⟨#[], #[], []⟩ with
    heap := (((((((((World.holding Tryz.prog os ⟨#[], #[], []⟩).heap.modify 8 (putVals Rows.laid_math_bits_deBruijn32tab)).modify 9 (putVals Rows.laid_math_bits_deBruijn64tab)).modify 5 (putVals Rows.laid_internal_strconv_uint64pow10)).modify 7 (putVals Rows.laid_unicode_utf8_acceptRanges)).modify 6 (putVals Rows.laid_unicode_utf8_first)).modify 1 (putErr (World.holding Tryz.prog os ⟨#[], #[], []⟩).heap.size)).modify 0 (putErr ((World.holding Tryz.prog os ⟨#[], #[], []⟩).heap.size + 1))).push (.cells #[.string (errText Rows.laid_strconv_ErrRange)] 233)).push (.cells #[.string (errText Rows.laid_strconv_ErrSyntax)] 233) }

end Go.Proofs.YtckijnlolmbdiaaGreatDoor
