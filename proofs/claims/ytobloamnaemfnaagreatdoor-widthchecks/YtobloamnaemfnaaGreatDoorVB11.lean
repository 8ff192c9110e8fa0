/-
  What width's small tests do.
  What width's mayStep and fieldsOf.. do.
-/
import Derived.Test.YtobloamnaemfnaaGreatDoorVB10
import Derived.Test.YtobloamnaemfnaaGreatDoorVB5
import Derived.Laws.EntriesVeiled
namespace Go.Proofs.YtobloamnaemfnaaGreatDoor
open Go.RowKit

abbrev prV (k mf xf ms xs : Int) (st : Bool) (cs : Int) (ns : Bool) (ts : ByteArray) (es md : Int) (hd : Bool) (im ix : Int) : Value := .agg #[.int .i64 k, .int .i64 mf, .int .i64 xf, .int .i64 ms, .int .i64 xs, .bool st, .int .i64 cs, .bool ns, .string ts, .int .i64 es, .int .i64 md, .bool hd, .int .i64 im, .int .i64 ix]

set_option maxHeartbeats 1000000 in
theorem within_t (n lo hi : Int) (w : World) (h1 : lo ≤ n) (h2 : n ≤ hi) : Calls Tryz.prog 70 #[.int .i64 n, .int .i64 lo, .int .i64 hi] w fun e w' => e = .returned (.bool true) ∧ Below w.heap.size w w' := by
  go_enter Tryz.func70, Tryz.ntmps70
  go_wp2
  go_ret
  exact ⟨rfl, Below.refl _ _⟩

set_option maxHeartbeats 1000000 in
theorem within_f1 (n lo hi : Int) (w : World) (h1 : n < lo) : Calls Tryz.prog 70 #[.int .i64 n, .int .i64 lo, .int .i64 hi] w fun e w' => e = .returned (.bool false) ∧ Below w.heap.size w w' := by
  go_enter Tryz.func70, Tryz.ntmps70
  go_wp2
  go_ret
  exact ⟨rfl, Below.refl _ _⟩

set_option maxHeartbeats 1000000 in
theorem within_f2 (n lo hi : Int) (w : World) (h1 : lo ≤ n) (h2 : hi < n) : Calls Tryz.prog 70 #[.int .i64 n, .int .i64 lo, .int .i64 hi] w fun e w' => e = .returned (.bool false) ∧ Below w.heap.size w w' := by
  go_enter Tryz.func70, Tryz.ntmps70
  go_wp2
  go_ret
  exact ⟨congrArg (fun b => Ending.returned (Value.bool b)) (show decide (n ≤ hi) = false by simp; omega), Below.refl _ _⟩

theorem within_f (n lo hi : Int) (w : World) (h : ¬ (lo ≤ n ∧ n ≤ hi)) : Calls Tryz.prog 70 #[.int .i64 n, .int .i64 lo, .int .i64 hi] w fun e w' => e = .returned (.bool false) ∧ Below w.heap.size w w' := by
  by_cases h1 : lo ≤ n
  · exact within_f2 n lo hi w h1 (by omega)
  · exact within_f1 n lo hi w (by omega)

set_option maxHeartbeats 1000000 in
theorem lacksFrac_t (k ms xs : Int) (st : Bool) (cs : Int) (ns : Bool) (ts : ByteArray) (es md : Int) (hd : Bool) (im ix : Int) (w : World)  : Calls Tryz.prog 119 #[prV k 0 0 ms xs st cs ns ts es md hd im ix] w fun e w' => e = .returned (.bool true) ∧ Below w.heap.size w w' := by
  have Bp0 := hide (Blk.newAt w (w.heap.size) (rfl) #[.int .i64 k, .int .i64 0, .int .i64 0, .int .i64 ms, .int .i64 xs, .bool st, .int .i64 cs, .bool ns, .string ts, .int .i64 es, .int .i64 md, .bool hd, .int .i64 im, .int .i64 ix] 61)
  have HB0 : Hid (Below w.heap.size w (w.alloc (.cells #[.int .i64 k, .int .i64 0, .int .i64 0, .int .i64 ms, .int .i64 xs, .bool st, .int .i64 cs, .bool ns, .string ts, .int .i64 es, .int .i64 md, .bool hd, .int .i64 im, .int .i64 ix] 61))) := ((Below.refl _ _).alloc (Nat.le_refl _) _)
  go_enter Tryz.func119, Tryz.ntmps119
  go_wp2
  go_ret
  exact ⟨rfl, HB0.out⟩

set_option maxHeartbeats 1000000 in
theorem lacksFrac_f1 (k mf xf ms xs : Int) (st : Bool) (cs : Int) (ns : Bool) (ts : ByteArray) (es md : Int) (hd : Bool) (im ix : Int) (w : World) (h : ¬ mf = 0) : Calls Tryz.prog 119 #[prV k mf xf ms xs st cs ns ts es md hd im ix] w fun e w' => e = .returned (.bool false) ∧ Below w.heap.size w w' := by
  have Bp0 := hide (Blk.newAt w (w.heap.size) (rfl) #[.int .i64 k, .int .i64 mf, .int .i64 xf, .int .i64 ms, .int .i64 xs, .bool st, .int .i64 cs, .bool ns, .string ts, .int .i64 es, .int .i64 md, .bool hd, .int .i64 im, .int .i64 ix] 61)
  have HB0 : Hid (Below w.heap.size w (w.alloc (.cells #[.int .i64 k, .int .i64 mf, .int .i64 xf, .int .i64 ms, .int .i64 xs, .bool st, .int .i64 cs, .bool ns, .string ts, .int .i64 es, .int .i64 md, .bool hd, .int .i64 im, .int .i64 ix] 61))) := ((Below.refl _ _).alloc (Nat.le_refl _) _)
  go_enter Tryz.func119, Tryz.ntmps119
  go_wp2
  go_ret
  exact ⟨rfl, HB0.out⟩

set_option maxHeartbeats 1000000 in
theorem lacksFrac_f2 (k xf ms xs : Int) (st : Bool) (cs : Int) (ns : Bool) (ts : ByteArray) (es md : Int) (hd : Bool) (im ix : Int) (w : World) (h : ¬ xf = 0) : Calls Tryz.prog 119 #[prV k 0 xf ms xs st cs ns ts es md hd im ix] w fun e w' => e = .returned (.bool false) ∧ Below w.heap.size w w' := by
  have Bp0 := hide (Blk.newAt w (w.heap.size) (rfl) #[.int .i64 k, .int .i64 0, .int .i64 xf, .int .i64 ms, .int .i64 xs, .bool st, .int .i64 cs, .bool ns, .string ts, .int .i64 es, .int .i64 md, .bool hd, .int .i64 im, .int .i64 ix] 61)
  have HB0 : Hid (Below w.heap.size w (w.alloc (.cells #[.int .i64 k, .int .i64 0, .int .i64 xf, .int .i64 ms, .int .i64 xs, .bool st, .int .i64 cs, .bool ns, .string ts, .int .i64 es, .int .i64 md, .bool hd, .int .i64 im, .int .i64 ix] 61))) := ((Below.refl _ _).alloc (Nat.le_refl _) _)
  go_enter Tryz.func119, Tryz.ntmps119
  go_wp2
  go_ret
  exact ⟨congrArg (fun b => Ending.returned (Value.bool b)) (show (xf == 0) = false by simp; omega), HB0.out⟩

set_option maxHeartbeats 1000000 in
theorem lacksSig_t (k mf xf : Int) (st : Bool) (cs : Int) (ns : Bool) (ts : ByteArray) (es md : Int) (hd : Bool) (im ix : Int) (w : World)  : Calls Tryz.prog 120 #[prV k mf xf 0 0 st cs ns ts es md hd im ix] w fun e w' => e = .returned (.bool true) ∧ Below w.heap.size w w' := by
  have Bp0 := hide (Blk.newAt w (w.heap.size) (rfl) #[.int .i64 k, .int .i64 mf, .int .i64 xf, .int .i64 0, .int .i64 0, .bool st, .int .i64 cs, .bool ns, .string ts, .int .i64 es, .int .i64 md, .bool hd, .int .i64 im, .int .i64 ix] 61)
  have HB0 : Hid (Below w.heap.size w (w.alloc (.cells #[.int .i64 k, .int .i64 mf, .int .i64 xf, .int .i64 0, .int .i64 0, .bool st, .int .i64 cs, .bool ns, .string ts, .int .i64 es, .int .i64 md, .bool hd, .int .i64 im, .int .i64 ix] 61))) := ((Below.refl _ _).alloc (Nat.le_refl _) _)
  go_enter Tryz.func120, Tryz.ntmps120
  go_wp2
  go_ret
  exact ⟨rfl, HB0.out⟩

set_option maxHeartbeats 1000000 in
theorem lacksSig_f1 (k mf xf ms xs : Int) (st : Bool) (cs : Int) (ns : Bool) (ts : ByteArray) (es md : Int) (hd : Bool) (im ix : Int) (w : World) (h : ¬ ms = 0) : Calls Tryz.prog 120 #[prV k mf xf ms xs st cs ns ts es md hd im ix] w fun e w' => e = .returned (.bool false) ∧ Below w.heap.size w w' := by
  have Bp0 := hide (Blk.newAt w (w.heap.size) (rfl) #[.int .i64 k, .int .i64 mf, .int .i64 xf, .int .i64 ms, .int .i64 xs, .bool st, .int .i64 cs, .bool ns, .string ts, .int .i64 es, .int .i64 md, .bool hd, .int .i64 im, .int .i64 ix] 61)
  have HB0 : Hid (Below w.heap.size w (w.alloc (.cells #[.int .i64 k, .int .i64 mf, .int .i64 xf, .int .i64 ms, .int .i64 xs, .bool st, .int .i64 cs, .bool ns, .string ts, .int .i64 es, .int .i64 md, .bool hd, .int .i64 im, .int .i64 ix] 61))) := ((Below.refl _ _).alloc (Nat.le_refl _) _)
  go_enter Tryz.func120, Tryz.ntmps120
  go_wp2
  go_ret
  exact ⟨rfl, HB0.out⟩

set_option maxHeartbeats 1000000 in
theorem lacksSig_f2 (k mf xf xs : Int) (st : Bool) (cs : Int) (ns : Bool) (ts : ByteArray) (es md : Int) (hd : Bool) (im ix : Int) (w : World) (h : ¬ xs = 0) : Calls Tryz.prog 120 #[prV k mf xf 0 xs st cs ns ts es md hd im ix] w fun e w' => e = .returned (.bool false) ∧ Below w.heap.size w w' := by
  have Bp0 := hide (Blk.newAt w (w.heap.size) (rfl) #[.int .i64 k, .int .i64 mf, .int .i64 xf, .int .i64 0, .int .i64 xs, .bool st, .int .i64 cs, .bool ns, .string ts, .int .i64 es, .int .i64 md, .bool hd, .int .i64 im, .int .i64 ix] 61)
  have HB0 : Hid (Below w.heap.size w (w.alloc (.cells #[.int .i64 k, .int .i64 mf, .int .i64 xf, .int .i64 0, .int .i64 xs, .bool st, .int .i64 cs, .bool ns, .string ts, .int .i64 es, .int .i64 md, .bool hd, .int .i64 im, .int .i64 ix] 61))) := ((Below.refl _ _).alloc (Nat.le_refl _) _)
  go_enter Tryz.func120, Tryz.ntmps120
  go_wp2
  go_ret
  exact ⟨congrArg (fun b => Ending.returned (Value.bool b)) (show (xs == 0) = false by simp; omega), HB0.out⟩

set_option maxHeartbeats 1000000 in
theorem lacksStep_t (k mf xf ms xs : Int) (st : Bool) (md : Int) (hd : Bool) (im ix : Int) (w : World)  : Calls Tryz.prog 121 #[prV k mf xf ms xs st 0 false ⟨#[]⟩ 0 md hd im ix] w fun e w' => e = .returned (.bool true) ∧ Below w.heap.size w w' := by
  have Bp0 := hide (Blk.newAt w (w.heap.size) (rfl) #[.int .i64 k, .int .i64 mf, .int .i64 xf, .int .i64 ms, .int .i64 xs, .bool st, .int .i64 0, .bool false, .string ⟨#[]⟩, .int .i64 0, .int .i64 md, .bool hd, .int .i64 im, .int .i64 ix] 61)
  have HB0 : Hid (Below w.heap.size w (w.alloc (.cells #[.int .i64 k, .int .i64 mf, .int .i64 xf, .int .i64 ms, .int .i64 xs, .bool st, .int .i64 0, .bool false, .string ⟨#[]⟩, .int .i64 0, .int .i64 md, .bool hd, .int .i64 im, .int .i64 ix] 61))) := ((Below.refl _ _).alloc (Nat.le_refl _) _)
  go_enter Tryz.func121, Tryz.ntmps121
  go_wp2
  go_ret
  exact ⟨rfl, HB0.out⟩

set_option maxHeartbeats 1000000 in
theorem lacksStep_f1 (k mf xf ms xs : Int) (st : Bool) (cs : Int) (ns : Bool) (ts : ByteArray) (es md : Int) (hd : Bool) (im ix : Int) (w : World) (h : ¬ cs = 0) : Calls Tryz.prog 121 #[prV k mf xf ms xs st cs ns ts es md hd im ix] w fun e w' => e = .returned (.bool false) ∧ Below w.heap.size w w' := by
  have Bp0 := hide (Blk.newAt w (w.heap.size) (rfl) #[.int .i64 k, .int .i64 mf, .int .i64 xf, .int .i64 ms, .int .i64 xs, .bool st, .int .i64 cs, .bool ns, .string ts, .int .i64 es, .int .i64 md, .bool hd, .int .i64 im, .int .i64 ix] 61)
  have HB0 : Hid (Below w.heap.size w (w.alloc (.cells #[.int .i64 k, .int .i64 mf, .int .i64 xf, .int .i64 ms, .int .i64 xs, .bool st, .int .i64 cs, .bool ns, .string ts, .int .i64 es, .int .i64 md, .bool hd, .int .i64 im, .int .i64 ix] 61))) := ((Below.refl _ _).alloc (Nat.le_refl _) _)
  go_enter Tryz.func121, Tryz.ntmps121
  go_wp2
  go_ret
  exact ⟨rfl, HB0.out⟩

set_option maxHeartbeats 1000000 in
theorem lacksStep_f2 (k mf xf ms xs : Int) (st : Bool) (ts : ByteArray) (es md : Int) (hd : Bool) (im ix : Int) (w : World)  : Calls Tryz.prog 121 #[prV k mf xf ms xs st 0 true ts es md hd im ix] w fun e w' => e = .returned (.bool false) ∧ Below w.heap.size w w' := by
  have Bp0 := hide (Blk.newAt w (w.heap.size) (rfl) #[.int .i64 k, .int .i64 mf, .int .i64 xf, .int .i64 ms, .int .i64 xs, .bool st, .int .i64 0, .bool true, .string ts, .int .i64 es, .int .i64 md, .bool hd, .int .i64 im, .int .i64 ix] 61)
  have HB0 : Hid (Below w.heap.size w (w.alloc (.cells #[.int .i64 k, .int .i64 mf, .int .i64 xf, .int .i64 ms, .int .i64 xs, .bool st, .int .i64 0, .bool true, .string ts, .int .i64 es, .int .i64 md, .bool hd, .int .i64 im, .int .i64 ix] 61))) := ((Below.refl _ _).alloc (Nat.le_refl _) _)
  go_enter Tryz.func121, Tryz.ntmps121
  go_wp2
  go_ret
  exact ⟨rfl, HB0.out⟩

set_option maxHeartbeats 1000000 in
theorem lacksStep_f3 (k mf xf ms xs : Int) (st : Bool) (ts : ByteArray) (es md : Int) (hd : Bool) (im ix : Int) (w : World) (h : ts.size ≠ 0) : Calls Tryz.prog 121 #[prV k mf xf ms xs st 0 false ts es md hd im ix] w fun e w' => e = .returned (.bool false) ∧ Below w.heap.size w w' := by
  have h3 := toList_ne h
  clear h
  have Bp0 := hide (Blk.newAt w (w.heap.size) (rfl) #[.int .i64 k, .int .i64 mf, .int .i64 xf, .int .i64 ms, .int .i64 xs, .bool st, .int .i64 0, .bool false, .string ts, .int .i64 es, .int .i64 md, .bool hd, .int .i64 im, .int .i64 ix] 61)
  have HB0 : Hid (Below w.heap.size w (w.alloc (.cells #[.int .i64 k, .int .i64 mf, .int .i64 xf, .int .i64 ms, .int .i64 xs, .bool st, .int .i64 0, .bool false, .string ts, .int .i64 es, .int .i64 md, .bool hd, .int .i64 im, .int .i64 ix] 61))) := ((Below.refl _ _).alloc (Nat.le_refl _) _)
  go_enter Tryz.func121, Tryz.ntmps121
  go_wp2
  go_ret
  exact ⟨rfl, HB0.out⟩

set_option maxHeartbeats 1000000 in
theorem lacksStep_f4 (k mf xf ms xs : Int) (st : Bool) (es md : Int) (hd : Bool) (im ix : Int) (w : World) (h : ¬ es = 0) : Calls Tryz.prog 121 #[prV k mf xf ms xs st 0 false ⟨#[]⟩ es md hd im ix] w fun e w' => e = .returned (.bool false) ∧ Below w.heap.size w w' := by
  have Bp0 := hide (Blk.newAt w (w.heap.size) (rfl) #[.int .i64 k, .int .i64 mf, .int .i64 xf, .int .i64 ms, .int .i64 xs, .bool st, .int .i64 0, .bool false, .string ⟨#[]⟩, .int .i64 es, .int .i64 md, .bool hd, .int .i64 im, .int .i64 ix] 61)
  have HB0 : Hid (Below w.heap.size w (w.alloc (.cells #[.int .i64 k, .int .i64 mf, .int .i64 xf, .int .i64 ms, .int .i64 xs, .bool st, .int .i64 0, .bool false, .string ⟨#[]⟩, .int .i64 es, .int .i64 md, .bool hd, .int .i64 im, .int .i64 ix] 61))) := ((Below.refl _ _).alloc (Nat.le_refl _) _)
  go_enter Tryz.func121, Tryz.ntmps121
  go_wp2
  go_ret
  exact ⟨rfl, HB0.out⟩

set_option maxHeartbeats 1000000 in
theorem mayFrac_t (k mf xf ms xs : Int) (st : Bool) (cs : Int) (ns : Bool) (ts : ByteArray) (es md : Int) (hd : Bool) (im ix : Int) (w : World) (h1 : 0 ≤ mf) (h2 : mf ≤ xf) (h3 : xf ≤ 99) : Calls Tryz.prog 122 #[prV k mf xf ms xs st cs ns ts es md hd im ix] w fun e w' => e = .returned (.bool true) ∧ Below w.heap.size w w' := by
  have WI := hide (fun W => within_t mf 0 xf W h1 h2)
  clear h1 h2
  have Bp0 := hide (Blk.newAt w (w.heap.size) (rfl) #[.int .i64 k, .int .i64 mf, .int .i64 xf, .int .i64 ms, .int .i64 xs, .bool st, .int .i64 cs, .bool ns, .string ts, .int .i64 es, .int .i64 md, .bool hd, .int .i64 im, .int .i64 ix] 61)
  have HB0 : Hid (Below w.heap.size w (w.alloc (.cells #[.int .i64 k, .int .i64 mf, .int .i64 xf, .int .i64 ms, .int .i64 xs, .bool st, .int .i64 cs, .bool ns, .string ts, .int .i64 es, .int .i64 md, .bool hd, .int .i64 im, .int .i64 ix] 61))) := ((Below.refl _ _).alloc (Nat.le_refl _) _)
  go_enter Tryz.func122, Tryz.ntmps122
  go_wp2_with fail
  refine (WI.out _).mono ?_
  rintro e w1 ⟨rfl, hb⟩
  have Bp1 := Blk.on Bp0 hb
  have HB1 := hide (HB0.out.trans (hb.mono HB0.out.size))
  clear hb Bp0 HB0 
  obtain ⟨yp0, yp1, yp2, yp3, yp4, yp5, yp6, yp7, yp8, yp9, yp10, yp11, yp12, yp13⟩ := Bp1.out.fourteen
  go_wp2
  go_ret
  exact ⟨rfl, HB1.out⟩

set_option maxHeartbeats 1000000 in
theorem mayFrac_f1 (k mf xf ms xs : Int) (st : Bool) (cs : Int) (ns : Bool) (ts : ByteArray) (es md : Int) (hd : Bool) (im ix : Int) (w : World) (h1 : ¬ (0 ≤ mf ∧ mf ≤ xf)) : Calls Tryz.prog 122 #[prV k mf xf ms xs st cs ns ts es md hd im ix] w fun e w' => e = .returned (.bool false) ∧ Below w.heap.size w w' := by
  have WI := hide (fun W => within_f mf 0 xf W h1)
  clear h1
  have Bp0 := hide (Blk.newAt w (w.heap.size) (rfl) #[.int .i64 k, .int .i64 mf, .int .i64 xf, .int .i64 ms, .int .i64 xs, .bool st, .int .i64 cs, .bool ns, .string ts, .int .i64 es, .int .i64 md, .bool hd, .int .i64 im, .int .i64 ix] 61)
  have HB0 : Hid (Below w.heap.size w (w.alloc (.cells #[.int .i64 k, .int .i64 mf, .int .i64 xf, .int .i64 ms, .int .i64 xs, .bool st, .int .i64 cs, .bool ns, .string ts, .int .i64 es, .int .i64 md, .bool hd, .int .i64 im, .int .i64 ix] 61))) := ((Below.refl _ _).alloc (Nat.le_refl _) _)
  go_enter Tryz.func122, Tryz.ntmps122
  go_wp2_with fail
  refine (WI.out _).mono ?_
  rintro e w1 ⟨rfl, hb⟩
  have Bp1 := Blk.on Bp0 hb
  have HB1 := hide (HB0.out.trans (hb.mono HB0.out.size))
  clear hb Bp0 HB0 
  obtain ⟨yp0, yp1, yp2, yp3, yp4, yp5, yp6, yp7, yp8, yp9, yp10, yp11, yp12, yp13⟩ := Bp1.out.fourteen
  go_wp2
  go_ret
  exact ⟨rfl, HB1.out⟩

set_option maxHeartbeats 1000000 in
theorem mayFrac_f2 (k mf xf ms xs : Int) (st : Bool) (cs : Int) (ns : Bool) (ts : ByteArray) (es md : Int) (hd : Bool) (im ix : Int) (w : World) (h1 : 0 ≤ mf) (h2 : mf ≤ xf) (h3 : 99 < xf) : Calls Tryz.prog 122 #[prV k mf xf ms xs st cs ns ts es md hd im ix] w fun e w' => e = .returned (.bool false) ∧ Below w.heap.size w w' := by
  have WI := hide (fun W => within_t mf 0 xf W h1 h2)
  clear h1 h2
  have Bp0 := hide (Blk.newAt w (w.heap.size) (rfl) #[.int .i64 k, .int .i64 mf, .int .i64 xf, .int .i64 ms, .int .i64 xs, .bool st, .int .i64 cs, .bool ns, .string ts, .int .i64 es, .int .i64 md, .bool hd, .int .i64 im, .int .i64 ix] 61)
  have HB0 : Hid (Below w.heap.size w (w.alloc (.cells #[.int .i64 k, .int .i64 mf, .int .i64 xf, .int .i64 ms, .int .i64 xs, .bool st, .int .i64 cs, .bool ns, .string ts, .int .i64 es, .int .i64 md, .bool hd, .int .i64 im, .int .i64 ix] 61))) := ((Below.refl _ _).alloc (Nat.le_refl _) _)
  go_enter Tryz.func122, Tryz.ntmps122
  go_wp2_with fail
  refine (WI.out _).mono ?_
  rintro e w1 ⟨rfl, hb⟩
  have Bp1 := Blk.on Bp0 hb
  have HB1 := hide (HB0.out.trans (hb.mono HB0.out.size))
  clear hb Bp0 HB0 
  obtain ⟨yp0, yp1, yp2, yp3, yp4, yp5, yp6, yp7, yp8, yp9, yp10, yp11, yp12, yp13⟩ := Bp1.out.fourteen
  go_wp2
  go_ret
  exact ⟨congrArg (fun b => Ending.returned (Value.bool b)) (show (decide (xf ≤ 99)) = false by simp; omega), HB1.out⟩

set_option maxHeartbeats 1000000 in
theorem maySig_t (k mf xf ms xs : Int) (st : Bool) (cs : Int) (ns : Bool) (ts : ByteArray) (es md : Int) (hd : Bool) (im ix : Int) (w : World) (h1 : 1 ≤ ms) (h2 : ms ≤ xs) (h3 : xs ≤ 99) : Calls Tryz.prog 124 #[prV k mf xf ms xs st cs ns ts es md hd im ix] w fun e w' => e = .returned (.bool true) ∧ Below w.heap.size w w' := by
  have WI := hide (fun W => within_t ms 1 xs W h1 h2)
  clear h1 h2
  have Bp0 := hide (Blk.newAt w (w.heap.size) (rfl) #[.int .i64 k, .int .i64 mf, .int .i64 xf, .int .i64 ms, .int .i64 xs, .bool st, .int .i64 cs, .bool ns, .string ts, .int .i64 es, .int .i64 md, .bool hd, .int .i64 im, .int .i64 ix] 61)
  have HB0 : Hid (Below w.heap.size w (w.alloc (.cells #[.int .i64 k, .int .i64 mf, .int .i64 xf, .int .i64 ms, .int .i64 xs, .bool st, .int .i64 cs, .bool ns, .string ts, .int .i64 es, .int .i64 md, .bool hd, .int .i64 im, .int .i64 ix] 61))) := ((Below.refl _ _).alloc (Nat.le_refl _) _)
  go_enter Tryz.func124, Tryz.ntmps124
  go_wp2_with fail
  refine (WI.out _).mono ?_
  rintro e w1 ⟨rfl, hb⟩
  have Bp1 := Blk.on Bp0 hb
  have HB1 := hide (HB0.out.trans (hb.mono HB0.out.size))
  clear hb Bp0 HB0 
  obtain ⟨yp0, yp1, yp2, yp3, yp4, yp5, yp6, yp7, yp8, yp9, yp10, yp11, yp12, yp13⟩ := Bp1.out.fourteen
  go_wp2
  go_ret
  exact ⟨rfl, HB1.out⟩

set_option maxHeartbeats 1000000 in
theorem maySig_f1 (k mf xf ms xs : Int) (st : Bool) (cs : Int) (ns : Bool) (ts : ByteArray) (es md : Int) (hd : Bool) (im ix : Int) (w : World) (h1 : ¬ (1 ≤ ms ∧ ms ≤ xs)) : Calls Tryz.prog 124 #[prV k mf xf ms xs st cs ns ts es md hd im ix] w fun e w' => e = .returned (.bool false) ∧ Below w.heap.size w w' := by
  have WI := hide (fun W => within_f ms 1 xs W h1)
  clear h1
  have Bp0 := hide (Blk.newAt w (w.heap.size) (rfl) #[.int .i64 k, .int .i64 mf, .int .i64 xf, .int .i64 ms, .int .i64 xs, .bool st, .int .i64 cs, .bool ns, .string ts, .int .i64 es, .int .i64 md, .bool hd, .int .i64 im, .int .i64 ix] 61)
  have HB0 : Hid (Below w.heap.size w (w.alloc (.cells #[.int .i64 k, .int .i64 mf, .int .i64 xf, .int .i64 ms, .int .i64 xs, .bool st, .int .i64 cs, .bool ns, .string ts, .int .i64 es, .int .i64 md, .bool hd, .int .i64 im, .int .i64 ix] 61))) := ((Below.refl _ _).alloc (Nat.le_refl _) _)
  go_enter Tryz.func124, Tryz.ntmps124
  go_wp2_with fail
  refine (WI.out _).mono ?_
  rintro e w1 ⟨rfl, hb⟩
  have Bp1 := Blk.on Bp0 hb
  have HB1 := hide (HB0.out.trans (hb.mono HB0.out.size))
  clear hb Bp0 HB0 
  obtain ⟨yp0, yp1, yp2, yp3, yp4, yp5, yp6, yp7, yp8, yp9, yp10, yp11, yp12, yp13⟩ := Bp1.out.fourteen
  go_wp2
  go_ret
  exact ⟨rfl, HB1.out⟩

set_option maxHeartbeats 1000000 in
theorem maySig_f2 (k mf xf ms xs : Int) (st : Bool) (cs : Int) (ns : Bool) (ts : ByteArray) (es md : Int) (hd : Bool) (im ix : Int) (w : World) (h1 : 1 ≤ ms) (h2 : ms ≤ xs) (h3 : 99 < xs) : Calls Tryz.prog 124 #[prV k mf xf ms xs st cs ns ts es md hd im ix] w fun e w' => e = .returned (.bool false) ∧ Below w.heap.size w w' := by
  have WI := hide (fun W => within_t ms 1 xs W h1 h2)
  clear h1 h2
  have Bp0 := hide (Blk.newAt w (w.heap.size) (rfl) #[.int .i64 k, .int .i64 mf, .int .i64 xf, .int .i64 ms, .int .i64 xs, .bool st, .int .i64 cs, .bool ns, .string ts, .int .i64 es, .int .i64 md, .bool hd, .int .i64 im, .int .i64 ix] 61)
  have HB0 : Hid (Below w.heap.size w (w.alloc (.cells #[.int .i64 k, .int .i64 mf, .int .i64 xf, .int .i64 ms, .int .i64 xs, .bool st, .int .i64 cs, .bool ns, .string ts, .int .i64 es, .int .i64 md, .bool hd, .int .i64 im, .int .i64 ix] 61))) := ((Below.refl _ _).alloc (Nat.le_refl _) _)
  go_enter Tryz.func124, Tryz.ntmps124
  go_wp2_with fail
  refine (WI.out _).mono ?_
  rintro e w1 ⟨rfl, hb⟩
  have Bp1 := Blk.on Bp0 hb
  have HB1 := hide (HB0.out.trans (hb.mono HB0.out.size))
  clear hb Bp0 HB0 
  obtain ⟨yp0, yp1, yp2, yp3, yp4, yp5, yp6, yp7, yp8, yp9, yp10, yp11, yp12, yp13⟩ := Bp1.out.fourteen
  go_wp2
  go_ret
  exact ⟨congrArg (fun b => Ending.returned (Value.bool b)) (show (decide (xs ≤ 99)) = false by simp; omega), HB1.out⟩

set_option maxHeartbeats 1000000 in
theorem mayInt_f1 (k mf xf ms xs : Int) (st : Bool) (cs : Int) (ns : Bool) (ts : ByteArray) (es md : Int) (hd : Bool) (im ix : Int) (w : World) (h1 : ¬ (0 ≤ im ∧ im ≤ 99)) : Calls Tryz.prog 71 #[prV k mf xf ms xs st cs ns ts es md hd im ix] w fun e w' => e = .returned (.bool false) ∧ Below w.heap.size w w' := by
  have W0 := hide (fun W => within_f im 0 99 W h1)
  clear h1
  have Bp0 := hide (Blk.newAt w (w.heap.size) (rfl) #[.int .i64 k, .int .i64 mf, .int .i64 xf, .int .i64 ms, .int .i64 xs, .bool st, .int .i64 cs, .bool ns, .string ts, .int .i64 es, .int .i64 md, .bool hd, .int .i64 im, .int .i64 ix] 61)
  have HB0 : Hid (Below w.heap.size w (w.alloc (.cells #[.int .i64 k, .int .i64 mf, .int .i64 xf, .int .i64 ms, .int .i64 xs, .bool st, .int .i64 cs, .bool ns, .string ts, .int .i64 es, .int .i64 md, .bool hd, .int .i64 im, .int .i64 ix] 61))) := ((Below.refl _ _).alloc (Nat.le_refl _) _)
  go_enter Tryz.func71, Tryz.ntmps71
  go_wp2_with fail
  refine (W0.out _).mono ?_
  rintro e w1 ⟨rfl, hb⟩
  have Bp1 := Blk.on Bp0 hb
  have HB1 := hide (HB0.out.trans (hb.mono HB0.out.size))
  clear hb Bp0 HB0 
  obtain ⟨yp0, yp1, yp2, yp3, yp4, yp5, yp6, yp7, yp8, yp9, yp10, yp11, yp12, yp13⟩ := Bp1.out.fourteen
  go_wp2
  go_ret
  exact ⟨rfl, HB1.out⟩

set_option maxHeartbeats 1000000 in
theorem mayInt_z (k mf xf ms xs : Int) (st : Bool) (cs : Int) (ns : Bool) (ts : ByteArray) (es md : Int) (hd : Bool) (im : Int) (w : World) (h1 : 0 ≤ im) (h2 : im ≤ 99) : Calls Tryz.prog 71 #[prV k mf xf ms xs st cs ns ts es md hd im 0] w fun e w' => e = .returned (.bool true) ∧ Below w.heap.size w w' := by
  have W0 := hide (fun W => within_t im 0 99 W h1 h2)
  clear h1 h2
  have Bp0 := hide (Blk.newAt w (w.heap.size) (rfl) #[.int .i64 k, .int .i64 mf, .int .i64 xf, .int .i64 ms, .int .i64 xs, .bool st, .int .i64 cs, .bool ns, .string ts, .int .i64 es, .int .i64 md, .bool hd, .int .i64 im, .int .i64 0] 61)
  have HB0 : Hid (Below w.heap.size w (w.alloc (.cells #[.int .i64 k, .int .i64 mf, .int .i64 xf, .int .i64 ms, .int .i64 xs, .bool st, .int .i64 cs, .bool ns, .string ts, .int .i64 es, .int .i64 md, .bool hd, .int .i64 im, .int .i64 0] 61))) := ((Below.refl _ _).alloc (Nat.le_refl _) _)
  go_enter Tryz.func71, Tryz.ntmps71
  go_wp2_with fail
  refine (W0.out _).mono ?_
  rintro e w1 ⟨rfl, hb⟩
  have Bp1 := Blk.on Bp0 hb
  have HB1 := hide (HB0.out.trans (hb.mono HB0.out.size))
  clear hb Bp0 HB0 
  obtain ⟨yp0, yp1, yp2, yp3, yp4, yp5, yp6, yp7, yp8, yp9, yp10, yp11, yp12, yp13⟩ := Bp1.out.fourteen
  go_wp2
  go_ret
  exact ⟨rfl, HB1.out⟩

set_option maxHeartbeats 1000000 in
theorem mayInt_t (k mf xf ms xs : Int) (st : Bool) (cs : Int) (ns : Bool) (ts : ByteArray) (es md : Int) (hd : Bool) (im ix : Int) (w : World) (h1 : 0 ≤ im) (h2 : im ≤ 99) (h0 : ¬ ix = 0) (h3 : im ≤ ix) (h4 : ix ≤ 99) : Calls Tryz.prog 71 #[prV k mf xf ms xs st cs ns ts es md hd im ix] w fun e w' => e = .returned (.bool true) ∧ Below w.heap.size w w' := by
  have W0 := hide (fun W => within_t im 0 99 W h1 h2)
  have W1 := hide (fun W => within_t ix im 99 W h3 h4)
  clear h1 h2 h3 h4
  have Bp0 := hide (Blk.newAt w (w.heap.size) (rfl) #[.int .i64 k, .int .i64 mf, .int .i64 xf, .int .i64 ms, .int .i64 xs, .bool st, .int .i64 cs, .bool ns, .string ts, .int .i64 es, .int .i64 md, .bool hd, .int .i64 im, .int .i64 ix] 61)
  have HB0 : Hid (Below w.heap.size w (w.alloc (.cells #[.int .i64 k, .int .i64 mf, .int .i64 xf, .int .i64 ms, .int .i64 xs, .bool st, .int .i64 cs, .bool ns, .string ts, .int .i64 es, .int .i64 md, .bool hd, .int .i64 im, .int .i64 ix] 61))) := ((Below.refl _ _).alloc (Nat.le_refl _) _)
  go_enter Tryz.func71, Tryz.ntmps71
  go_wp2_with fail
  refine (W0.out _).mono ?_
  rintro e w1 ⟨rfl, hb⟩
  have Bp1 := Blk.on Bp0 hb
  have HB1 := hide (HB0.out.trans (hb.mono HB0.out.size))
  clear hb Bp0 HB0 
  obtain ⟨yp0, yp1, yp2, yp3, yp4, yp5, yp6, yp7, yp8, yp9, yp10, yp11, yp12, yp13⟩ := Bp1.out.fourteen
  go_wp2_with fail
  refine (W1.out _).mono ?_
  rintro e w2 ⟨rfl, hb⟩
  have Bp2 := Blk.on Bp1 hb
  have HB2 := hide (HB1.out.trans (hb.mono HB1.out.size))
  clear hb Bp1 HB1 yp0 yp1 yp2 yp3 yp4 yp5 yp6 yp7 yp8 yp9 yp10 yp11 yp12 yp13
  obtain ⟨yp0, yp1, yp2, yp3, yp4, yp5, yp6, yp7, yp8, yp9, yp10, yp11, yp12, yp13⟩ := Bp2.out.fourteen
  go_wp2
  go_ret
  exact ⟨rfl, HB2.out⟩

set_option maxHeartbeats 1000000 in
theorem mayInt_f2 (k mf xf ms xs : Int) (st : Bool) (cs : Int) (ns : Bool) (ts : ByteArray) (es md : Int) (hd : Bool) (im ix : Int) (w : World) (h1 : 0 ≤ im) (h2 : im ≤ 99) (h0 : ¬ ix = 0) (h3 : ¬ (im ≤ ix ∧ ix ≤ 99)) : Calls Tryz.prog 71 #[prV k mf xf ms xs st cs ns ts es md hd im ix] w fun e w' => e = .returned (.bool false) ∧ Below w.heap.size w w' := by
  have W0 := hide (fun W => within_t im 0 99 W h1 h2)
  have W1 := hide (fun W => within_f ix im 99 W h3)
  clear h1 h2 h3
  have Bp0 := hide (Blk.newAt w (w.heap.size) (rfl) #[.int .i64 k, .int .i64 mf, .int .i64 xf, .int .i64 ms, .int .i64 xs, .bool st, .int .i64 cs, .bool ns, .string ts, .int .i64 es, .int .i64 md, .bool hd, .int .i64 im, .int .i64 ix] 61)
  have HB0 : Hid (Below w.heap.size w (w.alloc (.cells #[.int .i64 k, .int .i64 mf, .int .i64 xf, .int .i64 ms, .int .i64 xs, .bool st, .int .i64 cs, .bool ns, .string ts, .int .i64 es, .int .i64 md, .bool hd, .int .i64 im, .int .i64 ix] 61))) := ((Below.refl _ _).alloc (Nat.le_refl _) _)
  go_enter Tryz.func71, Tryz.ntmps71
  go_wp2_with fail
  refine (W0.out _).mono ?_
  rintro e w1 ⟨rfl, hb⟩
  have Bp1 := Blk.on Bp0 hb
  have HB1 := hide (HB0.out.trans (hb.mono HB0.out.size))
  clear hb Bp0 HB0 
  obtain ⟨yp0, yp1, yp2, yp3, yp4, yp5, yp6, yp7, yp8, yp9, yp10, yp11, yp12, yp13⟩ := Bp1.out.fourteen
  go_wp2_with fail
  refine (W1.out _).mono ?_
  rintro e w2 ⟨rfl, hb⟩
  have Bp2 := Blk.on Bp1 hb
  have HB2 := hide (HB1.out.trans (hb.mono HB1.out.size))
  clear hb Bp1 HB1 yp0 yp1 yp2 yp3 yp4 yp5 yp6 yp7 yp8 yp9 yp10 yp11 yp12 yp13
  obtain ⟨yp0, yp1, yp2, yp3, yp4, yp5, yp6, yp7, yp8, yp9, yp10, yp11, yp12, yp13⟩ := Bp2.out.fourteen
  go_wp2
  go_ret
  exact ⟨congrArg (fun b => Ending.returned (Value.bool b)) (show (ix == 0) = false by simp; omega), HB2.out⟩

theorem results_kinds {fn : Func} {a : Tmp} (h : fn.results = #[.cell a 69]) (tmps : Array Value) (H : Nat) (x0 x1 x2 x3 x4 x5 x6 x7 x8 x9 x10 x11 x12 x13 x14 : Value) (w : World) (ht : tmps.getD a undef = .pointer (some ⟨H, 0, none⟩)) (hp : Blk w H #[x0, x1, x2, x3, x4, x5, x6, x7, x8, x9, x10, x11, x12, x13, x14] 69) :
    (results fn tmps).run Tryz.prog w = .ok (.agg #[x0, x1, x2, x3, x4, x5, x6, x7, x8, x9, x10, x11, x12, x13, x14]) w := by
  have c0 := hp.cell 0
  have c1 := hp.cell 1
  have c2 := hp.cell 2
  have c3 := hp.cell 3
  have c4 := hp.cell 4
  have c5 := hp.cell 5
  have c6 := hp.cell 6
  have c7 := hp.cell 7
  have c8 := hp.cell 8
  have c9 := hp.cell 9
  have c10 := hp.cell 10
  have c11 := hp.cell 11
  have c12 := hp.cell 12
  have c13 := hp.cell 13
  have c14 := hp.cell 14
  simp at c0 c1 c2 c3 c4 c5 c6 c7 c8 c9 c10 c11 c12 c13 c14
  rw [Array.getD_eq_getD_getElem?] at ht
  simp [results, h, ht, go_sem, c0, c1, c2, c3, c4, c5, c6, c7, c8, c9, c10, c11, c12, c13, c14]

def kindsV : Value := .agg #[.func (.func 74) #[] #[], .func (.func 75) #[] #[], .func (.func 76) #[] #[], .func (.func 77) #[] #[], .func (.func 78) #[] #[], .func (.func 79) #[] #[], .func (.func 80) #[] #[], .func (.func 81) #[] #[], .func (.func 82) #[] #[], .func (.func 83) #[] #[], .func (.func 84) #[] #[], .func (.func 85) #[] #[], .func (.func 86) #[] #[], .func (.func 87) #[] #[], .func (.func 79) #[] #[]]

set_option maxHeartbeats 1000000 in
theorem kinds_any (w : World) : Calls Tryz.prog 37 #[] w fun e w' => e = .returned (kindsV) ∧ Below w.heap.size w w' := by
  go_enter Tryz.func37, Tryz.ntmps37
  go_wp2
  refine bodyPost_ret (results_kinds rfl _ _ _ _ _ _ _ _ _ _ _ _ _ _ _ _ _ _ rfl (Blk.new _ _ _)) rfl ?_
  exact ⟨rfl, (Below.refl _ _).alloc (Nat.le_refl _) _⟩

end Go.Proofs.YtobloamnaemfnaaGreatDoor

namespace Go.Proofs.YtobloamnaemfnaaGreatDoor
open Go.RowKit

theorem nil_size {t : ByteArray} (h : t.size = 0) : t = ⟨#[]⟩ := by
  have h2 : bys t = [] := bys_nil.2 h
  rw [← mk_bys t, h2]
theorem nil_bys {t : ByteArray} (h : bys t = []) : t = ⟨#[]⟩ := nil_size (bys_nil.1 h)

theorem lacksFrac_T (k mf xf ms xs : Int) (st : Bool) (cs : Int) (ns : Bool) (ts : ByteArray) (es md : Int) (hd : Bool) (im ix : Int) (w : World) (h : NoFrac ⟨k, mf, xf, ms, xs, st, cs, ns, bys ts, es, md, hd, im, ix⟩) : Calls Tryz.prog 119 #[prV k mf xf ms xs st cs ns ts es md hd im ix] w fun e w' => e = .returned (.bool true) ∧ Below w.heap.size w w' := by
  obtain ⟨h1, h2⟩ := h
  simp only at h1 h2
  subst h1 h2
  exact lacksFrac_t k ms xs st cs ns ts es md hd im ix w

theorem lacksFrac_F (k mf xf ms xs : Int) (st : Bool) (cs : Int) (ns : Bool) (ts : ByteArray) (es md : Int) (hd : Bool) (im ix : Int) (w : World) (h : ¬ (NoFrac ⟨k, mf, xf, ms, xs, st, cs, ns, bys ts, es, md, hd, im, ix⟩)) : Calls Tryz.prog 119 #[prV k mf xf ms xs st cs ns ts es md hd im ix] w fun e w' => e = .returned (.bool false) ∧ Below w.heap.size w w' := by
  by_cases h1 : mf = 0
  · subst h1
    exact lacksFrac_f2 k xf ms xs st cs ns ts es md hd im ix w (fun e => h ⟨rfl, e⟩)
  · exact lacksFrac_f1 k mf xf ms xs st cs ns ts es md hd im ix w h1

theorem lacksSig_T (k mf xf ms xs : Int) (st : Bool) (cs : Int) (ns : Bool) (ts : ByteArray) (es md : Int) (hd : Bool) (im ix : Int) (w : World) (h : NoSig ⟨k, mf, xf, ms, xs, st, cs, ns, bys ts, es, md, hd, im, ix⟩) : Calls Tryz.prog 120 #[prV k mf xf ms xs st cs ns ts es md hd im ix] w fun e w' => e = .returned (.bool true) ∧ Below w.heap.size w w' := by
  obtain ⟨h1, h2⟩ := h
  simp only at h1 h2
  subst h1 h2
  exact lacksSig_t k mf xf st cs ns ts es md hd im ix w

theorem lacksSig_F (k mf xf ms xs : Int) (st : Bool) (cs : Int) (ns : Bool) (ts : ByteArray) (es md : Int) (hd : Bool) (im ix : Int) (w : World) (h : ¬ (NoSig ⟨k, mf, xf, ms, xs, st, cs, ns, bys ts, es, md, hd, im, ix⟩)) : Calls Tryz.prog 120 #[prV k mf xf ms xs st cs ns ts es md hd im ix] w fun e w' => e = .returned (.bool false) ∧ Below w.heap.size w w' := by
  by_cases h1 : ms = 0
  · subst h1
    exact lacksSig_f2 k mf xf xs st cs ns ts es md hd im ix w (fun e => h ⟨rfl, e⟩)
  · exact lacksSig_f1 k mf xf ms xs st cs ns ts es md hd im ix w h1

theorem lacksStep_T (k mf xf ms xs : Int) (st : Bool) (cs : Int) (ns : Bool) (ts : ByteArray) (es md : Int) (hd : Bool) (im ix : Int) (w : World) (h : NoStep ⟨k, mf, xf, ms, xs, st, cs, ns, bys ts, es, md, hd, im, ix⟩) : Calls Tryz.prog 121 #[prV k mf xf ms xs st cs ns ts es md hd im ix] w fun e w' => e = .returned (.bool true) ∧ Below w.heap.size w w' := by
  obtain ⟨h1, h2, h3, h4⟩ := h
  simp only at h1 h2 h3 h4
  obtain rfl := nil_bys h3
  subst h1 h2 h4
  exact lacksStep_t k mf xf ms xs st md hd im ix w

theorem lacksStep_F (k mf xf ms xs : Int) (st : Bool) (cs : Int) (ns : Bool) (ts : ByteArray) (es md : Int) (hd : Bool) (im ix : Int) (w : World) (h : ¬ (NoStep ⟨k, mf, xf, ms, xs, st, cs, ns, bys ts, es, md, hd, im, ix⟩)) : Calls Tryz.prog 121 #[prV k mf xf ms xs st cs ns ts es md hd im ix] w fun e w' => e = .returned (.bool false) ∧ Below w.heap.size w w' := by
  by_cases h1 : cs = 0
  · subst h1
    cases ns
    · by_cases h3 : ts.size = 0
      · obtain rfl := nil_size h3
        exact lacksStep_f4 k mf xf ms xs st es md hd im ix w (fun e => h ⟨rfl, rfl, rfl, e⟩)
      · exact lacksStep_f3 k mf xf ms xs st ts es md hd im ix w h3
    · exact lacksStep_f2 k mf xf ms xs st ts es md hd im ix w
  · exact lacksStep_f1 k mf xf ms xs st cs ns ts es md hd im ix w h1

theorem mayFrac_T (k mf xf ms xs : Int) (st : Bool) (cs : Int) (ns : Bool) (ts : ByteArray) (es md : Int) (hd : Bool) (im ix : Int) (w : World) (h : FracOk ⟨k, mf, xf, ms, xs, st, cs, ns, bys ts, es, md, hd, im, ix⟩) : Calls Tryz.prog 122 #[prV k mf xf ms xs st cs ns ts es md hd im ix] w fun e w' => e = .returned (.bool true) ∧ Below w.heap.size w w' := by
  exact mayFrac_t k mf xf ms xs st cs ns ts es md hd im ix w h.1.1 h.1.2 h.2

theorem mayFrac_F (k mf xf ms xs : Int) (st : Bool) (cs : Int) (ns : Bool) (ts : ByteArray) (es md : Int) (hd : Bool) (im ix : Int) (w : World) (h : ¬ (FracOk ⟨k, mf, xf, ms, xs, st, cs, ns, bys ts, es, md, hd, im, ix⟩)) : Calls Tryz.prog 122 #[prV k mf xf ms xs st cs ns ts es md hd im ix] w fun e w' => e = .returned (.bool false) ∧ Below w.heap.size w w' := by
  by_cases h1 : 0 ≤ mf ∧ mf ≤ xf
  · exact mayFrac_f2 k mf xf ms xs st cs ns ts es md hd im ix w h1.1 h1.2 (Int.not_le.1 fun e => h ⟨h1, e⟩)
  · exact mayFrac_f1 k mf xf ms xs st cs ns ts es md hd im ix w h1

theorem maySig_T (k mf xf ms xs : Int) (st : Bool) (cs : Int) (ns : Bool) (ts : ByteArray) (es md : Int) (hd : Bool) (im ix : Int) (w : World) (h : SigOk ⟨k, mf, xf, ms, xs, st, cs, ns, bys ts, es, md, hd, im, ix⟩) : Calls Tryz.prog 124 #[prV k mf xf ms xs st cs ns ts es md hd im ix] w fun e w' => e = .returned (.bool true) ∧ Below w.heap.size w w' := by
  exact maySig_t k mf xf ms xs st cs ns ts es md hd im ix w h.1.1 h.1.2 h.2

theorem maySig_F (k mf xf ms xs : Int) (st : Bool) (cs : Int) (ns : Bool) (ts : ByteArray) (es md : Int) (hd : Bool) (im ix : Int) (w : World) (h : ¬ (SigOk ⟨k, mf, xf, ms, xs, st, cs, ns, bys ts, es, md, hd, im, ix⟩)) : Calls Tryz.prog 124 #[prV k mf xf ms xs st cs ns ts es md hd im ix] w fun e w' => e = .returned (.bool false) ∧ Below w.heap.size w w' := by
  by_cases h1 : 1 ≤ ms ∧ ms ≤ xs
  · exact maySig_f2 k mf xf ms xs st cs ns ts es md hd im ix w h1.1 h1.2 (Int.not_le.1 fun e => h ⟨h1, e⟩)
  · exact maySig_f1 k mf xf ms xs st cs ns ts es md hd im ix w h1

theorem mayInt_T (k mf xf ms xs : Int) (st : Bool) (cs : Int) (ns : Bool) (ts : ByteArray) (es md : Int) (hd : Bool) (im ix : Int) (w : World) (h : IntOk ⟨k, mf, xf, ms, xs, st, cs, ns, bys ts, es, md, hd, im, ix⟩) : Calls Tryz.prog 71 #[prV k mf xf ms xs st cs ns ts es md hd im ix] w fun e w' => e = .returned (.bool true) ∧ Below w.heap.size w w' := by
  obtain ⟨⟨h1, h2⟩, h3⟩ := h
  simp only at h1 h2 h3
  by_cases h4 : ix = 0
  · subst h4
    exact mayInt_z k mf xf ms xs st cs ns ts es md hd im w h1 h2
  · exact mayInt_t k mf xf ms xs st cs ns ts es md hd im ix w h1 h2 h4 (by omega) (by omega)

theorem mayInt_F (k mf xf ms xs : Int) (st : Bool) (cs : Int) (ns : Bool) (ts : ByteArray) (es md : Int) (hd : Bool) (im ix : Int) (w : World) (h : ¬ (IntOk ⟨k, mf, xf, ms, xs, st, cs, ns, bys ts, es, md, hd, im, ix⟩)) : Calls Tryz.prog 71 #[prV k mf xf ms xs st cs ns ts es md hd im ix] w fun e w' => e = .returned (.bool false) ∧ Below w.heap.size w w' := by
  by_cases h1 : 0 ≤ im ∧ im ≤ 99
  · exact mayInt_f2 k mf xf ms xs st cs ns ts es md hd im ix w h1.1 h1.2 (fun e => h ⟨h1, .inl e⟩) (fun e => h ⟨h1, .inr e⟩)
  · exact mayInt_f1 k mf xf ms xs st cs ns ts es md hd im ix w h1

set_option maxHeartbeats 1000000 in
theorem mayStep_t (k mf xf ms xs : Int) (st : Bool) (cs : Int) (ns : Bool) (ts : ByteArray) (es md : Int) (hd : Bool) (im ix : Int) (w : World) (htab : Tab w) (h : (stepR 0 false [] 0 cs ns (bys ts) es 2).2 = 0) : Calls Tryz.prog 126 #[prV k mf xf ms xs st cs ns ts es md hd im ix] w fun e w' => e = .returned (.bool true) ∧ Below w.heap.size w w' := by
  have SP := hide (fun W (hW : Tab W) => Step_any 0 false ⟨#[]⟩ 0 cs ns ts es 2 W hW)
  rw [show bys ⟨#[]⟩ = [] from rfl] at SP
  rcases hS : stepR 0 false [] 0 cs ns (bys ts) es 2 with ⟨⟨c, n, l, e⟩, er⟩
  rw [hS] at SP h
  unfold decErr decVal at SP
  simp only at SP h
  have HT := hide htab
  clear hS htab
  subst h
  have Bp0 := hide (Blk.newAt w (w.heap.size) (rfl) #[.int .i64 k, .int .i64 mf, .int .i64 xf, .int .i64 ms, .int .i64 xs, .bool st, .int .i64 cs, .bool ns, .string ts, .int .i64 es, .int .i64 md, .bool hd, .int .i64 im, .int .i64 ix] 61)
  have HB0 : Hid (Below w.heap.size w (w.alloc (.cells #[.int .i64 k, .int .i64 mf, .int .i64 xf, .int .i64 ms, .int .i64 xs, .bool st, .int .i64 cs, .bool ns, .string ts, .int .i64 es, .int .i64 md, .bool hd, .int .i64 im, .int .i64 ix] 61))) := ((Below.refl _ _).alloc (Nat.le_refl _) _)
  go_enter Tryz.func126, Tryz.ntmps126
  go_wp2_with fail
  refine (SP.out _ (HT.out.below HB0.out)).mono ?_
  rintro e w1 ⟨rfl, hb⟩
  have Bp1 := Blk.on Bp0 hb
  have HB1 := hide (HB0.out.trans (hb.mono HB0.out.size))
  clear hb Bp0 HB0 
  obtain ⟨yp0, yp1, yp2, yp3, yp4, yp5, yp6, yp7, yp8, yp9, yp10, yp11, yp12, yp13⟩ := Bp1.out.fourteen
  have Bp2 := Blk.up Bp1 (.cells #[.int .i64 (c : Int), .bool n, .string ⟨l.toArray⟩, .int .i64 e] 23)
  have Bd2 := hide ((Blk.newAt w1 (w1.heap.size) (rfl) #[.int .i64 (c : Int), .bool n, .string ⟨l.toArray⟩, .int .i64 e] 23))
  have HB2 : Hid (Below w.heap.size w (w1.alloc (.cells #[.int .i64 (c : Int), .bool n, .string ⟨l.toArray⟩, .int .i64 e] 23))) := (HB1.out.alloc HB1.out.size _)
  clear Bp1 HB1 yp0 yp1 yp2 yp3 yp4 yp5 yp6 yp7 yp8 yp9 yp10 yp11 yp12 yp13
  obtain ⟨yp0, yp1, yp2, yp3, yp4, yp5, yp6, yp7, yp8, yp9, yp10, yp11, yp12, yp13⟩ := Bp2.out.fourteen
  obtain ⟨yd0, yd1, yd2, yd3⟩ := Bd2.out.four
  go_wp2
  go_ret
  exact ⟨rfl, HB2.out⟩

set_option maxHeartbeats 1000000 in
theorem mayStep_f (k mf xf ms xs : Int) (st : Bool) (cs : Int) (ns : Bool) (ts : ByteArray) (es md : Int) (hd : Bool) (im ix : Int) (w : World) (htab : Tab w) (h : (stepR 0 false [] 0 cs ns (bys ts) es 2).2 ≠ 0) : Calls Tryz.prog 126 #[prV k mf xf ms xs st cs ns ts es md hd im ix] w fun e w' => e = .returned (.bool false) ∧ Below w.heap.size w w' := by
  have SP := hide (fun W (hW : Tab W) => Step_any 0 false ⟨#[]⟩ 0 cs ns ts es 2 W hW)
  rw [show bys ⟨#[]⟩ = [] from rfl] at SP
  rcases hS : stepR 0 false [] 0 cs ns (bys ts) es 2 with ⟨⟨c, n, l, e⟩, er⟩
  rw [hS] at SP h
  unfold decErr decVal at SP
  simp only at SP h
  have HT := hide htab
  clear hS htab
  have Bp0 := hide (Blk.newAt w (w.heap.size) (rfl) #[.int .i64 k, .int .i64 mf, .int .i64 xf, .int .i64 ms, .int .i64 xs, .bool st, .int .i64 cs, .bool ns, .string ts, .int .i64 es, .int .i64 md, .bool hd, .int .i64 im, .int .i64 ix] 61)
  have HB0 : Hid (Below w.heap.size w (w.alloc (.cells #[.int .i64 k, .int .i64 mf, .int .i64 xf, .int .i64 ms, .int .i64 xs, .bool st, .int .i64 cs, .bool ns, .string ts, .int .i64 es, .int .i64 md, .bool hd, .int .i64 im, .int .i64 ix] 61))) := ((Below.refl _ _).alloc (Nat.le_refl _) _)
  go_enter Tryz.func126, Tryz.ntmps126
  go_wp2_with fail
  refine (SP.out _ (HT.out.below HB0.out)).mono ?_
  rintro e w1 ⟨rfl, hb⟩
  have Bp1 := Blk.on Bp0 hb
  have HB1 := hide (HB0.out.trans (hb.mono HB0.out.size))
  clear hb Bp0 HB0 
  obtain ⟨yp0, yp1, yp2, yp3, yp4, yp5, yp6, yp7, yp8, yp9, yp10, yp11, yp12, yp13⟩ := Bp1.out.fourteen
  have Bp2 := Blk.up Bp1 (.cells #[.int .i64 (c : Int), .bool n, .string ⟨l.toArray⟩, .int .i64 e] 23)
  have Bd2 := hide ((Blk.newAt w1 (w1.heap.size) (rfl) #[.int .i64 (c : Int), .bool n, .string ⟨l.toArray⟩, .int .i64 e] 23))
  have HB2 : Hid (Below w.heap.size w (w1.alloc (.cells #[.int .i64 (c : Int), .bool n, .string ⟨l.toArray⟩, .int .i64 e] 23))) := (HB1.out.alloc HB1.out.size _)
  clear Bp1 HB1 yp0 yp1 yp2 yp3 yp4 yp5 yp6 yp7 yp8 yp9 yp10 yp11 yp12 yp13
  obtain ⟨yp0, yp1, yp2, yp3, yp4, yp5, yp6, yp7, yp8, yp9, yp10, yp11, yp12, yp13⟩ := Bp2.out.fourteen
  obtain ⟨yd0, yd1, yd2, yd3⟩ := Bd2.out.four
  go_wp2
  go_ret
  exact ⟨congrArg (fun b => Ending.returned (Value.bool b)) (show (er == 0) = false by simp; omega), HB2.out⟩

theorem mayStep_T (k mf xf ms xs : Int) (st : Bool) (cs : Int) (ns : Bool) (ts : ByteArray) (es md : Int) (hd : Bool) (im ix : Int) (w : World) (htab : Tab w) (h : StepOk ⟨k, mf, xf, ms, xs, st, cs, ns, bys ts, es, md, hd, im, ix⟩) : Calls Tryz.prog 126 #[prV k mf xf ms xs st cs ns ts es md hd im ix] w fun e w' => e = .returned (.bool true) ∧ Below w.heap.size w w' :=
  mayStep_t k mf xf ms xs st cs ns ts es md hd im ix w htab ((step_err cs ns (bys ts) es 2 (by omega) (by omega)).1 h)
theorem mayStep_F (k mf xf ms xs : Int) (st : Bool) (cs : Int) (ns : Bool) (ts : ByteArray) (es md : Int) (hd : Bool) (im ix : Int) (w : World) (htab : Tab w) (h : ¬ StepOk ⟨k, mf, xf, ms, xs, st, cs, ns, bys ts, es, md, hd, im, ix⟩) : Calls Tryz.prog 126 #[prV k mf xf ms xs st cs ns ts es md hd im ix] w fun e w' => e = .returned (.bool false) ∧ Below w.heap.size w w' :=
  mayStep_f k mf xf ms xs st cs ns ts es md hd im ix w htab ((step_err cs ns (bys ts) es 2 (by omega) (by omega)).2 h)

set_option maxHeartbeats 1000000 in
theorem fieldsOfAll_t (k mf xf ms xs cs : Int) (ns : Bool) (ts : ByteArray) (es md : Int) (hd : Bool) (im ix : Int) (w : World) (h0 : (NoFrac ⟨k, mf, xf, ms, xs, false, cs, ns, bys ts, es, md, hd, im, ix⟩)) (h1 : (NoSig ⟨k, mf, xf, ms, xs, false, cs, ns, bys ts, es, md, hd, im, ix⟩)) (h3 : (NoStep ⟨k, mf, xf, ms, xs, false, cs, ns, bys ts, es, md, hd, im, ix⟩)) : Calls Tryz.prog 74 #[prV k mf xf ms xs false cs ns ts es md hd im ix] w fun e w' => e = .returned (.bool true) ∧ Below w.heap.size w w' := by
  have C0 := hide (fun W => lacksFrac_T k mf xf ms xs false cs ns ts es md hd im ix W h0)
  clear h0
  have C1 := hide (fun W => lacksSig_T k mf xf ms xs false cs ns ts es md hd im ix W h1)
  clear h1
  have C3 := hide (fun W => lacksStep_T k mf xf ms xs false cs ns ts es md hd im ix W h3)
  clear h3
  have Bp0 := hide (Blk.newAt w (w.heap.size) (rfl) #[.int .i64 k, .int .i64 mf, .int .i64 xf, .int .i64 ms, .int .i64 xs, .bool false, .int .i64 cs, .bool ns, .string ts, .int .i64 es, .int .i64 md, .bool hd, .int .i64 im, .int .i64 ix] 61)
  have HB0 : Hid (Below w.heap.size w (w.alloc (.cells #[.int .i64 k, .int .i64 mf, .int .i64 xf, .int .i64 ms, .int .i64 xs, .bool false, .int .i64 cs, .bool ns, .string ts, .int .i64 es, .int .i64 md, .bool hd, .int .i64 im, .int .i64 ix] 61))) := ((Below.refl _ _).alloc (Nat.le_refl _) _)
  go_enter Tryz.func74, Tryz.ntmps74
  go_wp2_with fail
  refine (C0.out _).mono ?_
  rintro e w1 ⟨rfl, hb⟩
  have Bp1 := Blk.on Bp0 hb
  have HB1 := hide (HB0.out.trans (hb.mono HB0.out.size))
  clear hb Bp0 HB0 
  obtain ⟨yp0, yp1, yp2, yp3, yp4, yp5, yp6, yp7, yp8, yp9, yp10, yp11, yp12, yp13⟩ := Bp1.out.fourteen
  go_wp2_with fail
  refine (C1.out _).mono ?_
  rintro e w2 ⟨rfl, hb⟩
  have Bp2 := Blk.on Bp1 hb
  have HB2 := hide (HB1.out.trans (hb.mono HB1.out.size))
  clear hb Bp1 HB1 yp0 yp1 yp2 yp3 yp4 yp5 yp6 yp7 yp8 yp9 yp10 yp11 yp12 yp13
  obtain ⟨yp0, yp1, yp2, yp3, yp4, yp5, yp6, yp7, yp8, yp9, yp10, yp11, yp12, yp13⟩ := Bp2.out.fourteen
  go_wp2_with fail
  refine (C3.out _).mono ?_
  rintro e w3 ⟨rfl, hb⟩
  have Bp3 := Blk.on Bp2 hb
  have HB3 := hide (HB2.out.trans (hb.mono HB2.out.size))
  clear hb Bp2 HB2 yp0 yp1 yp2 yp3 yp4 yp5 yp6 yp7 yp8 yp9 yp10 yp11 yp12 yp13
  obtain ⟨yp0, yp1, yp2, yp3, yp4, yp5, yp6, yp7, yp8, yp9, yp10, yp11, yp12, yp13⟩ := Bp3.out.fourteen
  go_wp2
  go_ret
  exact ⟨rfl, HB3.out⟩

set_option maxHeartbeats 1000000 in
theorem fieldsOfAll_f0 (k mf xf ms xs : Int) (st : Bool) (cs : Int) (ns : Bool) (ts : ByteArray) (es md : Int) (hd : Bool) (im ix : Int) (w : World) (h0 : ¬ (NoFrac ⟨k, mf, xf, ms, xs, st, cs, ns, bys ts, es, md, hd, im, ix⟩)) : Calls Tryz.prog 74 #[prV k mf xf ms xs st cs ns ts es md hd im ix] w fun e w' => e = .returned (.bool false) ∧ Below w.heap.size w w' := by
  have C0 := hide (fun W => lacksFrac_F k mf xf ms xs st cs ns ts es md hd im ix W h0)
  clear h0
  have Bp0 := hide (Blk.newAt w (w.heap.size) (rfl) #[.int .i64 k, .int .i64 mf, .int .i64 xf, .int .i64 ms, .int .i64 xs, .bool st, .int .i64 cs, .bool ns, .string ts, .int .i64 es, .int .i64 md, .bool hd, .int .i64 im, .int .i64 ix] 61)
  have HB0 : Hid (Below w.heap.size w (w.alloc (.cells #[.int .i64 k, .int .i64 mf, .int .i64 xf, .int .i64 ms, .int .i64 xs, .bool st, .int .i64 cs, .bool ns, .string ts, .int .i64 es, .int .i64 md, .bool hd, .int .i64 im, .int .i64 ix] 61))) := ((Below.refl _ _).alloc (Nat.le_refl _) _)
  go_enter Tryz.func74, Tryz.ntmps74
  go_wp2_with fail
  refine (C0.out _).mono ?_
  rintro e w1 ⟨rfl, hb⟩
  have Bp1 := Blk.on Bp0 hb
  have HB1 := hide (HB0.out.trans (hb.mono HB0.out.size))
  clear hb Bp0 HB0 
  obtain ⟨yp0, yp1, yp2, yp3, yp4, yp5, yp6, yp7, yp8, yp9, yp10, yp11, yp12, yp13⟩ := Bp1.out.fourteen
  go_wp2
  go_ret
  exact ⟨rfl, HB1.out⟩

set_option maxHeartbeats 1000000 in
theorem fieldsOfAll_f1 (k mf xf ms xs : Int) (st : Bool) (cs : Int) (ns : Bool) (ts : ByteArray) (es md : Int) (hd : Bool) (im ix : Int) (w : World) (h0 : (NoFrac ⟨k, mf, xf, ms, xs, st, cs, ns, bys ts, es, md, hd, im, ix⟩)) (h1 : ¬ (NoSig ⟨k, mf, xf, ms, xs, st, cs, ns, bys ts, es, md, hd, im, ix⟩)) : Calls Tryz.prog 74 #[prV k mf xf ms xs st cs ns ts es md hd im ix] w fun e w' => e = .returned (.bool false) ∧ Below w.heap.size w w' := by
  have C0 := hide (fun W => lacksFrac_T k mf xf ms xs st cs ns ts es md hd im ix W h0)
  clear h0
  have C1 := hide (fun W => lacksSig_F k mf xf ms xs st cs ns ts es md hd im ix W h1)
  clear h1
  have Bp0 := hide (Blk.newAt w (w.heap.size) (rfl) #[.int .i64 k, .int .i64 mf, .int .i64 xf, .int .i64 ms, .int .i64 xs, .bool st, .int .i64 cs, .bool ns, .string ts, .int .i64 es, .int .i64 md, .bool hd, .int .i64 im, .int .i64 ix] 61)
  have HB0 : Hid (Below w.heap.size w (w.alloc (.cells #[.int .i64 k, .int .i64 mf, .int .i64 xf, .int .i64 ms, .int .i64 xs, .bool st, .int .i64 cs, .bool ns, .string ts, .int .i64 es, .int .i64 md, .bool hd, .int .i64 im, .int .i64 ix] 61))) := ((Below.refl _ _).alloc (Nat.le_refl _) _)
  go_enter Tryz.func74, Tryz.ntmps74
  go_wp2_with fail
  refine (C0.out _).mono ?_
  rintro e w1 ⟨rfl, hb⟩
  have Bp1 := Blk.on Bp0 hb
  have HB1 := hide (HB0.out.trans (hb.mono HB0.out.size))
  clear hb Bp0 HB0 
  obtain ⟨yp0, yp1, yp2, yp3, yp4, yp5, yp6, yp7, yp8, yp9, yp10, yp11, yp12, yp13⟩ := Bp1.out.fourteen
  go_wp2_with fail
  refine (C1.out _).mono ?_
  rintro e w2 ⟨rfl, hb⟩
  have Bp2 := Blk.on Bp1 hb
  have HB2 := hide (HB1.out.trans (hb.mono HB1.out.size))
  clear hb Bp1 HB1 yp0 yp1 yp2 yp3 yp4 yp5 yp6 yp7 yp8 yp9 yp10 yp11 yp12 yp13
  obtain ⟨yp0, yp1, yp2, yp3, yp4, yp5, yp6, yp7, yp8, yp9, yp10, yp11, yp12, yp13⟩ := Bp2.out.fourteen
  go_wp2
  go_ret
  exact ⟨rfl, HB2.out⟩

set_option maxHeartbeats 1000000 in
theorem fieldsOfAll_f2 (k mf xf ms xs cs : Int) (ns : Bool) (ts : ByteArray) (es md : Int) (hd : Bool) (im ix : Int) (w : World) (h0 : (NoFrac ⟨k, mf, xf, ms, xs, true, cs, ns, bys ts, es, md, hd, im, ix⟩)) (h1 : (NoSig ⟨k, mf, xf, ms, xs, true, cs, ns, bys ts, es, md, hd, im, ix⟩)) : Calls Tryz.prog 74 #[prV k mf xf ms xs true cs ns ts es md hd im ix] w fun e w' => e = .returned (.bool false) ∧ Below w.heap.size w w' := by
  have C0 := hide (fun W => lacksFrac_T k mf xf ms xs true cs ns ts es md hd im ix W h0)
  clear h0
  have C1 := hide (fun W => lacksSig_T k mf xf ms xs true cs ns ts es md hd im ix W h1)
  clear h1
  have Bp0 := hide (Blk.newAt w (w.heap.size) (rfl) #[.int .i64 k, .int .i64 mf, .int .i64 xf, .int .i64 ms, .int .i64 xs, .bool true, .int .i64 cs, .bool ns, .string ts, .int .i64 es, .int .i64 md, .bool hd, .int .i64 im, .int .i64 ix] 61)
  have HB0 : Hid (Below w.heap.size w (w.alloc (.cells #[.int .i64 k, .int .i64 mf, .int .i64 xf, .int .i64 ms, .int .i64 xs, .bool true, .int .i64 cs, .bool ns, .string ts, .int .i64 es, .int .i64 md, .bool hd, .int .i64 im, .int .i64 ix] 61))) := ((Below.refl _ _).alloc (Nat.le_refl _) _)
  go_enter Tryz.func74, Tryz.ntmps74
  go_wp2_with fail
  refine (C0.out _).mono ?_
  rintro e w1 ⟨rfl, hb⟩
  have Bp1 := Blk.on Bp0 hb
  have HB1 := hide (HB0.out.trans (hb.mono HB0.out.size))
  clear hb Bp0 HB0 
  obtain ⟨yp0, yp1, yp2, yp3, yp4, yp5, yp6, yp7, yp8, yp9, yp10, yp11, yp12, yp13⟩ := Bp1.out.fourteen
  go_wp2_with fail
  refine (C1.out _).mono ?_
  rintro e w2 ⟨rfl, hb⟩
  have Bp2 := Blk.on Bp1 hb
  have HB2 := hide (HB1.out.trans (hb.mono HB1.out.size))
  clear hb Bp1 HB1 yp0 yp1 yp2 yp3 yp4 yp5 yp6 yp7 yp8 yp9 yp10 yp11 yp12 yp13
  obtain ⟨yp0, yp1, yp2, yp3, yp4, yp5, yp6, yp7, yp8, yp9, yp10, yp11, yp12, yp13⟩ := Bp2.out.fourteen
  go_wp2
  go_ret
  exact ⟨rfl, HB2.out⟩

set_option maxHeartbeats 1000000 in
theorem fieldsOfAll_f3 (k mf xf ms xs cs : Int) (ns : Bool) (ts : ByteArray) (es md : Int) (hd : Bool) (im ix : Int) (w : World) (h0 : (NoFrac ⟨k, mf, xf, ms, xs, false, cs, ns, bys ts, es, md, hd, im, ix⟩)) (h1 : (NoSig ⟨k, mf, xf, ms, xs, false, cs, ns, bys ts, es, md, hd, im, ix⟩)) (h3 : ¬ (NoStep ⟨k, mf, xf, ms, xs, false, cs, ns, bys ts, es, md, hd, im, ix⟩)) : Calls Tryz.prog 74 #[prV k mf xf ms xs false cs ns ts es md hd im ix] w fun e w' => e = .returned (.bool false) ∧ Below w.heap.size w w' := by
  have C0 := hide (fun W => lacksFrac_T k mf xf ms xs false cs ns ts es md hd im ix W h0)
  clear h0
  have C1 := hide (fun W => lacksSig_T k mf xf ms xs false cs ns ts es md hd im ix W h1)
  clear h1
  have C3 := hide (fun W => lacksStep_F k mf xf ms xs false cs ns ts es md hd im ix W h3)
  clear h3
  have Bp0 := hide (Blk.newAt w (w.heap.size) (rfl) #[.int .i64 k, .int .i64 mf, .int .i64 xf, .int .i64 ms, .int .i64 xs, .bool false, .int .i64 cs, .bool ns, .string ts, .int .i64 es, .int .i64 md, .bool hd, .int .i64 im, .int .i64 ix] 61)
  have HB0 : Hid (Below w.heap.size w (w.alloc (.cells #[.int .i64 k, .int .i64 mf, .int .i64 xf, .int .i64 ms, .int .i64 xs, .bool false, .int .i64 cs, .bool ns, .string ts, .int .i64 es, .int .i64 md, .bool hd, .int .i64 im, .int .i64 ix] 61))) := ((Below.refl _ _).alloc (Nat.le_refl _) _)
  go_enter Tryz.func74, Tryz.ntmps74
  go_wp2_with fail
  refine (C0.out _).mono ?_
  rintro e w1 ⟨rfl, hb⟩
  have Bp1 := Blk.on Bp0 hb
  have HB1 := hide (HB0.out.trans (hb.mono HB0.out.size))
  clear hb Bp0 HB0 
  obtain ⟨yp0, yp1, yp2, yp3, yp4, yp5, yp6, yp7, yp8, yp9, yp10, yp11, yp12, yp13⟩ := Bp1.out.fourteen
  go_wp2_with fail
  refine (C1.out _).mono ?_
  rintro e w2 ⟨rfl, hb⟩
  have Bp2 := Blk.on Bp1 hb
  have HB2 := hide (HB1.out.trans (hb.mono HB1.out.size))
  clear hb Bp1 HB1 yp0 yp1 yp2 yp3 yp4 yp5 yp6 yp7 yp8 yp9 yp10 yp11 yp12 yp13
  obtain ⟨yp0, yp1, yp2, yp3, yp4, yp5, yp6, yp7, yp8, yp9, yp10, yp11, yp12, yp13⟩ := Bp2.out.fourteen
  go_wp2_with fail
  refine (C3.out _).mono ?_
  rintro e w3 ⟨rfl, hb⟩
  have Bp3 := Blk.on Bp2 hb
  have HB3 := hide (HB2.out.trans (hb.mono HB2.out.size))
  clear hb Bp2 HB2 yp0 yp1 yp2 yp3 yp4 yp5 yp6 yp7 yp8 yp9 yp10 yp11 yp12 yp13
  obtain ⟨yp0, yp1, yp2, yp3, yp4, yp5, yp6, yp7, yp8, yp9, yp10, yp11, yp12, yp13⟩ := Bp3.out.fourteen
  go_wp2
  go_ret
  exact ⟨rfl, HB3.out⟩

theorem fieldsOfAll_T (k mf xf ms xs : Int) (st : Bool) (cs : Int) (ns : Bool) (ts : ByteArray) (es md : Int) (hd : Bool) (im ix : Int) (w : World) (h : FieldsAll ⟨k, mf, xf, ms, xs, st, cs, ns, bys ts, es, md, hd, im, ix⟩) : Calls Tryz.prog 74 #[prV k mf xf ms xs st cs ns ts es md hd im ix] w fun e w' => e = .returned (.bool true) ∧ Below w.heap.size w w' := by
  obtain ⟨g0, g1, g2, g3⟩ := h
  simp only at g2
  subst g2
  exact fieldsOfAll_t k mf xf ms xs cs ns ts es md hd im ix w g0 g1 g3

theorem fieldsOfAll_F (k mf xf ms xs : Int) (st : Bool) (cs : Int) (ns : Bool) (ts : ByteArray) (es md : Int) (hd : Bool) (im ix : Int) (w : World) (h : ¬ FieldsAll ⟨k, mf, xf, ms, xs, st, cs, ns, bys ts, es, md, hd, im, ix⟩) : Calls Tryz.prog 74 #[prV k mf xf ms xs st cs ns ts es md hd im ix] w fun e w' => e = .returned (.bool false) ∧ Below w.heap.size w w' := by
  by_cases q0 : NoFrac ⟨k, mf, xf, ms, xs, st, cs, ns, bys ts, es, md, hd, im, ix⟩
  rotate_left
  · exact fieldsOfAll_f0 k mf xf ms xs st cs ns ts es md hd im ix w  q0
  by_cases q1 : NoSig ⟨k, mf, xf, ms, xs, st, cs, ns, bys ts, es, md, hd, im, ix⟩
  rotate_left
  · exact fieldsOfAll_f1 k mf xf ms xs st cs ns ts es md hd im ix w q0 q1
  cases st
  rotate_left
  · exact fieldsOfAll_f2 k mf xf ms xs cs ns ts es md hd im ix w q0 q1
  exact fieldsOfAll_f3 k mf xf ms xs cs ns ts es md hd im ix w q0 q1 (fun q3 => h ⟨q0, q1, rfl, q3⟩)

set_option maxHeartbeats 1000000 in
theorem fieldsOfFrac_t (k mf xf ms xs cs : Int) (ns : Bool) (ts : ByteArray) (es md : Int) (hd : Bool) (im ix : Int) (w : World) (h0 : (FracOk ⟨k, mf, xf, ms, xs, false, cs, ns, bys ts, es, md, hd, im, ix⟩)) (h1 : (NoSig ⟨k, mf, xf, ms, xs, false, cs, ns, bys ts, es, md, hd, im, ix⟩)) (h3 : (NoStep ⟨k, mf, xf, ms, xs, false, cs, ns, bys ts, es, md, hd, im, ix⟩)) : Calls Tryz.prog 77 #[prV k mf xf ms xs false cs ns ts es md hd im ix] w fun e w' => e = .returned (.bool true) ∧ Below w.heap.size w w' := by
  have C0 := hide (fun W => mayFrac_T k mf xf ms xs false cs ns ts es md hd im ix W h0)
  clear h0
  have C1 := hide (fun W => lacksSig_T k mf xf ms xs false cs ns ts es md hd im ix W h1)
  clear h1
  have C3 := hide (fun W => lacksStep_T k mf xf ms xs false cs ns ts es md hd im ix W h3)
  clear h3
  have Bp0 := hide (Blk.newAt w (w.heap.size) (rfl) #[.int .i64 k, .int .i64 mf, .int .i64 xf, .int .i64 ms, .int .i64 xs, .bool false, .int .i64 cs, .bool ns, .string ts, .int .i64 es, .int .i64 md, .bool hd, .int .i64 im, .int .i64 ix] 61)
  have HB0 : Hid (Below w.heap.size w (w.alloc (.cells #[.int .i64 k, .int .i64 mf, .int .i64 xf, .int .i64 ms, .int .i64 xs, .bool false, .int .i64 cs, .bool ns, .string ts, .int .i64 es, .int .i64 md, .bool hd, .int .i64 im, .int .i64 ix] 61))) := ((Below.refl _ _).alloc (Nat.le_refl _) _)
  go_enter Tryz.func77, Tryz.ntmps77
  go_wp2_with fail
  refine (C0.out _).mono ?_
  rintro e w1 ⟨rfl, hb⟩
  have Bp1 := Blk.on Bp0 hb
  have HB1 := hide (HB0.out.trans (hb.mono HB0.out.size))
  clear hb Bp0 HB0 
  obtain ⟨yp0, yp1, yp2, yp3, yp4, yp5, yp6, yp7, yp8, yp9, yp10, yp11, yp12, yp13⟩ := Bp1.out.fourteen
  go_wp2_with fail
  refine (C1.out _).mono ?_
  rintro e w2 ⟨rfl, hb⟩
  have Bp2 := Blk.on Bp1 hb
  have HB2 := hide (HB1.out.trans (hb.mono HB1.out.size))
  clear hb Bp1 HB1 yp0 yp1 yp2 yp3 yp4 yp5 yp6 yp7 yp8 yp9 yp10 yp11 yp12 yp13
  obtain ⟨yp0, yp1, yp2, yp3, yp4, yp5, yp6, yp7, yp8, yp9, yp10, yp11, yp12, yp13⟩ := Bp2.out.fourteen
  go_wp2_with fail
  refine (C3.out _).mono ?_
  rintro e w3 ⟨rfl, hb⟩
  have Bp3 := Blk.on Bp2 hb
  have HB3 := hide (HB2.out.trans (hb.mono HB2.out.size))
  clear hb Bp2 HB2 yp0 yp1 yp2 yp3 yp4 yp5 yp6 yp7 yp8 yp9 yp10 yp11 yp12 yp13
  obtain ⟨yp0, yp1, yp2, yp3, yp4, yp5, yp6, yp7, yp8, yp9, yp10, yp11, yp12, yp13⟩ := Bp3.out.fourteen
  go_wp2
  go_ret
  exact ⟨rfl, HB3.out⟩

set_option maxHeartbeats 1000000 in
theorem fieldsOfFrac_f0 (k mf xf ms xs : Int) (st : Bool) (cs : Int) (ns : Bool) (ts : ByteArray) (es md : Int) (hd : Bool) (im ix : Int) (w : World) (h0 : ¬ (FracOk ⟨k, mf, xf, ms, xs, st, cs, ns, bys ts, es, md, hd, im, ix⟩)) : Calls Tryz.prog 77 #[prV k mf xf ms xs st cs ns ts es md hd im ix] w fun e w' => e = .returned (.bool false) ∧ Below w.heap.size w w' := by
  have C0 := hide (fun W => mayFrac_F k mf xf ms xs st cs ns ts es md hd im ix W h0)
  clear h0
  have Bp0 := hide (Blk.newAt w (w.heap.size) (rfl) #[.int .i64 k, .int .i64 mf, .int .i64 xf, .int .i64 ms, .int .i64 xs, .bool st, .int .i64 cs, .bool ns, .string ts, .int .i64 es, .int .i64 md, .bool hd, .int .i64 im, .int .i64 ix] 61)
  have HB0 : Hid (Below w.heap.size w (w.alloc (.cells #[.int .i64 k, .int .i64 mf, .int .i64 xf, .int .i64 ms, .int .i64 xs, .bool st, .int .i64 cs, .bool ns, .string ts, .int .i64 es, .int .i64 md, .bool hd, .int .i64 im, .int .i64 ix] 61))) := ((Below.refl _ _).alloc (Nat.le_refl _) _)
  go_enter Tryz.func77, Tryz.ntmps77
  go_wp2_with fail
  refine (C0.out _).mono ?_
  rintro e w1 ⟨rfl, hb⟩
  have Bp1 := Blk.on Bp0 hb
  have HB1 := hide (HB0.out.trans (hb.mono HB0.out.size))
  clear hb Bp0 HB0 
  obtain ⟨yp0, yp1, yp2, yp3, yp4, yp5, yp6, yp7, yp8, yp9, yp10, yp11, yp12, yp13⟩ := Bp1.out.fourteen
  go_wp2
  go_ret
  exact ⟨rfl, HB1.out⟩

set_option maxHeartbeats 1000000 in
theorem fieldsOfFrac_f1 (k mf xf ms xs : Int) (st : Bool) (cs : Int) (ns : Bool) (ts : ByteArray) (es md : Int) (hd : Bool) (im ix : Int) (w : World) (h0 : (FracOk ⟨k, mf, xf, ms, xs, st, cs, ns, bys ts, es, md, hd, im, ix⟩)) (h1 : ¬ (NoSig ⟨k, mf, xf, ms, xs, st, cs, ns, bys ts, es, md, hd, im, ix⟩)) : Calls Tryz.prog 77 #[prV k mf xf ms xs st cs ns ts es md hd im ix] w fun e w' => e = .returned (.bool false) ∧ Below w.heap.size w w' := by
  have C0 := hide (fun W => mayFrac_T k mf xf ms xs st cs ns ts es md hd im ix W h0)
  clear h0
  have C1 := hide (fun W => lacksSig_F k mf xf ms xs st cs ns ts es md hd im ix W h1)
  clear h1
  have Bp0 := hide (Blk.newAt w (w.heap.size) (rfl) #[.int .i64 k, .int .i64 mf, .int .i64 xf, .int .i64 ms, .int .i64 xs, .bool st, .int .i64 cs, .bool ns, .string ts, .int .i64 es, .int .i64 md, .bool hd, .int .i64 im, .int .i64 ix] 61)
  have HB0 : Hid (Below w.heap.size w (w.alloc (.cells #[.int .i64 k, .int .i64 mf, .int .i64 xf, .int .i64 ms, .int .i64 xs, .bool st, .int .i64 cs, .bool ns, .string ts, .int .i64 es, .int .i64 md, .bool hd, .int .i64 im, .int .i64 ix] 61))) := ((Below.refl _ _).alloc (Nat.le_refl _) _)
  go_enter Tryz.func77, Tryz.ntmps77
  go_wp2_with fail
  refine (C0.out _).mono ?_
  rintro e w1 ⟨rfl, hb⟩
  have Bp1 := Blk.on Bp0 hb
  have HB1 := hide (HB0.out.trans (hb.mono HB0.out.size))
  clear hb Bp0 HB0 
  obtain ⟨yp0, yp1, yp2, yp3, yp4, yp5, yp6, yp7, yp8, yp9, yp10, yp11, yp12, yp13⟩ := Bp1.out.fourteen
  go_wp2_with fail
  refine (C1.out _).mono ?_
  rintro e w2 ⟨rfl, hb⟩
  have Bp2 := Blk.on Bp1 hb
  have HB2 := hide (HB1.out.trans (hb.mono HB1.out.size))
  clear hb Bp1 HB1 yp0 yp1 yp2 yp3 yp4 yp5 yp6 yp7 yp8 yp9 yp10 yp11 yp12 yp13
  obtain ⟨yp0, yp1, yp2, yp3, yp4, yp5, yp6, yp7, yp8, yp9, yp10, yp11, yp12, yp13⟩ := Bp2.out.fourteen
  go_wp2
  go_ret
  exact ⟨rfl, HB2.out⟩

set_option maxHeartbeats 1000000 in
theorem fieldsOfFrac_f2 (k mf xf ms xs cs : Int) (ns : Bool) (ts : ByteArray) (es md : Int) (hd : Bool) (im ix : Int) (w : World) (h0 : (FracOk ⟨k, mf, xf, ms, xs, true, cs, ns, bys ts, es, md, hd, im, ix⟩)) (h1 : (NoSig ⟨k, mf, xf, ms, xs, true, cs, ns, bys ts, es, md, hd, im, ix⟩)) : Calls Tryz.prog 77 #[prV k mf xf ms xs true cs ns ts es md hd im ix] w fun e w' => e = .returned (.bool false) ∧ Below w.heap.size w w' := by
  have C0 := hide (fun W => mayFrac_T k mf xf ms xs true cs ns ts es md hd im ix W h0)
  clear h0
  have C1 := hide (fun W => lacksSig_T k mf xf ms xs true cs ns ts es md hd im ix W h1)
  clear h1
  have Bp0 := hide (Blk.newAt w (w.heap.size) (rfl) #[.int .i64 k, .int .i64 mf, .int .i64 xf, .int .i64 ms, .int .i64 xs, .bool true, .int .i64 cs, .bool ns, .string ts, .int .i64 es, .int .i64 md, .bool hd, .int .i64 im, .int .i64 ix] 61)
  have HB0 : Hid (Below w.heap.size w (w.alloc (.cells #[.int .i64 k, .int .i64 mf, .int .i64 xf, .int .i64 ms, .int .i64 xs, .bool true, .int .i64 cs, .bool ns, .string ts, .int .i64 es, .int .i64 md, .bool hd, .int .i64 im, .int .i64 ix] 61))) := ((Below.refl _ _).alloc (Nat.le_refl _) _)
  go_enter Tryz.func77, Tryz.ntmps77
  go_wp2_with fail
  refine (C0.out _).mono ?_
  rintro e w1 ⟨rfl, hb⟩
  have Bp1 := Blk.on Bp0 hb
  have HB1 := hide (HB0.out.trans (hb.mono HB0.out.size))
  clear hb Bp0 HB0 
  obtain ⟨yp0, yp1, yp2, yp3, yp4, yp5, yp6, yp7, yp8, yp9, yp10, yp11, yp12, yp13⟩ := Bp1.out.fourteen
  go_wp2_with fail
  refine (C1.out _).mono ?_
  rintro e w2 ⟨rfl, hb⟩
  have Bp2 := Blk.on Bp1 hb
  have HB2 := hide (HB1.out.trans (hb.mono HB1.out.size))
  clear hb Bp1 HB1 yp0 yp1 yp2 yp3 yp4 yp5 yp6 yp7 yp8 yp9 yp10 yp11 yp12 yp13
  obtain ⟨yp0, yp1, yp2, yp3, yp4, yp5, yp6, yp7, yp8, yp9, yp10, yp11, yp12, yp13⟩ := Bp2.out.fourteen
  go_wp2
  go_ret
  exact ⟨rfl, HB2.out⟩

set_option maxHeartbeats 1000000 in
theorem fieldsOfFrac_f3 (k mf xf ms xs cs : Int) (ns : Bool) (ts : ByteArray) (es md : Int) (hd : Bool) (im ix : Int) (w : World) (h0 : (FracOk ⟨k, mf, xf, ms, xs, false, cs, ns, bys ts, es, md, hd, im, ix⟩)) (h1 : (NoSig ⟨k, mf, xf, ms, xs, false, cs, ns, bys ts, es, md, hd, im, ix⟩)) (h3 : ¬ (NoStep ⟨k, mf, xf, ms, xs, false, cs, ns, bys ts, es, md, hd, im, ix⟩)) : Calls Tryz.prog 77 #[prV k mf xf ms xs false cs ns ts es md hd im ix] w fun e w' => e = .returned (.bool false) ∧ Below w.heap.size w w' := by
  have C0 := hide (fun W => mayFrac_T k mf xf ms xs false cs ns ts es md hd im ix W h0)
  clear h0
  have C1 := hide (fun W => lacksSig_T k mf xf ms xs false cs ns ts es md hd im ix W h1)
  clear h1
  have C3 := hide (fun W => lacksStep_F k mf xf ms xs false cs ns ts es md hd im ix W h3)
  clear h3
  have Bp0 := hide (Blk.newAt w (w.heap.size) (rfl) #[.int .i64 k, .int .i64 mf, .int .i64 xf, .int .i64 ms, .int .i64 xs, .bool false, .int .i64 cs, .bool ns, .string ts, .int .i64 es, .int .i64 md, .bool hd, .int .i64 im, .int .i64 ix] 61)
  have HB0 : Hid (Below w.heap.size w (w.alloc (.cells #[.int .i64 k, .int .i64 mf, .int .i64 xf, .int .i64 ms, .int .i64 xs, .bool false, .int .i64 cs, .bool ns, .string ts, .int .i64 es, .int .i64 md, .bool hd, .int .i64 im, .int .i64 ix] 61))) := ((Below.refl _ _).alloc (Nat.le_refl _) _)
  go_enter Tryz.func77, Tryz.ntmps77
  go_wp2_with fail
  refine (C0.out _).mono ?_
  rintro e w1 ⟨rfl, hb⟩
  have Bp1 := Blk.on Bp0 hb
  have HB1 := hide (HB0.out.trans (hb.mono HB0.out.size))
  clear hb Bp0 HB0 
  obtain ⟨yp0, yp1, yp2, yp3, yp4, yp5, yp6, yp7, yp8, yp9, yp10, yp11, yp12, yp13⟩ := Bp1.out.fourteen
  go_wp2_with fail
  refine (C1.out _).mono ?_
  rintro e w2 ⟨rfl, hb⟩
  have Bp2 := Blk.on Bp1 hb
  have HB2 := hide (HB1.out.trans (hb.mono HB1.out.size))
  clear hb Bp1 HB1 yp0 yp1 yp2 yp3 yp4 yp5 yp6 yp7 yp8 yp9 yp10 yp11 yp12 yp13
  obtain ⟨yp0, yp1, yp2, yp3, yp4, yp5, yp6, yp7, yp8, yp9, yp10, yp11, yp12, yp13⟩ := Bp2.out.fourteen
  go_wp2_with fail
  refine (C3.out _).mono ?_
  rintro e w3 ⟨rfl, hb⟩
  have Bp3 := Blk.on Bp2 hb
  have HB3 := hide (HB2.out.trans (hb.mono HB2.out.size))
  clear hb Bp2 HB2 yp0 yp1 yp2 yp3 yp4 yp5 yp6 yp7 yp8 yp9 yp10 yp11 yp12 yp13
  obtain ⟨yp0, yp1, yp2, yp3, yp4, yp5, yp6, yp7, yp8, yp9, yp10, yp11, yp12, yp13⟩ := Bp3.out.fourteen
  go_wp2
  go_ret
  exact ⟨rfl, HB3.out⟩

theorem fieldsOfFrac_T (k mf xf ms xs : Int) (st : Bool) (cs : Int) (ns : Bool) (ts : ByteArray) (es md : Int) (hd : Bool) (im ix : Int) (w : World) (h : FieldsFrac ⟨k, mf, xf, ms, xs, st, cs, ns, bys ts, es, md, hd, im, ix⟩) : Calls Tryz.prog 77 #[prV k mf xf ms xs st cs ns ts es md hd im ix] w fun e w' => e = .returned (.bool true) ∧ Below w.heap.size w w' := by
  obtain ⟨g0, g1, g2, g3⟩ := h
  simp only at g2
  subst g2
  exact fieldsOfFrac_t k mf xf ms xs cs ns ts es md hd im ix w g0 g1 g3

theorem fieldsOfFrac_F (k mf xf ms xs : Int) (st : Bool) (cs : Int) (ns : Bool) (ts : ByteArray) (es md : Int) (hd : Bool) (im ix : Int) (w : World) (h : ¬ FieldsFrac ⟨k, mf, xf, ms, xs, st, cs, ns, bys ts, es, md, hd, im, ix⟩) : Calls Tryz.prog 77 #[prV k mf xf ms xs st cs ns ts es md hd im ix] w fun e w' => e = .returned (.bool false) ∧ Below w.heap.size w w' := by
  by_cases q0 : FracOk ⟨k, mf, xf, ms, xs, st, cs, ns, bys ts, es, md, hd, im, ix⟩
  rotate_left
  · exact fieldsOfFrac_f0 k mf xf ms xs st cs ns ts es md hd im ix w  q0
  by_cases q1 : NoSig ⟨k, mf, xf, ms, xs, st, cs, ns, bys ts, es, md, hd, im, ix⟩
  rotate_left
  · exact fieldsOfFrac_f1 k mf xf ms xs st cs ns ts es md hd im ix w q0 q1
  cases st
  rotate_left
  · exact fieldsOfFrac_f2 k mf xf ms xs cs ns ts es md hd im ix w q0 q1
  exact fieldsOfFrac_f3 k mf xf ms xs cs ns ts es md hd im ix w q0 q1 (fun q3 => h ⟨q0, q1, rfl, q3⟩)

end Go.Proofs.YtobloamnaemfnaaGreatDoor
