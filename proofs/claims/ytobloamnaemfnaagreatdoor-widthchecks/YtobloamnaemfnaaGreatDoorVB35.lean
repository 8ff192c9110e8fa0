/-
  What quipuref07's Check says of kind 1, where a field is not zero.
  What quipuref07's Check says of kind 2, where mode or whole digits are not as they may be.
-/
import Derived.Test.YtobloamnaemfnaaGreatDoorVB28
namespace Go.Proofs.YtobloamnaemfnaaGreatDoor
open Go.RowKit

set_option maxRecDepth 100000 in
set_option maxHeartbeats 4000000 in
theorem rchk1_dms (mf xf ms xs : Int) (st : Bool) (cs : Int) (ns : Bool) (ts : ByteArray) (es md : Int) (hd : Bool) (im ix : Int) (w : World) (p0 : ((0 ≤ mf ∧ mf ≤ xf) ∧ xf ≤ 99)) (hB : BaseOk md im ix) (d1 : ¬ ms = 0) : Calls Tryz.prog 13 #[prV 1 mf xf ms xs st cs ns ts es md hd im ix] w fun e w' => e = .returned (.int .i64 70) ∧ Below w.heap.size w w' := by
  have C0 := hide (fun W => pair_t mf xf 0 W p0.1.1 p0.1.2 p0.2)
  clear p0
  unfold BaseOk at hB
  rcases hB with ⟨b1, b2, b3, b4, b5⟩ | ⟨b1, b2, b3, b4, b5, b6, b7, b8⟩
  all_goals
    have Bp0 := hide (Blk.newAt w (w.heap.size) (rfl) #[.int .i64 1, .int .i64 mf, .int .i64 xf, .int .i64 ms, .int .i64 xs, .bool st, .int .i64 cs, .bool ns, .string ts, .int .i64 es, .int .i64 md, .bool hd, .int .i64 im, .int .i64 ix] 30)
    have HB0 : Hid (Below w.heap.size w (w.alloc (.cells #[.int .i64 1, .int .i64 mf, .int .i64 xf, .int .i64 ms, .int .i64 xs, .bool st, .int .i64 cs, .bool ns, .string ts, .int .i64 es, .int .i64 md, .bool hd, .int .i64 im, .int .i64 ix] 30))) := ((Below.refl _ _).alloc (Nat.le_refl _) _)
    go_enter Tryz.func13, Tryz.ntmps13
    have Bp1 := Blk.up Bp0 (.cells #[.int .i64 1, .int .i64 mf, .int .i64 xf, .int .i64 0, .int .i64 0, .bool false, .int .i64 0, .bool false, .string ⟨#[]⟩, .int .i64 0, .int .i64 md, .bool hd, .int .i64 im, .int .i64 ix] 30)
    have Bq1 := hide ((Blk.newAt (w.alloc (.cells #[.int .i64 1, .int .i64 mf, .int .i64 xf, .int .i64 ms, .int .i64 xs, .bool st, .int .i64 cs, .bool ns, .string ts, .int .i64 es, .int .i64 md, .bool hd, .int .i64 im, .int .i64 ix] 30)) (w.heap.size + 1) (by simp) #[.int .i64 1, .int .i64 mf, .int .i64 xf, .int .i64 0, .int .i64 0, .bool false, .int .i64 0, .bool false, .string ⟨#[]⟩, .int .i64 0, .int .i64 md, .bool hd, .int .i64 im, .int .i64 ix] 30))
    have HB1 : Hid (Below w.heap.size w ((w.alloc (.cells #[.int .i64 1, .int .i64 mf, .int .i64 xf, .int .i64 ms, .int .i64 xs, .bool st, .int .i64 cs, .bool ns, .string ts, .int .i64 es, .int .i64 md, .bool hd, .int .i64 im, .int .i64 ix] 30)).alloc (.cells #[.int .i64 1, .int .i64 mf, .int .i64 xf, .int .i64 0, .int .i64 0, .bool false, .int .i64 0, .bool false, .string ⟨#[]⟩, .int .i64 0, .int .i64 md, .bool hd, .int .i64 im, .int .i64 ix] 30))) := (HB0.out.alloc HB0.out.size _)
    clear Bp0 HB0 
    go_wp2_with fail
    go_region
    go_wp2_with fail
    refine (C0.out _).mono ?_
    rintro e w2 ⟨rfl, hb⟩
    have hb := (Below.refl _ _).drew.trans hb
    have Bp2 := Blk.on Bp1 hb
    have Bq2 := Blk.on Bq1 hb
    have HB2 := hide (HB1.out.trans (hb.mono HB1.out.size))
    clear hb Bp1 Bq1 HB1 
    obtain ⟨yp0, yp1, yp2, yp3, yp4, yp5, yp6, yp7, yp8, yp9, yp10, yp11, yp12, yp13⟩ := Bp2.out.fourteen
    obtain ⟨yq0, yq1, yq2, yq3, yq4, yq5, yq6, yq7, yq8, yq9, yq10, yq11, yq12, yq13⟩ := Bq2.out.fourteen
    go_wp2
    all_goals (go_ret; first | exact ⟨rfl, HB2.out⟩ | (exfalso; simp at d1; contradiction) | (exfalso; contradiction))

set_option maxRecDepth 100000 in
set_option maxHeartbeats 4000000 in
theorem rchk1_dxs (mf xf ms xs : Int) (st : Bool) (cs : Int) (ns : Bool) (ts : ByteArray) (es md : Int) (hd : Bool) (im ix : Int) (w : World) (p0 : ((0 ≤ mf ∧ mf ≤ xf) ∧ xf ≤ 99)) (hB : BaseOk md im ix) (d1 : ¬ xs = 0) : Calls Tryz.prog 13 #[prV 1 mf xf ms xs st cs ns ts es md hd im ix] w fun e w' => e = .returned (.int .i64 70) ∧ Below w.heap.size w w' := by
  have C0 := hide (fun W => pair_t mf xf 0 W p0.1.1 p0.1.2 p0.2)
  clear p0
  unfold BaseOk at hB
  rcases hB with ⟨b1, b2, b3, b4, b5⟩ | ⟨b1, b2, b3, b4, b5, b6, b7, b8⟩
  all_goals
    have Bp0 := hide (Blk.newAt w (w.heap.size) (rfl) #[.int .i64 1, .int .i64 mf, .int .i64 xf, .int .i64 ms, .int .i64 xs, .bool st, .int .i64 cs, .bool ns, .string ts, .int .i64 es, .int .i64 md, .bool hd, .int .i64 im, .int .i64 ix] 30)
    have HB0 : Hid (Below w.heap.size w (w.alloc (.cells #[.int .i64 1, .int .i64 mf, .int .i64 xf, .int .i64 ms, .int .i64 xs, .bool st, .int .i64 cs, .bool ns, .string ts, .int .i64 es, .int .i64 md, .bool hd, .int .i64 im, .int .i64 ix] 30))) := ((Below.refl _ _).alloc (Nat.le_refl _) _)
    go_enter Tryz.func13, Tryz.ntmps13
    have Bp1 := Blk.up Bp0 (.cells #[.int .i64 1, .int .i64 mf, .int .i64 xf, .int .i64 0, .int .i64 0, .bool false, .int .i64 0, .bool false, .string ⟨#[]⟩, .int .i64 0, .int .i64 md, .bool hd, .int .i64 im, .int .i64 ix] 30)
    have Bq1 := hide ((Blk.newAt (w.alloc (.cells #[.int .i64 1, .int .i64 mf, .int .i64 xf, .int .i64 ms, .int .i64 xs, .bool st, .int .i64 cs, .bool ns, .string ts, .int .i64 es, .int .i64 md, .bool hd, .int .i64 im, .int .i64 ix] 30)) (w.heap.size + 1) (by simp) #[.int .i64 1, .int .i64 mf, .int .i64 xf, .int .i64 0, .int .i64 0, .bool false, .int .i64 0, .bool false, .string ⟨#[]⟩, .int .i64 0, .int .i64 md, .bool hd, .int .i64 im, .int .i64 ix] 30))
    have HB1 : Hid (Below w.heap.size w ((w.alloc (.cells #[.int .i64 1, .int .i64 mf, .int .i64 xf, .int .i64 ms, .int .i64 xs, .bool st, .int .i64 cs, .bool ns, .string ts, .int .i64 es, .int .i64 md, .bool hd, .int .i64 im, .int .i64 ix] 30)).alloc (.cells #[.int .i64 1, .int .i64 mf, .int .i64 xf, .int .i64 0, .int .i64 0, .bool false, .int .i64 0, .bool false, .string ⟨#[]⟩, .int .i64 0, .int .i64 md, .bool hd, .int .i64 im, .int .i64 ix] 30))) := (HB0.out.alloc HB0.out.size _)
    clear Bp0 HB0 
    go_wp2_with fail
    go_region
    go_wp2_with fail
    refine (C0.out _).mono ?_
    rintro e w2 ⟨rfl, hb⟩
    have hb := (Below.refl _ _).drew.trans hb
    have Bp2 := Blk.on Bp1 hb
    have Bq2 := Blk.on Bq1 hb
    have HB2 := hide (HB1.out.trans (hb.mono HB1.out.size))
    clear hb Bp1 Bq1 HB1 
    obtain ⟨yp0, yp1, yp2, yp3, yp4, yp5, yp6, yp7, yp8, yp9, yp10, yp11, yp12, yp13⟩ := Bp2.out.fourteen
    obtain ⟨yq0, yq1, yq2, yq3, yq4, yq5, yq6, yq7, yq8, yq9, yq10, yq11, yq12, yq13⟩ := Bq2.out.fourteen
    go_wp2
    all_goals (go_ret; first | exact ⟨rfl, HB2.out⟩ | (exfalso; simp at d1; contradiction) | (exfalso; contradiction))

set_option maxRecDepth 100000 in
set_option maxHeartbeats 4000000 in
theorem rchk1_dcs (mf xf ms xs : Int) (st : Bool) (cs : Int) (ns : Bool) (ts : ByteArray) (es md : Int) (hd : Bool) (im ix : Int) (w : World) (p0 : ((0 ≤ mf ∧ mf ≤ xf) ∧ xf ≤ 99)) (hB : BaseOk md im ix) (d1 : ¬ cs = 0) : Calls Tryz.prog 13 #[prV 1 mf xf ms xs st cs ns ts es md hd im ix] w fun e w' => e = .returned (.int .i64 70) ∧ Below w.heap.size w w' := by
  have C0 := hide (fun W => pair_t mf xf 0 W p0.1.1 p0.1.2 p0.2)
  clear p0
  unfold BaseOk at hB
  rcases hB with ⟨b1, b2, b3, b4, b5⟩ | ⟨b1, b2, b3, b4, b5, b6, b7, b8⟩
  all_goals
    have Bp0 := hide (Blk.newAt w (w.heap.size) (rfl) #[.int .i64 1, .int .i64 mf, .int .i64 xf, .int .i64 ms, .int .i64 xs, .bool st, .int .i64 cs, .bool ns, .string ts, .int .i64 es, .int .i64 md, .bool hd, .int .i64 im, .int .i64 ix] 30)
    have HB0 : Hid (Below w.heap.size w (w.alloc (.cells #[.int .i64 1, .int .i64 mf, .int .i64 xf, .int .i64 ms, .int .i64 xs, .bool st, .int .i64 cs, .bool ns, .string ts, .int .i64 es, .int .i64 md, .bool hd, .int .i64 im, .int .i64 ix] 30))) := ((Below.refl _ _).alloc (Nat.le_refl _) _)
    go_enter Tryz.func13, Tryz.ntmps13
    have Bp1 := Blk.up Bp0 (.cells #[.int .i64 1, .int .i64 mf, .int .i64 xf, .int .i64 0, .int .i64 0, .bool false, .int .i64 0, .bool false, .string ⟨#[]⟩, .int .i64 0, .int .i64 md, .bool hd, .int .i64 im, .int .i64 ix] 30)
    have Bq1 := hide ((Blk.newAt (w.alloc (.cells #[.int .i64 1, .int .i64 mf, .int .i64 xf, .int .i64 ms, .int .i64 xs, .bool st, .int .i64 cs, .bool ns, .string ts, .int .i64 es, .int .i64 md, .bool hd, .int .i64 im, .int .i64 ix] 30)) (w.heap.size + 1) (by simp) #[.int .i64 1, .int .i64 mf, .int .i64 xf, .int .i64 0, .int .i64 0, .bool false, .int .i64 0, .bool false, .string ⟨#[]⟩, .int .i64 0, .int .i64 md, .bool hd, .int .i64 im, .int .i64 ix] 30))
    have HB1 : Hid (Below w.heap.size w ((w.alloc (.cells #[.int .i64 1, .int .i64 mf, .int .i64 xf, .int .i64 ms, .int .i64 xs, .bool st, .int .i64 cs, .bool ns, .string ts, .int .i64 es, .int .i64 md, .bool hd, .int .i64 im, .int .i64 ix] 30)).alloc (.cells #[.int .i64 1, .int .i64 mf, .int .i64 xf, .int .i64 0, .int .i64 0, .bool false, .int .i64 0, .bool false, .string ⟨#[]⟩, .int .i64 0, .int .i64 md, .bool hd, .int .i64 im, .int .i64 ix] 30))) := (HB0.out.alloc HB0.out.size _)
    clear Bp0 HB0 
    go_wp2_with fail
    go_region
    go_wp2_with fail
    refine (C0.out _).mono ?_
    rintro e w2 ⟨rfl, hb⟩
    have hb := (Below.refl _ _).drew.trans hb
    have Bp2 := Blk.on Bp1 hb
    have Bq2 := Blk.on Bq1 hb
    have HB2 := hide (HB1.out.trans (hb.mono HB1.out.size))
    clear hb Bp1 Bq1 HB1 
    obtain ⟨yp0, yp1, yp2, yp3, yp4, yp5, yp6, yp7, yp8, yp9, yp10, yp11, yp12, yp13⟩ := Bp2.out.fourteen
    obtain ⟨yq0, yq1, yq2, yq3, yq4, yq5, yq6, yq7, yq8, yq9, yq10, yq11, yq12, yq13⟩ := Bq2.out.fourteen
    go_wp2
    all_goals (go_ret; first | exact ⟨rfl, HB2.out⟩ | (exfalso; simp at d1; contradiction) | (exfalso; contradiction))

set_option maxRecDepth 100000 in
set_option maxHeartbeats 4000000 in
theorem rchk1_dts (mf xf ms xs : Int) (st : Bool) (cs : Int) (ns : Bool) (ts : ByteArray) (es md : Int) (hd : Bool) (im ix : Int) (w : World) (p0 : ((0 ≤ mf ∧ mf ≤ xf) ∧ xf ≤ 99)) (hB : BaseOk md im ix) (d1 : (ts.toList == []) = false) : Calls Tryz.prog 13 #[prV 1 mf xf ms xs st cs ns ts es md hd im ix] w fun e w' => e = .returned (.int .i64 70) ∧ Below w.heap.size w w' := by
  have C0 := hide (fun W => pair_t mf xf 0 W p0.1.1 p0.1.2 p0.2)
  clear p0
  unfold BaseOk at hB
  rcases hB with ⟨b1, b2, b3, b4, b5⟩ | ⟨b1, b2, b3, b4, b5, b6, b7, b8⟩
  all_goals
    have Bp0 := hide (Blk.newAt w (w.heap.size) (rfl) #[.int .i64 1, .int .i64 mf, .int .i64 xf, .int .i64 ms, .int .i64 xs, .bool st, .int .i64 cs, .bool ns, .string ts, .int .i64 es, .int .i64 md, .bool hd, .int .i64 im, .int .i64 ix] 30)
    have HB0 : Hid (Below w.heap.size w (w.alloc (.cells #[.int .i64 1, .int .i64 mf, .int .i64 xf, .int .i64 ms, .int .i64 xs, .bool st, .int .i64 cs, .bool ns, .string ts, .int .i64 es, .int .i64 md, .bool hd, .int .i64 im, .int .i64 ix] 30))) := ((Below.refl _ _).alloc (Nat.le_refl _) _)
    go_enter Tryz.func13, Tryz.ntmps13
    have Bp1 := Blk.up Bp0 (.cells #[.int .i64 1, .int .i64 mf, .int .i64 xf, .int .i64 0, .int .i64 0, .bool false, .int .i64 0, .bool false, .string ⟨#[]⟩, .int .i64 0, .int .i64 md, .bool hd, .int .i64 im, .int .i64 ix] 30)
    have Bq1 := hide ((Blk.newAt (w.alloc (.cells #[.int .i64 1, .int .i64 mf, .int .i64 xf, .int .i64 ms, .int .i64 xs, .bool st, .int .i64 cs, .bool ns, .string ts, .int .i64 es, .int .i64 md, .bool hd, .int .i64 im, .int .i64 ix] 30)) (w.heap.size + 1) (by simp) #[.int .i64 1, .int .i64 mf, .int .i64 xf, .int .i64 0, .int .i64 0, .bool false, .int .i64 0, .bool false, .string ⟨#[]⟩, .int .i64 0, .int .i64 md, .bool hd, .int .i64 im, .int .i64 ix] 30))
    have HB1 : Hid (Below w.heap.size w ((w.alloc (.cells #[.int .i64 1, .int .i64 mf, .int .i64 xf, .int .i64 ms, .int .i64 xs, .bool st, .int .i64 cs, .bool ns, .string ts, .int .i64 es, .int .i64 md, .bool hd, .int .i64 im, .int .i64 ix] 30)).alloc (.cells #[.int .i64 1, .int .i64 mf, .int .i64 xf, .int .i64 0, .int .i64 0, .bool false, .int .i64 0, .bool false, .string ⟨#[]⟩, .int .i64 0, .int .i64 md, .bool hd, .int .i64 im, .int .i64 ix] 30))) := (HB0.out.alloc HB0.out.size _)
    clear Bp0 HB0 
    go_wp2_with fail
    go_region
    go_wp2_with fail
    refine (C0.out _).mono ?_
    rintro e w2 ⟨rfl, hb⟩
    have hb := (Below.refl _ _).drew.trans hb
    have Bp2 := Blk.on Bp1 hb
    have Bq2 := Blk.on Bq1 hb
    have HB2 := hide (HB1.out.trans (hb.mono HB1.out.size))
    clear hb Bp1 Bq1 HB1 
    obtain ⟨yp0, yp1, yp2, yp3, yp4, yp5, yp6, yp7, yp8, yp9, yp10, yp11, yp12, yp13⟩ := Bp2.out.fourteen
    obtain ⟨yq0, yq1, yq2, yq3, yq4, yq5, yq6, yq7, yq8, yq9, yq10, yq11, yq12, yq13⟩ := Bq2.out.fourteen
    go_wp2
    all_goals (go_ret; first | exact ⟨rfl, HB2.out⟩ | (exfalso; simp at d1; contradiction) | (exfalso; contradiction))

set_option maxRecDepth 100000 in
set_option maxHeartbeats 4000000 in
theorem rchk1_des (mf xf ms xs : Int) (st : Bool) (cs : Int) (ns : Bool) (ts : ByteArray) (es md : Int) (hd : Bool) (im ix : Int) (w : World) (p0 : ((0 ≤ mf ∧ mf ≤ xf) ∧ xf ≤ 99)) (hB : BaseOk md im ix) (d1 : ¬ es = 0) : Calls Tryz.prog 13 #[prV 1 mf xf ms xs st cs ns ts es md hd im ix] w fun e w' => e = .returned (.int .i64 70) ∧ Below w.heap.size w w' := by
  have C0 := hide (fun W => pair_t mf xf 0 W p0.1.1 p0.1.2 p0.2)
  clear p0
  unfold BaseOk at hB
  rcases hB with ⟨b1, b2, b3, b4, b5⟩ | ⟨b1, b2, b3, b4, b5, b6, b7, b8⟩
  all_goals
    have Bp0 := hide (Blk.newAt w (w.heap.size) (rfl) #[.int .i64 1, .int .i64 mf, .int .i64 xf, .int .i64 ms, .int .i64 xs, .bool st, .int .i64 cs, .bool ns, .string ts, .int .i64 es, .int .i64 md, .bool hd, .int .i64 im, .int .i64 ix] 30)
    have HB0 : Hid (Below w.heap.size w (w.alloc (.cells #[.int .i64 1, .int .i64 mf, .int .i64 xf, .int .i64 ms, .int .i64 xs, .bool st, .int .i64 cs, .bool ns, .string ts, .int .i64 es, .int .i64 md, .bool hd, .int .i64 im, .int .i64 ix] 30))) := ((Below.refl _ _).alloc (Nat.le_refl _) _)
    go_enter Tryz.func13, Tryz.ntmps13
    have Bp1 := Blk.up Bp0 (.cells #[.int .i64 1, .int .i64 mf, .int .i64 xf, .int .i64 0, .int .i64 0, .bool false, .int .i64 0, .bool false, .string ⟨#[]⟩, .int .i64 0, .int .i64 md, .bool hd, .int .i64 im, .int .i64 ix] 30)
    have Bq1 := hide ((Blk.newAt (w.alloc (.cells #[.int .i64 1, .int .i64 mf, .int .i64 xf, .int .i64 ms, .int .i64 xs, .bool st, .int .i64 cs, .bool ns, .string ts, .int .i64 es, .int .i64 md, .bool hd, .int .i64 im, .int .i64 ix] 30)) (w.heap.size + 1) (by simp) #[.int .i64 1, .int .i64 mf, .int .i64 xf, .int .i64 0, .int .i64 0, .bool false, .int .i64 0, .bool false, .string ⟨#[]⟩, .int .i64 0, .int .i64 md, .bool hd, .int .i64 im, .int .i64 ix] 30))
    have HB1 : Hid (Below w.heap.size w ((w.alloc (.cells #[.int .i64 1, .int .i64 mf, .int .i64 xf, .int .i64 ms, .int .i64 xs, .bool st, .int .i64 cs, .bool ns, .string ts, .int .i64 es, .int .i64 md, .bool hd, .int .i64 im, .int .i64 ix] 30)).alloc (.cells #[.int .i64 1, .int .i64 mf, .int .i64 xf, .int .i64 0, .int .i64 0, .bool false, .int .i64 0, .bool false, .string ⟨#[]⟩, .int .i64 0, .int .i64 md, .bool hd, .int .i64 im, .int .i64 ix] 30))) := (HB0.out.alloc HB0.out.size _)
    clear Bp0 HB0 
    go_wp2_with fail
    go_region
    go_wp2_with fail
    refine (C0.out _).mono ?_
    rintro e w2 ⟨rfl, hb⟩
    have hb := (Below.refl _ _).drew.trans hb
    have Bp2 := Blk.on Bp1 hb
    have Bq2 := Blk.on Bq1 hb
    have HB2 := hide (HB1.out.trans (hb.mono HB1.out.size))
    clear hb Bp1 Bq1 HB1 
    obtain ⟨yp0, yp1, yp2, yp3, yp4, yp5, yp6, yp7, yp8, yp9, yp10, yp11, yp12, yp13⟩ := Bp2.out.fourteen
    obtain ⟨yq0, yq1, yq2, yq3, yq4, yq5, yq6, yq7, yq8, yq9, yq10, yq11, yq12, yq13⟩ := Bq2.out.fourteen
    go_wp2
    all_goals (go_ret; first | exact ⟨rfl, HB2.out⟩ | (exfalso; simp at d1; contradiction) | (exfalso; contradiction))

end Go.Proofs.YtobloamnaemfnaaGreatDoor

namespace Go.Proofs.YtobloamnaemfnaaGreatDoor
open Go.RowKit

set_option maxRecDepth 100000 in
set_option maxHeartbeats 4000000 in
theorem rchk2_bad (mf xf ms xs : Int) (st : Bool) (cs : Int) (ns : Bool) (ts : ByteArray) (es md : Int) (hd : Bool) (im ix : Int) (w : World) (hB : BaseBad md im ix) : Calls Tryz.prog 13 #[prV 2 mf xf ms xs st cs ns ts es md hd im ix] w fun e w' => e = .returned (.int .i64 70) ∧ Below w.heap.size w w' := by
  unfold BaseBad at hB
  rcases hB with b1 | ⟨b1, b2⟩ | ⟨b1, b2, b3⟩ | ⟨b1, b2, b3, b4⟩ | ⟨b1, b2, b3, b4, b5, b6⟩ | ⟨b1, b2, b3, b4, b5, b6, b7⟩ | ⟨b1, b2, b3, b4, b5, b6, b7, b8⟩
  all_goals
    have Bp0 := hide (Blk.newAt w (w.heap.size) (rfl) #[.int .i64 2, .int .i64 mf, .int .i64 xf, .int .i64 ms, .int .i64 xs, .bool st, .int .i64 cs, .bool ns, .string ts, .int .i64 es, .int .i64 md, .bool hd, .int .i64 im, .int .i64 ix] 30)
    have HB0 : Hid (Below w.heap.size w (w.alloc (.cells #[.int .i64 2, .int .i64 mf, .int .i64 xf, .int .i64 ms, .int .i64 xs, .bool st, .int .i64 cs, .bool ns, .string ts, .int .i64 es, .int .i64 md, .bool hd, .int .i64 im, .int .i64 ix] 30))) := ((Below.refl _ _).alloc (Nat.le_refl _) _)
    go_enter Tryz.func13, Tryz.ntmps13
    have Bp1 := Blk.up Bp0 (.cells #[.int .i64 2, .int .i64 0, .int .i64 0, .int .i64 ms, .int .i64 xs, .bool false, .int .i64 0, .bool false, .string ⟨#[]⟩, .int .i64 0, .int .i64 md, .bool hd, .int .i64 im, .int .i64 ix] 30)
    have Bq1 := hide ((Blk.newAt (w.alloc (.cells #[.int .i64 2, .int .i64 mf, .int .i64 xf, .int .i64 ms, .int .i64 xs, .bool st, .int .i64 cs, .bool ns, .string ts, .int .i64 es, .int .i64 md, .bool hd, .int .i64 im, .int .i64 ix] 30)) (w.heap.size + 1) (by simp) #[.int .i64 2, .int .i64 0, .int .i64 0, .int .i64 ms, .int .i64 xs, .bool false, .int .i64 0, .bool false, .string ⟨#[]⟩, .int .i64 0, .int .i64 md, .bool hd, .int .i64 im, .int .i64 ix] 30))
    have HB1 : Hid (Below w.heap.size w ((w.alloc (.cells #[.int .i64 2, .int .i64 mf, .int .i64 xf, .int .i64 ms, .int .i64 xs, .bool st, .int .i64 cs, .bool ns, .string ts, .int .i64 es, .int .i64 md, .bool hd, .int .i64 im, .int .i64 ix] 30)).alloc (.cells #[.int .i64 2, .int .i64 0, .int .i64 0, .int .i64 ms, .int .i64 xs, .bool false, .int .i64 0, .bool false, .string ⟨#[]⟩, .int .i64 0, .int .i64 md, .bool hd, .int .i64 im, .int .i64 ix] 30))) := (HB0.out.alloc HB0.out.size _)
    clear Bp0 HB0 
    go_wp2_with fail
    go_region
    go_wp2
    go_ret
    exact ⟨rfl, HB1.out.drew⟩

end Go.Proofs.YtobloamnaemfnaaGreatDoor
