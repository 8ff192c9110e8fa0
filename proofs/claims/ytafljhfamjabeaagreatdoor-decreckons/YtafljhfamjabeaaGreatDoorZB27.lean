/-
  What quipuref05's Add and Mul do where one is not finite, or may not be.
  What dec's product does.
  What dec's Add does.
  What dec's Mul does.
  What dec's sums and products of numbers that may be are.
  What quipuref05's Add answers of any two that may be.
  What cmp.Or, dec's cmpAmounts and Cmp do.
  What dec's Parse does.
  quipulaw05's awake: the calls answer what the document fixes.
-/
import Derived.Test.YtafljhfamjabeaaGreatDoorZB26
import Derived.Test.YtafljhfamjabeaaGreatDoorZB5
import Derived.Test.YtafljhfamjabeaaGreatDoorZB4
import Derived.Deep.RegionHeld3
import Derived.Test.YtafljhfamjabeaaGreatDoorZB25
namespace Go.Proofs.YtafljhfamjabeaaGreatDoor
open Go.RowKit

set_option maxRecDepth 100000 in
set_option maxHeartbeats 2000000 in
theorem radd_no1 (ca : Int) (na : Bool) (ta : ByteArray) (ea : Int) (cb : Int) (nb : Bool) (tb : ByteArray) (eb : Int) (w : World) (ha : ¬ MayD ca na (bys ta) ea) : Calls Tryz.prog 29 #[dcV ca na ta ea, dcV cb nb tb eb] w fun e w' => e = .returned (.tuple #[.agg #[.int .i64 0, .bool false, .string ⟨#[]⟩, .int .i64 0], .int .i64 52]) ∧ Below w.heap.size w w' := by
  have MA := hide (fun W => rmay_no ca na ta ea W ha)
  clear ha
  have Ba0 := hide (((Blk.newAt w (w.heap.size) (rfl) #[.int .i64 ca, .bool na, .string ta, .int .i64 ea] 23).alloc (.cells #[.int .i64 cb, .bool nb, .string tb, .int .i64 eb] 23)).alloc (.cells #[.int .i64 0, .bool false, .string ⟨#[]⟩, .int .i64 0] 23))
  have Bb0 := hide ((Blk.newAt (w.alloc (.cells #[.int .i64 ca, .bool na, .string ta, .int .i64 ea] 23)) (w.heap.size + 1) (by simp) #[.int .i64 cb, .bool nb, .string tb, .int .i64 eb] 23).alloc (.cells #[.int .i64 0, .bool false, .string ⟨#[]⟩, .int .i64 0] 23))
  have Br0 := hide (Blk.newAt ((w.alloc (.cells #[.int .i64 ca, .bool na, .string ta, .int .i64 ea] 23)).alloc (.cells #[.int .i64 cb, .bool nb, .string tb, .int .i64 eb] 23)) (w.heap.size + 1 + 1) (by simp) #[.int .i64 0, .bool false, .string ⟨#[]⟩, .int .i64 0] 23)
  have HB0 : Hid (Below w.heap.size w (((w.alloc (.cells #[.int .i64 ca, .bool na, .string ta, .int .i64 ea] 23)).alloc (.cells #[.int .i64 cb, .bool nb, .string tb, .int .i64 eb] 23)).alloc (.cells #[.int .i64 0, .bool false, .string ⟨#[]⟩, .int .i64 0] 23))) := ((((Below.refl _ _).alloc (Nat.le_refl _) _).alloc (by simp <;> omega) _).alloc (by simp <;> omega) _)
  go_enter Tryz.func29, Tryz.ntmps29
  go_wp2_with fail
  refine (MA.out _).mono ?_
  rintro e w1 ⟨rfl, hb⟩
  have Ba1 := Blk.on Ba0 hb
  have Bb1 := Blk.on Bb0 hb
  have Br1 := Blk.on Br0 hb
  have HB1 := hide (HB0.out.trans (hb.mono HB0.out.size))
  clear hb Ba0 Bb0 Br0 HB0 
  obtain ⟨ya0, ya1, ya2, ya3⟩ := Ba1.out.four
  obtain ⟨yb0, yb1, yb2, yb3⟩ := Bb1.out.four
  obtain ⟨yr0, yr1, yr2, yr3⟩ := Br1.out.four
  have fr0 := Br1.out.free 0
  have fr1 := Br1.out.free 1
  have fr2 := Br1.out.free 2
  have fr3 := Br1.out.free 3
  go_wp2
  refine bodyPost_ret (results_dec2 rfl _ _ _ _ _ _ _ rfl (Br1.out.put4 _ _ _ _)) rfl ?_
  exact ⟨rfl, below_put4 (HB1.out) (by omega) _ _ _ _⟩

set_option maxRecDepth 100000 in
set_option maxHeartbeats 2000000 in
theorem radd_no2 (ca : Int) (na : Bool) (ta : ByteArray) (ea : Int) (cb : Int) (nb : Bool) (tb : ByteArray) (eb : Int) (w : World) (ha : MayD ca na (bys ta) ea) (hb0 : ¬ MayD cb nb (bys tb) eb) : Calls Tryz.prog 29 #[dcV ca na ta ea, dcV cb nb tb eb] w fun e w' => e = .returned (.tuple #[.agg #[.int .i64 0, .bool false, .string ⟨#[]⟩, .int .i64 0], .int .i64 52]) ∧ Below w.heap.size w w' := by
  have MA := hide (fun W => rmay_yes ca na ta ea W ha)
  have MB := hide (fun W => rmay_no cb nb tb eb W hb0)
  clear hb0
  clear ha
  have Ba0 := hide (((Blk.newAt w (w.heap.size) (rfl) #[.int .i64 ca, .bool na, .string ta, .int .i64 ea] 23).alloc (.cells #[.int .i64 cb, .bool nb, .string tb, .int .i64 eb] 23)).alloc (.cells #[.int .i64 0, .bool false, .string ⟨#[]⟩, .int .i64 0] 23))
  have Bb0 := hide ((Blk.newAt (w.alloc (.cells #[.int .i64 ca, .bool na, .string ta, .int .i64 ea] 23)) (w.heap.size + 1) (by simp) #[.int .i64 cb, .bool nb, .string tb, .int .i64 eb] 23).alloc (.cells #[.int .i64 0, .bool false, .string ⟨#[]⟩, .int .i64 0] 23))
  have Br0 := hide (Blk.newAt ((w.alloc (.cells #[.int .i64 ca, .bool na, .string ta, .int .i64 ea] 23)).alloc (.cells #[.int .i64 cb, .bool nb, .string tb, .int .i64 eb] 23)) (w.heap.size + 1 + 1) (by simp) #[.int .i64 0, .bool false, .string ⟨#[]⟩, .int .i64 0] 23)
  have HB0 : Hid (Below w.heap.size w (((w.alloc (.cells #[.int .i64 ca, .bool na, .string ta, .int .i64 ea] 23)).alloc (.cells #[.int .i64 cb, .bool nb, .string tb, .int .i64 eb] 23)).alloc (.cells #[.int .i64 0, .bool false, .string ⟨#[]⟩, .int .i64 0] 23))) := ((((Below.refl _ _).alloc (Nat.le_refl _) _).alloc (by simp <;> omega) _).alloc (by simp <;> omega) _)
  go_enter Tryz.func29, Tryz.ntmps29
  go_wp2_with fail
  refine (MA.out _).mono ?_
  rintro e w1 ⟨rfl, hb⟩
  have Ba1 := Blk.on Ba0 hb
  have Bb1 := Blk.on Bb0 hb
  have Br1 := Blk.on Br0 hb
  have HB1 := hide (HB0.out.trans (hb.mono HB0.out.size))
  clear hb Ba0 Bb0 Br0 HB0 
  obtain ⟨ya0, ya1, ya2, ya3⟩ := Ba1.out.four
  obtain ⟨yb0, yb1, yb2, yb3⟩ := Bb1.out.four
  obtain ⟨yr0, yr1, yr2, yr3⟩ := Br1.out.four
  go_wp2_with fail
  refine (MB.out _).mono ?_
  rintro e w2 ⟨rfl, hb⟩
  have Ba2 := Blk.on Ba1 hb
  have Bb2 := Blk.on Bb1 hb
  have Br2 := Blk.on Br1 hb
  have HB2 := hide (HB1.out.trans (hb.mono HB1.out.size))
  clear hb Ba1 Bb1 Br1 HB1 ya0 ya1 ya2 ya3 yb0 yb1 yb2 yb3 yr0 yr1 yr2 yr3
  obtain ⟨ya0, ya1, ya2, ya3⟩ := Ba2.out.four
  obtain ⟨yb0, yb1, yb2, yb3⟩ := Bb2.out.four
  obtain ⟨yr0, yr1, yr2, yr3⟩ := Br2.out.four
  have fr0 := Br2.out.free 0
  have fr1 := Br2.out.free 1
  have fr2 := Br2.out.free 2
  have fr3 := Br2.out.free 3
  go_wp2
  refine bodyPost_ret (results_dec2 rfl _ _ _ _ _ _ _ rfl (Br2.out.put4 _ _ _ _)) rfl ?_
  exact ⟨rfl, below_put4 (HB2.out) (by omega) _ _ _ _⟩

set_option maxRecDepth 100000 in
set_option maxHeartbeats 2000000 in
theorem radd_nan1 (cb : Int) (na : Bool) (nb : Bool) (ta : ByteArray) (tb : ByteArray) (ea eb : Int) (w : World) (ma : ∀ W, Calls Tryz.prog 15 #[.agg #[.int .i64 2, .bool na, .string ta, .int .i64 ea]] W fun e w' => e = .returned (.bool true) ∧ Below W.heap.size W w') (mb : ∀ W, Calls Tryz.prog 15 #[.agg #[.int .i64 cb, .bool nb, .string tb, .int .i64 eb]] W fun e w' => e = .returned (.bool true) ∧ Below W.heap.size W w')  : Calls Tryz.prog 29 #[.agg #[.int .i64 2, .bool na, .string ta, .int .i64 ea], .agg #[.int .i64 cb, .bool nb, .string tb, .int .i64 eb]] w fun e w' => e = .returned (.tuple #[.agg #[.int .i64 2, .bool false, .string ⟨#[]⟩, .int .i64 0], .int .i64 0]) ∧ Below w.heap.size w w' := by
  have MA := hide ma
  have MB := hide mb
  clear ma mb
  have Ba0 := hide (((Blk.newAt w (w.heap.size) (rfl) #[.int .i64 2, .bool na, .string ta, .int .i64 ea] 23).alloc (.cells #[.int .i64 cb, .bool nb, .string tb, .int .i64 eb] 23)).alloc (.cells #[.int .i64 0, .bool false, .string ⟨#[]⟩, .int .i64 0] 23))
  have Bb0 := hide ((Blk.newAt (w.alloc (.cells #[.int .i64 2, .bool na, .string ta, .int .i64 ea] 23)) (w.heap.size + 1) (by simp) #[.int .i64 cb, .bool nb, .string tb, .int .i64 eb] 23).alloc (.cells #[.int .i64 0, .bool false, .string ⟨#[]⟩, .int .i64 0] 23))
  have Br0 := hide (Blk.newAt ((w.alloc (.cells #[.int .i64 2, .bool na, .string ta, .int .i64 ea] 23)).alloc (.cells #[.int .i64 cb, .bool nb, .string tb, .int .i64 eb] 23)) (w.heap.size + 1 + 1) (by simp) #[.int .i64 0, .bool false, .string ⟨#[]⟩, .int .i64 0] 23)
  have HB0 : Hid (Below w.heap.size w (((w.alloc (.cells #[.int .i64 2, .bool na, .string ta, .int .i64 ea] 23)).alloc (.cells #[.int .i64 cb, .bool nb, .string tb, .int .i64 eb] 23)).alloc (.cells #[.int .i64 0, .bool false, .string ⟨#[]⟩, .int .i64 0] 23))) := ((((Below.refl _ _).alloc (Nat.le_refl _) _).alloc (by simp <;> omega) _).alloc (by simp <;> omega) _)
  go_enter Tryz.func29, Tryz.ntmps29
  go_wp2_with fail
  refine (MA.out _).mono ?_
  rintro e w1 ⟨rfl, hb⟩
  have Ba1 := Blk.on Ba0 hb
  have Bb1 := Blk.on Bb0 hb
  have Br1 := Blk.on Br0 hb
  have HB1 := hide (HB0.out.trans (hb.mono HB0.out.size))
  clear hb Ba0 Bb0 Br0 HB0 
  obtain ⟨ya0, ya1, ya2, ya3⟩ := Ba1.out.four
  obtain ⟨yb0, yb1, yb2, yb3⟩ := Bb1.out.four
  obtain ⟨yr0, yr1, yr2, yr3⟩ := Br1.out.four
  go_wp2_with fail
  refine (MB.out _).mono ?_
  rintro e w2 ⟨rfl, hb⟩
  have Ba2 := Blk.on Ba1 hb
  have Bb2 := Blk.on Bb1 hb
  have Br2 := Blk.on Br1 hb
  have HB2 := hide (HB1.out.trans (hb.mono HB1.out.size))
  clear hb Ba1 Bb1 Br1 HB1 ya0 ya1 ya2 ya3 yb0 yb1 yb2 yb3 yr0 yr1 yr2 yr3
  obtain ⟨ya0, ya1, ya2, ya3⟩ := Ba2.out.four
  obtain ⟨yb0, yb1, yb2, yb3⟩ := Bb2.out.four
  obtain ⟨yr0, yr1, yr2, yr3⟩ := Br2.out.four
  have fr0 := Br2.out.free 0
  have fr1 := Br2.out.free 1
  have fr2 := Br2.out.free 2
  have fr3 := Br2.out.free 3
  go_wp2
  refine bodyPost_ret (results_dec2 rfl _ _ _ _ _ _ _ rfl (Br2.out.put4 _ _ _ _)) rfl ?_
  exact ⟨rfl, below_put4 (HB2.out) (by omega) _ _ _ _⟩

set_option maxRecDepth 100000 in
set_option maxHeartbeats 2000000 in
theorem radd_nan2 (ca : Int) (na : Bool) (nb : Bool) (ta : ByteArray) (tb : ByteArray) (ea eb : Int) (w : World) (ma : ∀ W, Calls Tryz.prog 15 #[.agg #[.int .i64 ca, .bool na, .string ta, .int .i64 ea]] W fun e w' => e = .returned (.bool true) ∧ Below W.heap.size W w') (mb : ∀ W, Calls Tryz.prog 15 #[.agg #[.int .i64 2, .bool nb, .string tb, .int .i64 eb]] W fun e w' => e = .returned (.bool true) ∧ Below W.heap.size W w') (h : (ca == 2) = false) : Calls Tryz.prog 29 #[.agg #[.int .i64 ca, .bool na, .string ta, .int .i64 ea], .agg #[.int .i64 2, .bool nb, .string tb, .int .i64 eb]] w fun e w' => e = .returned (.tuple #[.agg #[.int .i64 2, .bool false, .string ⟨#[]⟩, .int .i64 0], .int .i64 0]) ∧ Below w.heap.size w w' := by
  have MA := hide ma
  have MB := hide mb
  clear ma mb
  have Ba0 := hide (((Blk.newAt w (w.heap.size) (rfl) #[.int .i64 ca, .bool na, .string ta, .int .i64 ea] 23).alloc (.cells #[.int .i64 2, .bool nb, .string tb, .int .i64 eb] 23)).alloc (.cells #[.int .i64 0, .bool false, .string ⟨#[]⟩, .int .i64 0] 23))
  have Bb0 := hide ((Blk.newAt (w.alloc (.cells #[.int .i64 ca, .bool na, .string ta, .int .i64 ea] 23)) (w.heap.size + 1) (by simp) #[.int .i64 2, .bool nb, .string tb, .int .i64 eb] 23).alloc (.cells #[.int .i64 0, .bool false, .string ⟨#[]⟩, .int .i64 0] 23))
  have Br0 := hide (Blk.newAt ((w.alloc (.cells #[.int .i64 ca, .bool na, .string ta, .int .i64 ea] 23)).alloc (.cells #[.int .i64 2, .bool nb, .string tb, .int .i64 eb] 23)) (w.heap.size + 1 + 1) (by simp) #[.int .i64 0, .bool false, .string ⟨#[]⟩, .int .i64 0] 23)
  have HB0 : Hid (Below w.heap.size w (((w.alloc (.cells #[.int .i64 ca, .bool na, .string ta, .int .i64 ea] 23)).alloc (.cells #[.int .i64 2, .bool nb, .string tb, .int .i64 eb] 23)).alloc (.cells #[.int .i64 0, .bool false, .string ⟨#[]⟩, .int .i64 0] 23))) := ((((Below.refl _ _).alloc (Nat.le_refl _) _).alloc (by simp <;> omega) _).alloc (by simp <;> omega) _)
  go_enter Tryz.func29, Tryz.ntmps29
  go_wp2_with fail
  refine (MA.out _).mono ?_
  rintro e w1 ⟨rfl, hb⟩
  have Ba1 := Blk.on Ba0 hb
  have Bb1 := Blk.on Bb0 hb
  have Br1 := Blk.on Br0 hb
  have HB1 := hide (HB0.out.trans (hb.mono HB0.out.size))
  clear hb Ba0 Bb0 Br0 HB0 
  obtain ⟨ya0, ya1, ya2, ya3⟩ := Ba1.out.four
  obtain ⟨yb0, yb1, yb2, yb3⟩ := Bb1.out.four
  obtain ⟨yr0, yr1, yr2, yr3⟩ := Br1.out.four
  go_wp2_with fail
  refine (MB.out _).mono ?_
  rintro e w2 ⟨rfl, hb⟩
  have Ba2 := Blk.on Ba1 hb
  have Bb2 := Blk.on Bb1 hb
  have Br2 := Blk.on Br1 hb
  have HB2 := hide (HB1.out.trans (hb.mono HB1.out.size))
  clear hb Ba1 Bb1 Br1 HB1 ya0 ya1 ya2 ya3 yb0 yb1 yb2 yb3 yr0 yr1 yr2 yr3
  obtain ⟨ya0, ya1, ya2, ya3⟩ := Ba2.out.four
  obtain ⟨yb0, yb1, yb2, yb3⟩ := Bb2.out.four
  obtain ⟨yr0, yr1, yr2, yr3⟩ := Br2.out.four
  have fr0 := Br2.out.free 0
  have fr1 := Br2.out.free 1
  have fr2 := Br2.out.free 2
  have fr3 := Br2.out.free 3
  go_wp2
  refine bodyPost_ret (results_dec2 rfl _ _ _ _ _ _ _ rfl (Br2.out.put4 _ _ _ _)) rfl ?_
  exact ⟨rfl, below_put4 (HB2.out) (by omega) _ _ _ _⟩

set_option maxRecDepth 100000 in
set_option maxHeartbeats 2000000 in
theorem radd_inf_tt (ta : ByteArray) (tb : ByteArray) (ea eb : Int) (w : World) (ma : ∀ W, Calls Tryz.prog 15 #[.agg #[.int .i64 1, .bool true, .string ta, .int .i64 ea]] W fun e w' => e = .returned (.bool true) ∧ Below W.heap.size W w') (mb : ∀ W, Calls Tryz.prog 15 #[.agg #[.int .i64 1, .bool true, .string tb, .int .i64 eb]] W fun e w' => e = .returned (.bool true) ∧ Below W.heap.size W w')  : Calls Tryz.prog 29 #[.agg #[.int .i64 1, .bool true, .string ta, .int .i64 ea], .agg #[.int .i64 1, .bool true, .string tb, .int .i64 eb]] w fun e w' => e = .returned (.tuple #[.agg #[.int .i64 1, .bool true, .string ta, .int .i64 ea], .int .i64 0]) ∧ Below w.heap.size w w' := by
  have MA := hide ma
  have MB := hide mb
  clear ma mb
  have Ba0 := hide (((Blk.newAt w (w.heap.size) (rfl) #[.int .i64 1, .bool true, .string ta, .int .i64 ea] 23).alloc (.cells #[.int .i64 1, .bool true, .string tb, .int .i64 eb] 23)).alloc (.cells #[.int .i64 0, .bool false, .string ⟨#[]⟩, .int .i64 0] 23))
  have Bb0 := hide ((Blk.newAt (w.alloc (.cells #[.int .i64 1, .bool true, .string ta, .int .i64 ea] 23)) (w.heap.size + 1) (by simp) #[.int .i64 1, .bool true, .string tb, .int .i64 eb] 23).alloc (.cells #[.int .i64 0, .bool false, .string ⟨#[]⟩, .int .i64 0] 23))
  have Br0 := hide (Blk.newAt ((w.alloc (.cells #[.int .i64 1, .bool true, .string ta, .int .i64 ea] 23)).alloc (.cells #[.int .i64 1, .bool true, .string tb, .int .i64 eb] 23)) (w.heap.size + 1 + 1) (by simp) #[.int .i64 0, .bool false, .string ⟨#[]⟩, .int .i64 0] 23)
  have HB0 : Hid (Below w.heap.size w (((w.alloc (.cells #[.int .i64 1, .bool true, .string ta, .int .i64 ea] 23)).alloc (.cells #[.int .i64 1, .bool true, .string tb, .int .i64 eb] 23)).alloc (.cells #[.int .i64 0, .bool false, .string ⟨#[]⟩, .int .i64 0] 23))) := ((((Below.refl _ _).alloc (Nat.le_refl _) _).alloc (by simp <;> omega) _).alloc (by simp <;> omega) _)
  go_enter Tryz.func29, Tryz.ntmps29
  go_wp2_with fail
  refine (MA.out _).mono ?_
  rintro e w1 ⟨rfl, hb⟩
  have Ba1 := Blk.on Ba0 hb
  have Bb1 := Blk.on Bb0 hb
  have Br1 := Blk.on Br0 hb
  have HB1 := hide (HB0.out.trans (hb.mono HB0.out.size))
  clear hb Ba0 Bb0 Br0 HB0 
  obtain ⟨ya0, ya1, ya2, ya3⟩ := Ba1.out.four
  obtain ⟨yb0, yb1, yb2, yb3⟩ := Bb1.out.four
  obtain ⟨yr0, yr1, yr2, yr3⟩ := Br1.out.four
  go_wp2_with fail
  refine (MB.out _).mono ?_
  rintro e w2 ⟨rfl, hb⟩
  have Ba2 := Blk.on Ba1 hb
  have Bb2 := Blk.on Bb1 hb
  have Br2 := Blk.on Br1 hb
  have HB2 := hide (HB1.out.trans (hb.mono HB1.out.size))
  clear hb Ba1 Bb1 Br1 HB1 ya0 ya1 ya2 ya3 yb0 yb1 yb2 yb3 yr0 yr1 yr2 yr3
  obtain ⟨ya0, ya1, ya2, ya3⟩ := Ba2.out.four
  obtain ⟨yb0, yb1, yb2, yb3⟩ := Bb2.out.four
  obtain ⟨yr0, yr1, yr2, yr3⟩ := Br2.out.four
  have fr0 := Br2.out.free 0
  have fr1 := Br2.out.free 1
  have fr2 := Br2.out.free 2
  have fr3 := Br2.out.free 3
  go_wp2
  refine bodyPost_ret (results_dec2 rfl _ _ _ _ _ _ _ rfl (Br2.out.put4 _ _ _ _)) rfl ?_
  exact ⟨rfl, below_put4 (HB2.out) (by omega) _ _ _ _⟩

set_option maxRecDepth 100000 in
set_option maxHeartbeats 2000000 in
theorem radd_inf_tf (ta : ByteArray) (tb : ByteArray) (ea eb : Int) (w : World) (ma : ∀ W, Calls Tryz.prog 15 #[.agg #[.int .i64 1, .bool true, .string ta, .int .i64 ea]] W fun e w' => e = .returned (.bool true) ∧ Below W.heap.size W w') (mb : ∀ W, Calls Tryz.prog 15 #[.agg #[.int .i64 1, .bool false, .string tb, .int .i64 eb]] W fun e w' => e = .returned (.bool true) ∧ Below W.heap.size W w')  : Calls Tryz.prog 29 #[.agg #[.int .i64 1, .bool true, .string ta, .int .i64 ea], .agg #[.int .i64 1, .bool false, .string tb, .int .i64 eb]] w fun e w' => e = .returned (.tuple #[.agg #[.int .i64 2, .bool false, .string ⟨#[]⟩, .int .i64 0], .int .i64 0]) ∧ Below w.heap.size w w' := by
  have MA := hide ma
  have MB := hide mb
  clear ma mb
  have Ba0 := hide (((Blk.newAt w (w.heap.size) (rfl) #[.int .i64 1, .bool true, .string ta, .int .i64 ea] 23).alloc (.cells #[.int .i64 1, .bool false, .string tb, .int .i64 eb] 23)).alloc (.cells #[.int .i64 0, .bool false, .string ⟨#[]⟩, .int .i64 0] 23))
  have Bb0 := hide ((Blk.newAt (w.alloc (.cells #[.int .i64 1, .bool true, .string ta, .int .i64 ea] 23)) (w.heap.size + 1) (by simp) #[.int .i64 1, .bool false, .string tb, .int .i64 eb] 23).alloc (.cells #[.int .i64 0, .bool false, .string ⟨#[]⟩, .int .i64 0] 23))
  have Br0 := hide (Blk.newAt ((w.alloc (.cells #[.int .i64 1, .bool true, .string ta, .int .i64 ea] 23)).alloc (.cells #[.int .i64 1, .bool false, .string tb, .int .i64 eb] 23)) (w.heap.size + 1 + 1) (by simp) #[.int .i64 0, .bool false, .string ⟨#[]⟩, .int .i64 0] 23)
  have HB0 : Hid (Below w.heap.size w (((w.alloc (.cells #[.int .i64 1, .bool true, .string ta, .int .i64 ea] 23)).alloc (.cells #[.int .i64 1, .bool false, .string tb, .int .i64 eb] 23)).alloc (.cells #[.int .i64 0, .bool false, .string ⟨#[]⟩, .int .i64 0] 23))) := ((((Below.refl _ _).alloc (Nat.le_refl _) _).alloc (by simp <;> omega) _).alloc (by simp <;> omega) _)
  go_enter Tryz.func29, Tryz.ntmps29
  go_wp2_with fail
  refine (MA.out _).mono ?_
  rintro e w1 ⟨rfl, hb⟩
  have Ba1 := Blk.on Ba0 hb
  have Bb1 := Blk.on Bb0 hb
  have Br1 := Blk.on Br0 hb
  have HB1 := hide (HB0.out.trans (hb.mono HB0.out.size))
  clear hb Ba0 Bb0 Br0 HB0 
  obtain ⟨ya0, ya1, ya2, ya3⟩ := Ba1.out.four
  obtain ⟨yb0, yb1, yb2, yb3⟩ := Bb1.out.four
  obtain ⟨yr0, yr1, yr2, yr3⟩ := Br1.out.four
  go_wp2_with fail
  refine (MB.out _).mono ?_
  rintro e w2 ⟨rfl, hb⟩
  have Ba2 := Blk.on Ba1 hb
  have Bb2 := Blk.on Bb1 hb
  have Br2 := Blk.on Br1 hb
  have HB2 := hide (HB1.out.trans (hb.mono HB1.out.size))
  clear hb Ba1 Bb1 Br1 HB1 ya0 ya1 ya2 ya3 yb0 yb1 yb2 yb3 yr0 yr1 yr2 yr3
  obtain ⟨ya0, ya1, ya2, ya3⟩ := Ba2.out.four
  obtain ⟨yb0, yb1, yb2, yb3⟩ := Bb2.out.four
  obtain ⟨yr0, yr1, yr2, yr3⟩ := Br2.out.four
  have fr0 := Br2.out.free 0
  have fr1 := Br2.out.free 1
  have fr2 := Br2.out.free 2
  have fr3 := Br2.out.free 3
  go_wp2
  refine bodyPost_ret (results_dec2 rfl _ _ _ _ _ _ _ rfl (Br2.out.put4 _ _ _ _)) rfl ?_
  exact ⟨rfl, below_put4 (HB2.out) (by omega) _ _ _ _⟩

set_option maxRecDepth 100000 in
set_option maxHeartbeats 2000000 in
theorem radd_inf_ft (ta : ByteArray) (tb : ByteArray) (ea eb : Int) (w : World) (ma : ∀ W, Calls Tryz.prog 15 #[.agg #[.int .i64 1, .bool false, .string ta, .int .i64 ea]] W fun e w' => e = .returned (.bool true) ∧ Below W.heap.size W w') (mb : ∀ W, Calls Tryz.prog 15 #[.agg #[.int .i64 1, .bool true, .string tb, .int .i64 eb]] W fun e w' => e = .returned (.bool true) ∧ Below W.heap.size W w')  : Calls Tryz.prog 29 #[.agg #[.int .i64 1, .bool false, .string ta, .int .i64 ea], .agg #[.int .i64 1, .bool true, .string tb, .int .i64 eb]] w fun e w' => e = .returned (.tuple #[.agg #[.int .i64 2, .bool false, .string ⟨#[]⟩, .int .i64 0], .int .i64 0]) ∧ Below w.heap.size w w' := by
  have MA := hide ma
  have MB := hide mb
  clear ma mb
  have Ba0 := hide (((Blk.newAt w (w.heap.size) (rfl) #[.int .i64 1, .bool false, .string ta, .int .i64 ea] 23).alloc (.cells #[.int .i64 1, .bool true, .string tb, .int .i64 eb] 23)).alloc (.cells #[.int .i64 0, .bool false, .string ⟨#[]⟩, .int .i64 0] 23))
  have Bb0 := hide ((Blk.newAt (w.alloc (.cells #[.int .i64 1, .bool false, .string ta, .int .i64 ea] 23)) (w.heap.size + 1) (by simp) #[.int .i64 1, .bool true, .string tb, .int .i64 eb] 23).alloc (.cells #[.int .i64 0, .bool false, .string ⟨#[]⟩, .int .i64 0] 23))
  have Br0 := hide (Blk.newAt ((w.alloc (.cells #[.int .i64 1, .bool false, .string ta, .int .i64 ea] 23)).alloc (.cells #[.int .i64 1, .bool true, .string tb, .int .i64 eb] 23)) (w.heap.size + 1 + 1) (by simp) #[.int .i64 0, .bool false, .string ⟨#[]⟩, .int .i64 0] 23)
  have HB0 : Hid (Below w.heap.size w (((w.alloc (.cells #[.int .i64 1, .bool false, .string ta, .int .i64 ea] 23)).alloc (.cells #[.int .i64 1, .bool true, .string tb, .int .i64 eb] 23)).alloc (.cells #[.int .i64 0, .bool false, .string ⟨#[]⟩, .int .i64 0] 23))) := ((((Below.refl _ _).alloc (Nat.le_refl _) _).alloc (by simp <;> omega) _).alloc (by simp <;> omega) _)
  go_enter Tryz.func29, Tryz.ntmps29
  go_wp2_with fail
  refine (MA.out _).mono ?_
  rintro e w1 ⟨rfl, hb⟩
  have Ba1 := Blk.on Ba0 hb
  have Bb1 := Blk.on Bb0 hb
  have Br1 := Blk.on Br0 hb
  have HB1 := hide (HB0.out.trans (hb.mono HB0.out.size))
  clear hb Ba0 Bb0 Br0 HB0 
  obtain ⟨ya0, ya1, ya2, ya3⟩ := Ba1.out.four
  obtain ⟨yb0, yb1, yb2, yb3⟩ := Bb1.out.four
  obtain ⟨yr0, yr1, yr2, yr3⟩ := Br1.out.four
  go_wp2_with fail
  refine (MB.out _).mono ?_
  rintro e w2 ⟨rfl, hb⟩
  have Ba2 := Blk.on Ba1 hb
  have Bb2 := Blk.on Bb1 hb
  have Br2 := Blk.on Br1 hb
  have HB2 := hide (HB1.out.trans (hb.mono HB1.out.size))
  clear hb Ba1 Bb1 Br1 HB1 ya0 ya1 ya2 ya3 yb0 yb1 yb2 yb3 yr0 yr1 yr2 yr3
  obtain ⟨ya0, ya1, ya2, ya3⟩ := Ba2.out.four
  obtain ⟨yb0, yb1, yb2, yb3⟩ := Bb2.out.four
  obtain ⟨yr0, yr1, yr2, yr3⟩ := Br2.out.four
  have fr0 := Br2.out.free 0
  have fr1 := Br2.out.free 1
  have fr2 := Br2.out.free 2
  have fr3 := Br2.out.free 3
  go_wp2
  refine bodyPost_ret (results_dec2 rfl _ _ _ _ _ _ _ rfl (Br2.out.put4 _ _ _ _)) rfl ?_
  exact ⟨rfl, below_put4 (HB2.out) (by omega) _ _ _ _⟩

set_option maxRecDepth 100000 in
set_option maxHeartbeats 2000000 in
theorem radd_inf_ff (ta : ByteArray) (tb : ByteArray) (ea eb : Int) (w : World) (ma : ∀ W, Calls Tryz.prog 15 #[.agg #[.int .i64 1, .bool false, .string ta, .int .i64 ea]] W fun e w' => e = .returned (.bool true) ∧ Below W.heap.size W w') (mb : ∀ W, Calls Tryz.prog 15 #[.agg #[.int .i64 1, .bool false, .string tb, .int .i64 eb]] W fun e w' => e = .returned (.bool true) ∧ Below W.heap.size W w')  : Calls Tryz.prog 29 #[.agg #[.int .i64 1, .bool false, .string ta, .int .i64 ea], .agg #[.int .i64 1, .bool false, .string tb, .int .i64 eb]] w fun e w' => e = .returned (.tuple #[.agg #[.int .i64 1, .bool false, .string ta, .int .i64 ea], .int .i64 0]) ∧ Below w.heap.size w w' := by
  have MA := hide ma
  have MB := hide mb
  clear ma mb
  have Ba0 := hide (((Blk.newAt w (w.heap.size) (rfl) #[.int .i64 1, .bool false, .string ta, .int .i64 ea] 23).alloc (.cells #[.int .i64 1, .bool false, .string tb, .int .i64 eb] 23)).alloc (.cells #[.int .i64 0, .bool false, .string ⟨#[]⟩, .int .i64 0] 23))
  have Bb0 := hide ((Blk.newAt (w.alloc (.cells #[.int .i64 1, .bool false, .string ta, .int .i64 ea] 23)) (w.heap.size + 1) (by simp) #[.int .i64 1, .bool false, .string tb, .int .i64 eb] 23).alloc (.cells #[.int .i64 0, .bool false, .string ⟨#[]⟩, .int .i64 0] 23))
  have Br0 := hide (Blk.newAt ((w.alloc (.cells #[.int .i64 1, .bool false, .string ta, .int .i64 ea] 23)).alloc (.cells #[.int .i64 1, .bool false, .string tb, .int .i64 eb] 23)) (w.heap.size + 1 + 1) (by simp) #[.int .i64 0, .bool false, .string ⟨#[]⟩, .int .i64 0] 23)
  have HB0 : Hid (Below w.heap.size w (((w.alloc (.cells #[.int .i64 1, .bool false, .string ta, .int .i64 ea] 23)).alloc (.cells #[.int .i64 1, .bool false, .string tb, .int .i64 eb] 23)).alloc (.cells #[.int .i64 0, .bool false, .string ⟨#[]⟩, .int .i64 0] 23))) := ((((Below.refl _ _).alloc (Nat.le_refl _) _).alloc (by simp <;> omega) _).alloc (by simp <;> omega) _)
  go_enter Tryz.func29, Tryz.ntmps29
  go_wp2_with fail
  refine (MA.out _).mono ?_
  rintro e w1 ⟨rfl, hb⟩
  have Ba1 := Blk.on Ba0 hb
  have Bb1 := Blk.on Bb0 hb
  have Br1 := Blk.on Br0 hb
  have HB1 := hide (HB0.out.trans (hb.mono HB0.out.size))
  clear hb Ba0 Bb0 Br0 HB0 
  obtain ⟨ya0, ya1, ya2, ya3⟩ := Ba1.out.four
  obtain ⟨yb0, yb1, yb2, yb3⟩ := Bb1.out.four
  obtain ⟨yr0, yr1, yr2, yr3⟩ := Br1.out.four
  go_wp2_with fail
  refine (MB.out _).mono ?_
  rintro e w2 ⟨rfl, hb⟩
  have Ba2 := Blk.on Ba1 hb
  have Bb2 := Blk.on Bb1 hb
  have Br2 := Blk.on Br1 hb
  have HB2 := hide (HB1.out.trans (hb.mono HB1.out.size))
  clear hb Ba1 Bb1 Br1 HB1 ya0 ya1 ya2 ya3 yb0 yb1 yb2 yb3 yr0 yr1 yr2 yr3
  obtain ⟨ya0, ya1, ya2, ya3⟩ := Ba2.out.four
  obtain ⟨yb0, yb1, yb2, yb3⟩ := Bb2.out.four
  obtain ⟨yr0, yr1, yr2, yr3⟩ := Br2.out.four
  have fr0 := Br2.out.free 0
  have fr1 := Br2.out.free 1
  have fr2 := Br2.out.free 2
  have fr3 := Br2.out.free 3
  go_wp2
  refine bodyPost_ret (results_dec2 rfl _ _ _ _ _ _ _ rfl (Br2.out.put4 _ _ _ _)) rfl ?_
  exact ⟨rfl, below_put4 (HB2.out) (by omega) _ _ _ _⟩

set_option maxRecDepth 100000 in
set_option maxHeartbeats 2000000 in
theorem radd_infa (na : Bool) (nb : Bool) (ta : ByteArray) (tb : ByteArray) (ea eb : Int) (w : World) (ma : ∀ W, Calls Tryz.prog 15 #[.agg #[.int .i64 1, .bool na, .string ta, .int .i64 ea]] W fun e w' => e = .returned (.bool true) ∧ Below W.heap.size W w') (mb : ∀ W, Calls Tryz.prog 15 #[.agg #[.int .i64 0, .bool nb, .string tb, .int .i64 eb]] W fun e w' => e = .returned (.bool true) ∧ Below W.heap.size W w')  : Calls Tryz.prog 29 #[.agg #[.int .i64 1, .bool na, .string ta, .int .i64 ea], .agg #[.int .i64 0, .bool nb, .string tb, .int .i64 eb]] w fun e w' => e = .returned (.tuple #[.agg #[.int .i64 1, .bool na, .string ta, .int .i64 ea], .int .i64 0]) ∧ Below w.heap.size w w' := by
  have MA := hide ma
  have MB := hide mb
  clear ma mb
  have Ba0 := hide (((Blk.newAt w (w.heap.size) (rfl) #[.int .i64 1, .bool na, .string ta, .int .i64 ea] 23).alloc (.cells #[.int .i64 0, .bool nb, .string tb, .int .i64 eb] 23)).alloc (.cells #[.int .i64 0, .bool false, .string ⟨#[]⟩, .int .i64 0] 23))
  have Bb0 := hide ((Blk.newAt (w.alloc (.cells #[.int .i64 1, .bool na, .string ta, .int .i64 ea] 23)) (w.heap.size + 1) (by simp) #[.int .i64 0, .bool nb, .string tb, .int .i64 eb] 23).alloc (.cells #[.int .i64 0, .bool false, .string ⟨#[]⟩, .int .i64 0] 23))
  have Br0 := hide (Blk.newAt ((w.alloc (.cells #[.int .i64 1, .bool na, .string ta, .int .i64 ea] 23)).alloc (.cells #[.int .i64 0, .bool nb, .string tb, .int .i64 eb] 23)) (w.heap.size + 1 + 1) (by simp) #[.int .i64 0, .bool false, .string ⟨#[]⟩, .int .i64 0] 23)
  have HB0 : Hid (Below w.heap.size w (((w.alloc (.cells #[.int .i64 1, .bool na, .string ta, .int .i64 ea] 23)).alloc (.cells #[.int .i64 0, .bool nb, .string tb, .int .i64 eb] 23)).alloc (.cells #[.int .i64 0, .bool false, .string ⟨#[]⟩, .int .i64 0] 23))) := ((((Below.refl _ _).alloc (Nat.le_refl _) _).alloc (by simp <;> omega) _).alloc (by simp <;> omega) _)
  go_enter Tryz.func29, Tryz.ntmps29
  go_wp2_with fail
  refine (MA.out _).mono ?_
  rintro e w1 ⟨rfl, hb⟩
  have Ba1 := Blk.on Ba0 hb
  have Bb1 := Blk.on Bb0 hb
  have Br1 := Blk.on Br0 hb
  have HB1 := hide (HB0.out.trans (hb.mono HB0.out.size))
  clear hb Ba0 Bb0 Br0 HB0 
  obtain ⟨ya0, ya1, ya2, ya3⟩ := Ba1.out.four
  obtain ⟨yb0, yb1, yb2, yb3⟩ := Bb1.out.four
  obtain ⟨yr0, yr1, yr2, yr3⟩ := Br1.out.four
  go_wp2_with fail
  refine (MB.out _).mono ?_
  rintro e w2 ⟨rfl, hb⟩
  have Ba2 := Blk.on Ba1 hb
  have Bb2 := Blk.on Bb1 hb
  have Br2 := Blk.on Br1 hb
  have HB2 := hide (HB1.out.trans (hb.mono HB1.out.size))
  clear hb Ba1 Bb1 Br1 HB1 ya0 ya1 ya2 ya3 yb0 yb1 yb2 yb3 yr0 yr1 yr2 yr3
  obtain ⟨ya0, ya1, ya2, ya3⟩ := Ba2.out.four
  obtain ⟨yb0, yb1, yb2, yb3⟩ := Bb2.out.four
  obtain ⟨yr0, yr1, yr2, yr3⟩ := Br2.out.four
  have fr0 := Br2.out.free 0
  have fr1 := Br2.out.free 1
  have fr2 := Br2.out.free 2
  have fr3 := Br2.out.free 3
  go_wp2
  refine bodyPost_ret (results_dec2 rfl _ _ _ _ _ _ _ rfl (Br2.out.put4 _ _ _ _)) rfl ?_
  exact ⟨rfl, below_put4 (HB2.out) (by omega) _ _ _ _⟩

set_option maxRecDepth 100000 in
set_option maxHeartbeats 2000000 in
theorem radd_infb (na : Bool) (nb : Bool) (ta : ByteArray) (tb : ByteArray) (ea eb : Int) (w : World) (ma : ∀ W, Calls Tryz.prog 15 #[.agg #[.int .i64 0, .bool na, .string ta, .int .i64 ea]] W fun e w' => e = .returned (.bool true) ∧ Below W.heap.size W w') (mb : ∀ W, Calls Tryz.prog 15 #[.agg #[.int .i64 1, .bool nb, .string tb, .int .i64 eb]] W fun e w' => e = .returned (.bool true) ∧ Below W.heap.size W w')  : Calls Tryz.prog 29 #[.agg #[.int .i64 0, .bool na, .string ta, .int .i64 ea], .agg #[.int .i64 1, .bool nb, .string tb, .int .i64 eb]] w fun e w' => e = .returned (.tuple #[.agg #[.int .i64 1, .bool nb, .string tb, .int .i64 eb], .int .i64 0]) ∧ Below w.heap.size w w' := by
  have MA := hide ma
  have MB := hide mb
  clear ma mb
  have Ba0 := hide (((Blk.newAt w (w.heap.size) (rfl) #[.int .i64 0, .bool na, .string ta, .int .i64 ea] 23).alloc (.cells #[.int .i64 1, .bool nb, .string tb, .int .i64 eb] 23)).alloc (.cells #[.int .i64 0, .bool false, .string ⟨#[]⟩, .int .i64 0] 23))
  have Bb0 := hide ((Blk.newAt (w.alloc (.cells #[.int .i64 0, .bool na, .string ta, .int .i64 ea] 23)) (w.heap.size + 1) (by simp) #[.int .i64 1, .bool nb, .string tb, .int .i64 eb] 23).alloc (.cells #[.int .i64 0, .bool false, .string ⟨#[]⟩, .int .i64 0] 23))
  have Br0 := hide (Blk.newAt ((w.alloc (.cells #[.int .i64 0, .bool na, .string ta, .int .i64 ea] 23)).alloc (.cells #[.int .i64 1, .bool nb, .string tb, .int .i64 eb] 23)) (w.heap.size + 1 + 1) (by simp) #[.int .i64 0, .bool false, .string ⟨#[]⟩, .int .i64 0] 23)
  have HB0 : Hid (Below w.heap.size w (((w.alloc (.cells #[.int .i64 0, .bool na, .string ta, .int .i64 ea] 23)).alloc (.cells #[.int .i64 1, .bool nb, .string tb, .int .i64 eb] 23)).alloc (.cells #[.int .i64 0, .bool false, .string ⟨#[]⟩, .int .i64 0] 23))) := ((((Below.refl _ _).alloc (Nat.le_refl _) _).alloc (by simp <;> omega) _).alloc (by simp <;> omega) _)
  go_enter Tryz.func29, Tryz.ntmps29
  go_wp2_with fail
  refine (MA.out _).mono ?_
  rintro e w1 ⟨rfl, hb⟩
  have Ba1 := Blk.on Ba0 hb
  have Bb1 := Blk.on Bb0 hb
  have Br1 := Blk.on Br0 hb
  have HB1 := hide (HB0.out.trans (hb.mono HB0.out.size))
  clear hb Ba0 Bb0 Br0 HB0 
  obtain ⟨ya0, ya1, ya2, ya3⟩ := Ba1.out.four
  obtain ⟨yb0, yb1, yb2, yb3⟩ := Bb1.out.four
  obtain ⟨yr0, yr1, yr2, yr3⟩ := Br1.out.four
  go_wp2_with fail
  refine (MB.out _).mono ?_
  rintro e w2 ⟨rfl, hb⟩
  have Ba2 := Blk.on Ba1 hb
  have Bb2 := Blk.on Bb1 hb
  have Br2 := Blk.on Br1 hb
  have HB2 := hide (HB1.out.trans (hb.mono HB1.out.size))
  clear hb Ba1 Bb1 Br1 HB1 ya0 ya1 ya2 ya3 yb0 yb1 yb2 yb3 yr0 yr1 yr2 yr3
  obtain ⟨ya0, ya1, ya2, ya3⟩ := Ba2.out.four
  obtain ⟨yb0, yb1, yb2, yb3⟩ := Bb2.out.four
  obtain ⟨yr0, yr1, yr2, yr3⟩ := Br2.out.four
  have fr0 := Br2.out.free 0
  have fr1 := Br2.out.free 1
  have fr2 := Br2.out.free 2
  have fr3 := Br2.out.free 3
  go_wp2
  refine bodyPost_ret (results_dec2 rfl _ _ _ _ _ _ _ rfl (Br2.out.put4 _ _ _ _)) rfl ?_
  exact ⟨rfl, below_put4 (HB2.out) (by omega) _ _ _ _⟩

end Go.Proofs.YtafljhfamjabeaaGreatDoor

namespace Go.Proofs.YtafljhfamjabeaaGreatDoor
open Go.RowKit

theorem fldM (s : Bool) (o : Option Addr) (l c : Nat) (W : World) : (Instr.field 89 (.agg #[.bool s, .slice o l c]) 1).run Tryz.prog W = .ok (.slice o l c) W := by kernel_rfl

set_option maxRecDepth 100000 in
set_option maxHeartbeats 4000000 in
theorem prod_gen (ng na : Bool) (ta : ByteArray) (ea : Int) (nb : Bool) (tb : ByteArray) (eb : Int) (za zb : Int) (w : World) (ca : ∀ W, Calls Tryz.prog 72 #[dcV 0 na ta ea, .int .i64 ea] W (ZtPost W za)) (cb : ∀ W, Calls Tryz.prog 72 #[dcV 0 nb tb eb, .int .i64 eb] W (ZtPost W zb)) (sa : Sm za.natAbs) (sb : Sm zb.natAbs) (htab : Tab w) (hsz : (Lib.decDigits (za.natAbs * zb.natAbs)).length ≤ 100000) (hxb : -10000 ≤ ea ∧ ea ≤ 10000 ∧ -10000 ≤ eb ∧ eb ≤ 10000) : Calls Tryz.prog 49 #[.bool ng, dcV 0 na ta ea, dcV 0 nb tb eb] w fun e w' => e = .returned (decErr (tellF ng (za.natAbs * zb.natAbs) (ea + eb))) ∧ Below w.heap.size w w' := by
  have CCA := hide ca
  have CCB := hide cb
  have SA := hide sa
  have SB := hide sb
  have HT := hide htab
  have hw : IntKind.i64.wrap (ea + eb) = ea + eb := by rw [IntKind.wrap_i64]; omega
  obtain ⟨T, hT⟩ : ∃ T : ByteArray, T = ⟨(Lib.decDigits (za.natAbs * zb.natAbs)).toArray⟩ := ⟨_, rfl⟩
  have HTT := hide hT
  have hTb : bys T = Lib.decDigits (za.natAbs * zb.natAbs) := by rw [hT, bys_mk]
  have hTs : T.size = (Lib.decDigits (za.natAbs * zb.natAbs)).length := by rw [hT, size_mk0]
  have FG := fun (X : World) => fin_any ng T (ea + eb) X (by rw [hTs]; omega) (by omega) (by omega) (by rw [hTb]; exact (dd_okT _).2.2)
  rw [hTb, dd_val] at FG
  rcases hTF : tellF ng (za.natAbs * zb.natAbs) (ea + eb) with ⟨⟨cc, nn, ll, ee⟩, er⟩
  rw [hTF] at FG
  unfold decErr decVal at FG ⊢
  simp only at FG ⊢
  obtain ⟨D, hD⟩ : ∃ D : ByteArray, D = ⟨ll.toArray⟩ := ⟨_, rfl⟩
  rw [← hD] at FG ⊢
  have FI := hide FG
  clear FG hT hTb hTs hTF hD hsz hxb ca cb sa sb htab
  have Ba0 := hide (((Blk.newAt w (w.heap.size) (rfl) #[.int .i64 0, .bool na, .string ta, .int .i64 ea] 23).alloc (.cells #[.int .i64 0, .bool nb, .string tb, .int .i64 eb] 23)).alloc (.cells #[.int .i64 0, .bool false, .string ⟨#[]⟩, .int .i64 0] 23))
  have Bb0 := hide ((Blk.newAt (w.alloc (.cells #[.int .i64 0, .bool na, .string ta, .int .i64 ea] 23)) (w.heap.size + 1) (by simp) #[.int .i64 0, .bool nb, .string tb, .int .i64 eb] 23).alloc (.cells #[.int .i64 0, .bool false, .string ⟨#[]⟩, .int .i64 0] 23))
  have Br0 := hide (Blk.newAt ((w.alloc (.cells #[.int .i64 0, .bool na, .string ta, .int .i64 ea] 23)).alloc (.cells #[.int .i64 0, .bool nb, .string tb, .int .i64 eb] 23)) (w.heap.size + 1 + 1) (by simp) #[.int .i64 0, .bool false, .string ⟨#[]⟩, .int .i64 0] 23)
  have HB0 : Hid (Below w.heap.size w (((w.alloc (.cells #[.int .i64 0, .bool na, .string ta, .int .i64 ea] 23)).alloc (.cells #[.int .i64 0, .bool nb, .string tb, .int .i64 eb] 23)).alloc (.cells #[.int .i64 0, .bool false, .string ⟨#[]⟩, .int .i64 0] 23))) := ((((Below.refl _ _).alloc (Nat.le_refl _) _).alloc (by simp <;> omega) _).alloc (by simp <;> omega) _)
  have HTW := hide (HT.out.below HB0.out)
  obtain ⟨W, hW⟩ : ∃ W, W = (((w.alloc (.cells #[.int .i64 0, .bool na, .string ta, .int .i64 ea] 23)).alloc (.cells #[.int .i64 0, .bool nb, .string tb, .int .i64 eb] 23)).alloc (.cells #[.int .i64 0, .bool false, .string ⟨#[]⟩, .int .i64 0] 23)) := ⟨_, rfl⟩
  rw [← hW] at HB0 Ba0 Bb0 Br0 HTW
  have HW := hide hW
  clear hW
  have ya0 : W.cell? ⟨w.heap.size, 0, none⟩ = some (.int .i64 0) := Ba0.out.cell 0
  have ya1 : W.cell? ⟨w.heap.size, 1, none⟩ = some (.bool na) := Ba0.out.cell 1
  have ya2 : W.cell? ⟨w.heap.size, 2, none⟩ = some (.string ta) := Ba0.out.cell 2
  have ya3 : W.cell? ⟨w.heap.size, 3, none⟩ = some (.int .i64 ea) := Ba0.out.cell 3
  have yb0 : W.cell? ⟨w.heap.size + 1, 0, none⟩ = some (.int .i64 0) := Bb0.out.cell 0
  have yb1 : W.cell? ⟨w.heap.size + 1, 1, none⟩ = some (.bool nb) := Bb0.out.cell 1
  have yb2 : W.cell? ⟨w.heap.size + 1, 2, none⟩ = some (.string tb) := Bb0.out.cell 2
  have yb3 : W.cell? ⟨w.heap.size + 1, 3, none⟩ = some (.int .i64 eb) := Bb0.out.cell 3
  have yr0 : W.cell? ⟨w.heap.size + 1 + 1, 0, none⟩ = some (.int .i64 0) := Br0.out.cell 0
  have yr1 : W.cell? ⟨w.heap.size + 1 + 1, 1, none⟩ = some (.bool false) := Br0.out.cell 1
  have yr2 : W.cell? ⟨w.heap.size + 1 + 1, 2, none⟩ = some (.string ⟨#[]⟩) := Br0.out.cell 2
  have yr3 : W.cell? ⟨w.heap.size + 1 + 1, 3, none⟩ = some (.int .i64 0) := Br0.out.cell 3
  clear HT
  go_enter Tryz.func49, Tryz.ntmps49
  have C0 : Hid (∀ X, Hid (Below W.heap.size W X) → Calls Tryz.prog 72 #[dcV 0 na ta ea, .int .i64 ea] X fun e w' => (∃ s o l c, e = .returned (.agg #[.bool s, .slice o l c]) ∧ Hid (Nt w' (.slice o l c) za.natAbs)) ∧ Hid (Below X.heap.size X w') ∧ Hid (Below W.heap.size W w') ∧ w'.cell? ⟨w.heap.size, 0, none⟩ = some (.int .i64 0) ∧ w'.cell? ⟨w.heap.size, 1, none⟩ = some (.bool na) ∧ w'.cell? ⟨w.heap.size, 2, none⟩ = some (.string ta) ∧ w'.cell? ⟨w.heap.size, 3, none⟩ = some (.int .i64 ea) ∧ w'.cell? ⟨w.heap.size + 1, 0, none⟩ = some (.int .i64 0) ∧ w'.cell? ⟨w.heap.size + 1, 1, none⟩ = some (.bool nb) ∧ w'.cell? ⟨w.heap.size + 1, 2, none⟩ = some (.string tb) ∧ w'.cell? ⟨w.heap.size + 1, 3, none⟩ = some (.int .i64 eb)) := by
    intro X bX
    refine (CCA.out X).mono ?_
    rintro e w' ⟨s, o, l, c, rfl, hz, hb, hf⟩
    have bb := bX.out.trans (hb.mono bX.out.size)
    have Baq := Ba0.out.below bb Ba0.out.lt
    have Bbq := Bb0.out.below bb Bb0.out.lt
    exact ⟨⟨s, o, l, c, rfl, hz.out.nt.2⟩, hb, bb, Baq.cell 0, Baq.cell 1, Baq.cell 2, Baq.cell 3, Bbq.cell 0, Bbq.cell 1, Bbq.cell 2, Bbq.cell 3⟩
  have C1 : Hid (∀ X, Hid (Below W.heap.size W X) → Calls Tryz.prog 72 #[dcV 0 nb tb eb, .int .i64 eb] X fun e w' => (∃ s o l c, e = .returned (.agg #[.bool s, .slice o l c]) ∧ Hid (Nt w' (.slice o l c) zb.natAbs)) ∧ Hid (Below X.heap.size X w') ∧ Hid (Below W.heap.size W w') ∧ w'.cell? ⟨w.heap.size, 0, none⟩ = some (.int .i64 0) ∧ w'.cell? ⟨w.heap.size, 1, none⟩ = some (.bool na) ∧ w'.cell? ⟨w.heap.size, 2, none⟩ = some (.string ta) ∧ w'.cell? ⟨w.heap.size, 3, none⟩ = some (.int .i64 ea) ∧ w'.cell? ⟨w.heap.size + 1, 0, none⟩ = some (.int .i64 0) ∧ w'.cell? ⟨w.heap.size + 1, 1, none⟩ = some (.bool nb) ∧ w'.cell? ⟨w.heap.size + 1, 2, none⟩ = some (.string tb) ∧ w'.cell? ⟨w.heap.size + 1, 3, none⟩ = some (.int .i64 eb)) := by
    intro X bX
    refine (CCB.out X).mono ?_
    rintro e w' ⟨s, o, l, c, rfl, hz, hb, hf⟩
    have bb := bX.out.trans (hb.mono bX.out.size)
    have Baq := Ba0.out.below bb Ba0.out.lt
    have Bbq := Bb0.out.below bb Bb0.out.lt
    exact ⟨⟨s, o, l, c, rfl, hz.out.nt.2⟩, hb, bb, Baq.cell 0, Baq.cell 1, Baq.cell 2, Baq.cell 3, Bbq.cell 0, Bbq.cell 1, Bbq.cell 2, Bbq.cell 3⟩
  have C2 : Hid (∀ X (o1 : Option Addr) (l1 c1 : Nat) (o2 : Option Addr) (l2 c2 : Nat), Hid (Below W.heap.size W X) → Nt X (.slice o1 l1 c1) za.natAbs → Nt X (.slice o2 l2 c2) zb.natAbs → Calls Tryz.prog 76 #[.slice o1 l1 c1, .slice o2 l2 c2] X fun e w' => (∃ o l c, e = .returned (.slice o l c) ∧ Hid (Nt w' (.slice o l c) (za.natAbs * zb.natAbs))) ∧ Hid (Below W.heap.size W w') ∧ w'.cell? ⟨w.heap.size, 0, none⟩ = some (.int .i64 0) ∧ w'.cell? ⟨w.heap.size, 1, none⟩ = some (.bool na) ∧ w'.cell? ⟨w.heap.size, 2, none⟩ = some (.string ta) ∧ w'.cell? ⟨w.heap.size, 3, none⟩ = some (.int .i64 ea) ∧ w'.cell? ⟨w.heap.size + 1, 0, none⟩ = some (.int .i64 0) ∧ w'.cell? ⟨w.heap.size + 1, 1, none⟩ = some (.bool nb) ∧ w'.cell? ⟨w.heap.size + 1, 2, none⟩ = some (.string tb) ∧ w'.cell? ⟨w.heap.size + 1, 3, none⟩ = some (.int .i64 eb)) := by
    intro X o1 l1 c1 o2 l2 c2 bX Zp Zq
    refine (nt_mul _ _ _ _ X Zp Zq SA.out SB.out).mono ?_
    rintro e w' ⟨v, rfl, hn, hb, hf⟩
    obtain ⟨o, c, xs, rfl, hr⟩ := hn
    have bb := bX.out.trans (hb.mono bX.out.size)
    have Baq := Ba0.out.below bb Ba0.out.lt
    have Bbq := Bb0.out.below bb Bb0.out.lt
    exact ⟨⟨o, xs.length, c, rfl, ⟨o, c, xs, rfl, hr⟩⟩, bb, Baq.cell 0, Baq.cell 1, Baq.cell 2, Baq.cell 3, Bbq.cell 0, Bbq.cell 1, Bbq.cell 2, Bbq.cell 3⟩
  have b0 : Hid (Below W.heap.size W W.drew) := bdrewD W
  clear CCA CCB SA SB
  have FLD := fldM
  go_wp2_with fail
  simp only [← HW.out]
  have mk0 : True := trivial
  go_region_held3 (fun w' => w'.cell? ⟨w.heap.size, 0, none⟩ = some (.int .i64 0) ∧ w'.cell? ⟨w.heap.size, 1, none⟩ = some (.bool na) ∧ w'.cell? ⟨w.heap.size, 2, none⟩ = some (.string ta) ∧ w'.cell? ⟨w.heap.size, 3, none⟩ = some (.int .i64 ea) ∧ w'.cell? ⟨w.heap.size + 1, 0, none⟩ = some (.int .i64 0) ∧ w'.cell? ⟨w.heap.size + 1, 1, none⟩ = some (.bool nb) ∧ w'.cell? ⟨w.heap.size + 1, 2, none⟩ = some (.string tb) ∧ w'.cell? ⟨w.heap.size + 1, 3, none⟩ = some (.int .i64 eb)) (go_keep) (first
    | (clear mk0; go_at_call 72; refine (C0.out _ b0).mono ?_; rintro e w1 ⟨⟨s1, o1, l1, c1, rfl, Z1⟩, R1, b1, q0_0, q0_1, q0_2, q0_3, q0_4, q0_5, q0_6, q0_7⟩; have mk1 : True := trivial)
    | (clear mk1; go_at_call 72; refine (C1.out _ b1).mono ?_; rintro e w2 ⟨⟨s2, o2, l2, c2, rfl, Z2⟩, R2, b2, q1_0, q1_1, q1_2, q1_3, q1_4, q1_5, q1_6, q1_7⟩; have Y1 := hide (Z1.out.below R2.out); clear Z1; have mk2 : True := trivial)
    | (clear mk2; go_at_call 76; refine (C2.out _ _ _ _ _ _ _ b2 Y1.out Z2.out).mono ?_; rintro e wc ⟨⟨o, l, c, rfl, Z3⟩, b3, q2_0, q2_1, q2_2, q2_3, q2_4, q2_5, q2_6, q2_7⟩; have mk3 : True := trivial))
  have HL : Hid (w.heap.size < W.heap.size ∧ w.heap.size + 1 < W.heap.size ∧ w.heap.size + 1 + 1 < W.heap.size) := ⟨Ba0.out.lt, Bb0.out.lt, Br0.out.lt⟩
  obtain ⟨G, hG⟩ : ∃ G, G = w.heap.size + 1 + 1 := ⟨_, rfl⟩
  have gn1 : ¬ G = w.heap.size := by omega
  have gn2 : ¬ w.heap.size = G := by omega
  have gn3 : ¬ G = w.heap.size + 1 := by omega
  have gn4 : ¬ w.heap.size + 1 = G := by omega
  have gle : w.heap.size ≤ G := by omega
  have HG := hide hG
  rw [← hG] at Br0
  clear hG HL
  have Ba1 := hide (Ba0.out.below b3.out Ba0.out.lt)
  have Bb1 := hide (Bb0.out.below b3.out Bb0.out.lt)
  have Br1 := hide (Br0.out.below b3.out Br0.out.lt)
  have HTC := hide (HTW.out.below b3.out)
  have HB1 := hide (HB0.out.trans (b3.out.mono HB0.out.size))
  clear FLD mk3 b0 b1 b2 b3 R1 R2 Y1 Z2 C0 C1 C2 Ba0 Bb0 Br0 HB0 HTW HW q0_0 q0_1 q0_2 q0_3 q0_4 q0_5 q0_6 q0_7 q1_0 q1_1 q1_2 q1_3 q1_4 q1_5 q1_6 q1_7 q2_0 q2_1 q2_2 q2_3 q2_4 q2_5 q2_6 q2_7 ya0 ya1 ya2 ya3 yb0 yb1 yb2 yb3 yr0 yr1 yr2 yr3
  have d0 : wc.cell? ⟨w.heap.size, 3, none⟩ = some (.int .i64 ea) := Ba1.out.cell 3
  have d1 : wc.cell? ⟨w.heap.size + 1, 3, none⟩ = some (.int .i64 eb) := Bb1.out.cell 3
  have HC : Hid (∀ w', Below wc.heap.size wc w' → w'.cell? ⟨w.heap.size, 3, none⟩ = some (.int .i64 ea) ∧ w'.cell? ⟨w.heap.size + 1, 3, none⟩ = some (.int .i64 eb) ∧ w'.cell? ⟨G, 0, none⟩ = some (.int .i64 0) ∧ w'.cell? ⟨G, 1, none⟩ = some (.bool false) ∧ w'.cell? ⟨G, 2, none⟩ = some (.string ⟨#[]⟩) ∧ w'.cell? ⟨G, 3, none⟩ = some (.int .i64 0) ∧ w'.frozen? ⟨G, 0, none⟩ = false ∧ w'.frozen? ⟨G, 1, none⟩ = false ∧ w'.frozen? ⟨G, 2, none⟩ = false ∧ w'.frozen? ⟨G, 3, none⟩ = false) := by
    intro w' hb
    have Ba1q := Ba1.out.below hb Ba1.out.lt
    have Bb1q := Bb1.out.below hb Bb1.out.lt
    have Br1q := Br1.out.below hb Br1.out.lt
    exact ⟨Ba1q.cell 3, Bb1q.cell 3, Br1q.cell 0, Br1q.cell 1, Br1q.cell 2, Br1q.cell 3, Br1q.free 0, Br1q.free 1, Br1q.free 2, Br1q.free 3⟩
  have b0 : Hid (Below wc.heap.size wc wc.drew) := bdrewD wc
  have C0 : Hid (∀ X, Hid (Below wc.heap.size wc X) → Calls Tryz.prog 73 #[.slice o l c] X fun e w' => e = .returned (.string T) ∧ Hid (Below wc.heap.size wc w') ∧ w'.cell? ⟨w.heap.size, 3, none⟩ = some (.int .i64 ea) ∧ w'.cell? ⟨w.heap.size + 1, 3, none⟩ = some (.int .i64 eb) ∧ w'.cell? ⟨G, 0, none⟩ = some (.int .i64 0) ∧ w'.cell? ⟨G, 1, none⟩ = some (.bool false) ∧ w'.cell? ⟨G, 2, none⟩ = some (.string ⟨#[]⟩) ∧ w'.cell? ⟨G, 3, none⟩ = some (.int .i64 0) ∧ w'.frozen? ⟨G, 0, none⟩ = false ∧ w'.frozen? ⟨G, 1, none⟩ = false ∧ w'.frozen? ⟨G, 2, none⟩ = false ∧ w'.frozen? ⟨G, 3, none⟩ = false) := by
    intro X bX
    refine (nt_text _ _ X (Z3.out.below bX.out) (HTC.out.below bX.out)).mono ?_
    rintro e w' ⟨rfl, hb⟩
    have bb := bX.out.trans (hb.mono bX.out.size)
    exact ⟨by rw [HTT.out], bb, HC.out _ bb⟩
  have C1 : Hid (∀ X, Hid (Below wc.heap.size wc X) → Calls Tryz.prog 35 #[.bool ng, .string T, .int .i64 (ea + eb)] X fun e w' => e = .returned (.tuple #[.agg #[.int .i64 (cc : Int), .bool nn, .string D, .int .i64 ee], .int .i64 er]) ∧ Hid (Below wc.heap.size wc w') ∧ w'.cell? ⟨w.heap.size, 3, none⟩ = some (.int .i64 ea) ∧ w'.cell? ⟨w.heap.size + 1, 3, none⟩ = some (.int .i64 eb) ∧ w'.cell? ⟨G, 0, none⟩ = some (.int .i64 0) ∧ w'.cell? ⟨G, 1, none⟩ = some (.bool false) ∧ w'.cell? ⟨G, 2, none⟩ = some (.string ⟨#[]⟩) ∧ w'.cell? ⟨G, 3, none⟩ = some (.int .i64 0) ∧ w'.frozen? ⟨G, 0, none⟩ = false ∧ w'.frozen? ⟨G, 1, none⟩ = false ∧ w'.frozen? ⟨G, 2, none⟩ = false ∧ w'.frozen? ⟨G, 3, none⟩ = false) := by
    intro X bX
    refine (FI.out X).mono ?_
    rintro e w' ⟨rfl, hb⟩
    have bb := bX.out.trans (hb.mono bX.out.size)
    exact ⟨rfl, bb, HC.out _ bb⟩
  have BRF : Hid (∀ w', Below wc.heap.size wc w' → Below w.heap.size w w' ∧ Blk w' G #[.int .i64 0, .bool false, .string ⟨#[]⟩, .int .i64 0] 23) := fun w' hb => ⟨HB1.out.trans (hb.mono HB1.out.size), Br1.out.below hb Br1.out.lt⟩
  clear HC Z3 HTC HTT FI Ba1 Bb1 Br1 HB1
  go_wp2_with fail
  simp only [← HG.out]
  have mk0 : True := trivial
  go_region_held3 (fun w' => w'.cell? ⟨w.heap.size, 3, none⟩ = some (.int .i64 ea) ∧ w'.cell? ⟨w.heap.size + 1, 3, none⟩ = some (.int .i64 eb)) (go_keep) (first
    | (clear mk0; go_at_call 73; refine (C0.out _ b0).mono ?_; rintro e w1 ⟨rfl, b1, q0_0, q0_1, q0_2, q0_3, q0_4, q0_5, q0_6, q0_7, q0_8, q0_9⟩; have mk1 : True := trivial)
    | (clear mk1; go_at_call 35; refine (C1.out _ b1).mono ?_; rintro e w2 ⟨rfl, b2, q1_0, q1_1, q1_2, q1_3, q1_4, q1_5, q1_6, q1_7, q1_8, q1_9⟩; have mk2 : True := trivial))
  obtain ⟨hbel, hblk⟩ := BRF.out _ b2.out
  have HBL := hide hbel
  have QR := hide hblk
  clear hbel hblk BRF b0 b1 b2 C0 C1
  repeat (first | go_values | go_skip | go_guarded | go_step | go_upon)
  refine bodyPost_ret (results_dec2 rfl _ _ _ _ _ _ _ rfl (QR.out.put4 _ _ _ _)) rfl ?_
  exact ⟨rfl, below_put4 HBL.out gle _ _ _ _⟩

end Go.Proofs.YtafljhfamjabeaaGreatDoor

namespace Go.Proofs.YtafljhfamjabeaaGreatDoor
open Go.RowKit

set_option maxRecDepth 100000 in
set_option maxHeartbeats 2000000 in
theorem Add_no1 (ca : Int) (na : Bool) (ta : ByteArray) (ea : Int) (cb : Int) (nb : Bool) (tb : ByteArray) (eb : Int) (w : World) (ha : ¬ MayD  ca na (bys ta) ( ea)) : Calls Tryz.prog 28 #[.agg #[.int .i64 ca, .bool na, .string ta, .int .i64 ea], .agg #[.int .i64 cb, .bool nb, .string tb, .int .i64 eb]] w fun e w' => e = .returned (.tuple #[dcV 0 false ⟨#[]⟩ 0, .int .i64 52]) ∧ Below w.heap.size w w' := by
  have MA := hide (fun W => dmay_no  ca na ta ( ea) W ha)
  clear ha
  have Ba0 := hide (((Blk.newAt w (w.heap.size) (rfl) #[.int .i64 ca, .bool na, .string ta, .int .i64 ea] 23).alloc (.cells #[.int .i64 cb, .bool nb, .string tb, .int .i64 eb] 23)).alloc (.cells #[.int .i64 0, .bool false, .string ⟨#[]⟩, .int .i64 0] 23))
  have Bb0 := hide ((Blk.newAt (w.alloc (.cells #[.int .i64 ca, .bool na, .string ta, .int .i64 ea] 23)) (w.heap.size + 1) (by simp) #[.int .i64 cb, .bool nb, .string tb, .int .i64 eb] 23).alloc (.cells #[.int .i64 0, .bool false, .string ⟨#[]⟩, .int .i64 0] 23))
  have Br0 := hide (Blk.newAt ((w.alloc (.cells #[.int .i64 ca, .bool na, .string ta, .int .i64 ea] 23)).alloc (.cells #[.int .i64 cb, .bool nb, .string tb, .int .i64 eb] 23)) (w.heap.size + 1 + 1) (by simp) #[.int .i64 0, .bool false, .string ⟨#[]⟩, .int .i64 0] 23)
  have HB0 : Hid (Below w.heap.size w (((w.alloc (.cells #[.int .i64 ca, .bool na, .string ta, .int .i64 ea] 23)).alloc (.cells #[.int .i64 cb, .bool nb, .string tb, .int .i64 eb] 23)).alloc (.cells #[.int .i64 0, .bool false, .string ⟨#[]⟩, .int .i64 0] 23))) := ((((Below.refl _ _).alloc (Nat.le_refl _) _).alloc (by simp <;> omega) _).alloc (by simp <;> omega) _)
  go_enter Tryz.func28, Tryz.ntmps28
  go_wp2_with fail
  refine (MA.out _).mono ?_
  rintro e w1 ⟨rfl, hb⟩
  have Ba1 := Blk.on Ba0 hb
  have Bb1 := Blk.on Bb0 hb
  have Br1 := Blk.on Br0 hb
  have HB1 := hide (HB0.out.trans (hb.mono HB0.out.size))
  clear hb Ba0 Bb0 Br0 HB0 
  obtain ⟨ya0, ya1, ya2, ya3⟩ := Ba1.out.four
  obtain ⟨yb0, yb1, yb2, yb3⟩ := Bb1.out.four
  obtain ⟨yr0, yr1, yr2, yr3⟩ := Br1.out.four
  have fr0 := Br1.out.free 0
  have fr1 := Br1.out.free 1
  have fr2 := Br1.out.free 2
  have fr3 := Br1.out.free 3
  go_wp2
  refine bodyPost_ret (results_dec2 rfl _ _ _ _ _ _ _ rfl (Br1.out.put4 _ _ _ _)) rfl ?_
  exact ⟨rfl, below_put4 (HB1.out) (by omega) _ _ _ _⟩

set_option maxRecDepth 100000 in
set_option maxHeartbeats 2000000 in
theorem Add_no2 (ca : Int) (na : Bool) (ta : ByteArray) (ea : Int) (cb : Int) (nb : Bool) (tb : ByteArray) (eb : Int) (w : World) (ha : MayD  ca na (bys ta) ( ea)) (hb0 : ¬ MayD  cb nb (bys tb) ( eb)) : Calls Tryz.prog 28 #[.agg #[.int .i64 ca, .bool na, .string ta, .int .i64 ea], .agg #[.int .i64 cb, .bool nb, .string tb, .int .i64 eb]] w fun e w' => e = .returned (.tuple #[dcV 0 false ⟨#[]⟩ 0, .int .i64 52]) ∧ Below w.heap.size w w' := by
  have MA := hide (fun W => dmay_yes  ca na ta ( ea) W ha)
  have MB := hide (fun W => dmay_no  cb nb tb ( eb) W hb0)
  clear ha hb0
  have Ba0 := hide (((Blk.newAt w (w.heap.size) (rfl) #[.int .i64 ca, .bool na, .string ta, .int .i64 ea] 23).alloc (.cells #[.int .i64 cb, .bool nb, .string tb, .int .i64 eb] 23)).alloc (.cells #[.int .i64 0, .bool false, .string ⟨#[]⟩, .int .i64 0] 23))
  have Bb0 := hide ((Blk.newAt (w.alloc (.cells #[.int .i64 ca, .bool na, .string ta, .int .i64 ea] 23)) (w.heap.size + 1) (by simp) #[.int .i64 cb, .bool nb, .string tb, .int .i64 eb] 23).alloc (.cells #[.int .i64 0, .bool false, .string ⟨#[]⟩, .int .i64 0] 23))
  have Br0 := hide (Blk.newAt ((w.alloc (.cells #[.int .i64 ca, .bool na, .string ta, .int .i64 ea] 23)).alloc (.cells #[.int .i64 cb, .bool nb, .string tb, .int .i64 eb] 23)) (w.heap.size + 1 + 1) (by simp) #[.int .i64 0, .bool false, .string ⟨#[]⟩, .int .i64 0] 23)
  have HB0 : Hid (Below w.heap.size w (((w.alloc (.cells #[.int .i64 ca, .bool na, .string ta, .int .i64 ea] 23)).alloc (.cells #[.int .i64 cb, .bool nb, .string tb, .int .i64 eb] 23)).alloc (.cells #[.int .i64 0, .bool false, .string ⟨#[]⟩, .int .i64 0] 23))) := ((((Below.refl _ _).alloc (Nat.le_refl _) _).alloc (by simp <;> omega) _).alloc (by simp <;> omega) _)
  go_enter Tryz.func28, Tryz.ntmps28
  go_wp2_with fail
  refine (MA.out _).mono ?_
  rintro e w1 ⟨rfl, hb⟩
  have Ba1 := Blk.on Ba0 hb
  have Bb1 := Blk.on Bb0 hb
  have Br1 := Blk.on Br0 hb
  have HB1 := hide (HB0.out.trans (hb.mono HB0.out.size))
  clear hb Ba0 Bb0 Br0 HB0 
  obtain ⟨ya0, ya1, ya2, ya3⟩ := Ba1.out.four
  obtain ⟨yb0, yb1, yb2, yb3⟩ := Bb1.out.four
  obtain ⟨yr0, yr1, yr2, yr3⟩ := Br1.out.four
  go_wp2_with fail
  refine (MB.out _).mono ?_
  rintro e w2 ⟨rfl, hb⟩
  have Ba2 := Blk.on Ba1 hb
  have Bb2 := Blk.on Bb1 hb
  have Br2 := Blk.on Br1 hb
  have HB2 := hide (HB1.out.trans (hb.mono HB1.out.size))
  clear hb Ba1 Bb1 Br1 HB1 ya0 ya1 ya2 ya3 yb0 yb1 yb2 yb3 yr0 yr1 yr2 yr3
  obtain ⟨ya0, ya1, ya2, ya3⟩ := Ba2.out.four
  obtain ⟨yb0, yb1, yb2, yb3⟩ := Bb2.out.four
  obtain ⟨yr0, yr1, yr2, yr3⟩ := Br2.out.four
  have fr0 := Br2.out.free 0
  have fr1 := Br2.out.free 1
  have fr2 := Br2.out.free 2
  have fr3 := Br2.out.free 3
  go_wp2
  refine bodyPost_ret (results_dec2 rfl _ _ _ _ _ _ _ rfl (Br2.out.put4 _ _ _ _)) rfl ?_
  exact ⟨rfl, below_put4 (HB2.out) (by omega) _ _ _ _⟩

set_option maxRecDepth 100000 in
set_option maxHeartbeats 2000000 in
theorem Add_ff (na : Bool) (ta : ByteArray) (ea : Int) (nb : Bool) (tb : ByteArray) (eb : Int) (w : World) (ha : MayD  0 na (bys ta) ( ea)) (hb0 : MayD  0 nb (bys tb) ( eb)) (r : DecT × Int) (htab : Tab w) (su : ∀ W, Tab W → Calls Tryz.prog 46 #[.agg #[.int .i64 0, .bool na, .string ta, .int .i64 ea], .agg #[.int .i64 0, .bool nb, .string tb, .int .i64 eb]] W fun e w' => e = .returned (decErr r) ∧ Below W.heap.size W w') : Calls Tryz.prog 28 #[.agg #[.int .i64 0, .bool na, .string ta, .int .i64 ea], .agg #[.int .i64 0, .bool nb, .string tb, .int .i64 eb]] w fun e w' => e = .returned (decErr r) ∧ Below w.heap.size w w' := by
  have MA := hide (fun W => dmay_yes  0 na ta ( ea) W ha)
  have MB := hide (fun W => dmay_yes  0 nb tb ( eb) W hb0)
  have SU := hide su
  have HT := hide htab
  obtain ⟨⟨cc, nn, ll, ee⟩, er⟩ := r
  unfold decErr decVal at SU ⊢
  simp only at SU ⊢
  obtain ⟨D, hD⟩ : ∃ D : ByteArray, D = ⟨ll.toArray⟩ := ⟨_, rfl⟩
  rw [← hD] at SU ⊢
  clear su htab hD
  clear ha hb0
  have Ba0 := hide (((Blk.newAt w (w.heap.size) (rfl) #[.int .i64 0, .bool na, .string ta, .int .i64 ea] 23).alloc (.cells #[.int .i64 0, .bool nb, .string tb, .int .i64 eb] 23)).alloc (.cells #[.int .i64 0, .bool false, .string ⟨#[]⟩, .int .i64 0] 23))
  have Bb0 := hide ((Blk.newAt (w.alloc (.cells #[.int .i64 0, .bool na, .string ta, .int .i64 ea] 23)) (w.heap.size + 1) (by simp) #[.int .i64 0, .bool nb, .string tb, .int .i64 eb] 23).alloc (.cells #[.int .i64 0, .bool false, .string ⟨#[]⟩, .int .i64 0] 23))
  have Br0 := hide (Blk.newAt ((w.alloc (.cells #[.int .i64 0, .bool na, .string ta, .int .i64 ea] 23)).alloc (.cells #[.int .i64 0, .bool nb, .string tb, .int .i64 eb] 23)) (w.heap.size + 1 + 1) (by simp) #[.int .i64 0, .bool false, .string ⟨#[]⟩, .int .i64 0] 23)
  have HB0 : Hid (Below w.heap.size w (((w.alloc (.cells #[.int .i64 0, .bool na, .string ta, .int .i64 ea] 23)).alloc (.cells #[.int .i64 0, .bool nb, .string tb, .int .i64 eb] 23)).alloc (.cells #[.int .i64 0, .bool false, .string ⟨#[]⟩, .int .i64 0] 23))) := ((((Below.refl _ _).alloc (Nat.le_refl _) _).alloc (by simp <;> omega) _).alloc (by simp <;> omega) _)
  go_enter Tryz.func28, Tryz.ntmps28
  go_wp2_with fail
  refine (MA.out _).mono ?_
  rintro e w1 ⟨rfl, hb⟩
  have Ba1 := Blk.on Ba0 hb
  have Bb1 := Blk.on Bb0 hb
  have Br1 := Blk.on Br0 hb
  have HB1 := hide (HB0.out.trans (hb.mono HB0.out.size))
  clear hb Ba0 Bb0 Br0 HB0 
  obtain ⟨ya0, ya1, ya2, ya3⟩ := Ba1.out.four
  obtain ⟨yb0, yb1, yb2, yb3⟩ := Bb1.out.four
  obtain ⟨yr0, yr1, yr2, yr3⟩ := Br1.out.four
  go_wp2_with fail
  refine (MB.out _).mono ?_
  rintro e w2 ⟨rfl, hb⟩
  have Ba2 := Blk.on Ba1 hb
  have Bb2 := Blk.on Bb1 hb
  have Br2 := Blk.on Br1 hb
  have HB2 := hide (HB1.out.trans (hb.mono HB1.out.size))
  clear hb Ba1 Bb1 Br1 HB1 ya0 ya1 ya2 ya3 yb0 yb1 yb2 yb3 yr0 yr1 yr2 yr3
  obtain ⟨ya0, ya1, ya2, ya3⟩ := Ba2.out.four
  obtain ⟨yb0, yb1, yb2, yb3⟩ := Bb2.out.four
  obtain ⟨yr0, yr1, yr2, yr3⟩ := Br2.out.four
  go_wp2_with fail
  refine (SU.out _ (HT.out.below HB2.out)).mono ?_
  rintro e w3 ⟨rfl, hb⟩
  have Ba3 := Blk.on Ba2 hb
  have Bb3 := Blk.on Bb2 hb
  have Br3 := Blk.on Br2 hb
  have HB3 := hide (HB2.out.trans (hb.mono HB2.out.size))
  clear hb Ba2 Bb2 Br2 HB2 ya0 ya1 ya2 ya3 yb0 yb1 yb2 yb3 yr0 yr1 yr2 yr3
  obtain ⟨ya0, ya1, ya2, ya3⟩ := Ba3.out.four
  obtain ⟨yb0, yb1, yb2, yb3⟩ := Bb3.out.four
  obtain ⟨yr0, yr1, yr2, yr3⟩ := Br3.out.four
  have fr0 := Br3.out.free 0
  have fr1 := Br3.out.free 1
  have fr2 := Br3.out.free 2
  have fr3 := Br3.out.free 3
  go_wp2
  refine bodyPost_ret (results_dec2 rfl _ _ _ _ _ _ _ rfl (Br3.out.put4 _ _ _ _)) rfl ?_
  exact ⟨rfl, below_put4 (HB3.out) (by omega) _ _ _ _⟩

set_option maxRecDepth 100000 in
set_option maxHeartbeats 2000000 in
theorem Add_nf (nb : Bool) (tb : ByteArray) (eb : Int) (w : World) (ha : MayD  2 false (bys ⟨#[]⟩) ( 0)) (hb0 : MayD  0 nb (bys tb) ( eb)) : Calls Tryz.prog 28 #[.agg #[.int .i64 2, .bool false, .string ⟨#[]⟩, .int .i64 0], .agg #[.int .i64 0, .bool nb, .string tb, .int .i64 eb]] w fun e w' => e = .returned (.tuple #[.agg #[.int .i64 2, .bool false, .string ⟨#[]⟩, .int .i64 0], .int .i64 0]) ∧ Below w.heap.size w w' := by
  have MA := hide (fun W => dmay_yes  2 false ⟨#[]⟩ ( 0) W ha)
  have MB := hide (fun W => dmay_yes  0 nb tb ( eb) W hb0)
  clear ha hb0
  have Ba0 := hide (((Blk.newAt w (w.heap.size) (rfl) #[.int .i64 2, .bool false, .string ⟨#[]⟩, .int .i64 0] 23).alloc (.cells #[.int .i64 0, .bool nb, .string tb, .int .i64 eb] 23)).alloc (.cells #[.int .i64 0, .bool false, .string ⟨#[]⟩, .int .i64 0] 23))
  have Bb0 := hide ((Blk.newAt (w.alloc (.cells #[.int .i64 2, .bool false, .string ⟨#[]⟩, .int .i64 0] 23)) (w.heap.size + 1) (by simp) #[.int .i64 0, .bool nb, .string tb, .int .i64 eb] 23).alloc (.cells #[.int .i64 0, .bool false, .string ⟨#[]⟩, .int .i64 0] 23))
  have Br0 := hide (Blk.newAt ((w.alloc (.cells #[.int .i64 2, .bool false, .string ⟨#[]⟩, .int .i64 0] 23)).alloc (.cells #[.int .i64 0, .bool nb, .string tb, .int .i64 eb] 23)) (w.heap.size + 1 + 1) (by simp) #[.int .i64 0, .bool false, .string ⟨#[]⟩, .int .i64 0] 23)
  have HB0 : Hid (Below w.heap.size w (((w.alloc (.cells #[.int .i64 2, .bool false, .string ⟨#[]⟩, .int .i64 0] 23)).alloc (.cells #[.int .i64 0, .bool nb, .string tb, .int .i64 eb] 23)).alloc (.cells #[.int .i64 0, .bool false, .string ⟨#[]⟩, .int .i64 0] 23))) := ((((Below.refl _ _).alloc (Nat.le_refl _) _).alloc (by simp <;> omega) _).alloc (by simp <;> omega) _)
  go_enter Tryz.func28, Tryz.ntmps28
  go_wp2_with fail
  refine (MA.out _).mono ?_
  rintro e w1 ⟨rfl, hb⟩
  have Ba1 := Blk.on Ba0 hb
  have Bb1 := Blk.on Bb0 hb
  have Br1 := Blk.on Br0 hb
  have HB1 := hide (HB0.out.trans (hb.mono HB0.out.size))
  clear hb Ba0 Bb0 Br0 HB0 
  obtain ⟨ya0, ya1, ya2, ya3⟩ := Ba1.out.four
  obtain ⟨yb0, yb1, yb2, yb3⟩ := Bb1.out.four
  obtain ⟨yr0, yr1, yr2, yr3⟩ := Br1.out.four
  go_wp2_with fail
  refine (MB.out _).mono ?_
  rintro e w2 ⟨rfl, hb⟩
  have Ba2 := Blk.on Ba1 hb
  have Bb2 := Blk.on Bb1 hb
  have Br2 := Blk.on Br1 hb
  have HB2 := hide (HB1.out.trans (hb.mono HB1.out.size))
  clear hb Ba1 Bb1 Br1 HB1 ya0 ya1 ya2 ya3 yb0 yb1 yb2 yb3 yr0 yr1 yr2 yr3
  obtain ⟨ya0, ya1, ya2, ya3⟩ := Ba2.out.four
  obtain ⟨yb0, yb1, yb2, yb3⟩ := Bb2.out.four
  obtain ⟨yr0, yr1, yr2, yr3⟩ := Br2.out.four
  have fr0 := Br2.out.free 0
  have fr1 := Br2.out.free 1
  have fr2 := Br2.out.free 2
  have fr3 := Br2.out.free 3
  go_wp2
  refine bodyPost_ret (results_dec2 rfl _ _ _ _ _ _ _ rfl (Br2.out.put4 _ _ _ _)) rfl ?_
  exact ⟨rfl, below_put4 (HB2.out) (by omega) _ _ _ _⟩

set_option maxRecDepth 100000 in
set_option maxHeartbeats 2000000 in
theorem Add_ni (nb : Bool) (w : World) (ha : MayD  2 false (bys ⟨#[]⟩) ( 0)) (hb0 : MayD  1 nb (bys ⟨#[]⟩) ( 0)) : Calls Tryz.prog 28 #[.agg #[.int .i64 2, .bool false, .string ⟨#[]⟩, .int .i64 0], .agg #[.int .i64 1, .bool nb, .string ⟨#[]⟩, .int .i64 0]] w fun e w' => e = .returned (.tuple #[.agg #[.int .i64 2, .bool false, .string ⟨#[]⟩, .int .i64 0], .int .i64 0]) ∧ Below w.heap.size w w' := by
  have MA := hide (fun W => dmay_yes  2 false ⟨#[]⟩ ( 0) W ha)
  have MB := hide (fun W => dmay_yes  1 nb ⟨#[]⟩ ( 0) W hb0)
  clear ha hb0
  have Ba0 := hide (((Blk.newAt w (w.heap.size) (rfl) #[.int .i64 2, .bool false, .string ⟨#[]⟩, .int .i64 0] 23).alloc (.cells #[.int .i64 1, .bool nb, .string ⟨#[]⟩, .int .i64 0] 23)).alloc (.cells #[.int .i64 0, .bool false, .string ⟨#[]⟩, .int .i64 0] 23))
  have Bb0 := hide ((Blk.newAt (w.alloc (.cells #[.int .i64 2, .bool false, .string ⟨#[]⟩, .int .i64 0] 23)) (w.heap.size + 1) (by simp) #[.int .i64 1, .bool nb, .string ⟨#[]⟩, .int .i64 0] 23).alloc (.cells #[.int .i64 0, .bool false, .string ⟨#[]⟩, .int .i64 0] 23))
  have Br0 := hide (Blk.newAt ((w.alloc (.cells #[.int .i64 2, .bool false, .string ⟨#[]⟩, .int .i64 0] 23)).alloc (.cells #[.int .i64 1, .bool nb, .string ⟨#[]⟩, .int .i64 0] 23)) (w.heap.size + 1 + 1) (by simp) #[.int .i64 0, .bool false, .string ⟨#[]⟩, .int .i64 0] 23)
  have HB0 : Hid (Below w.heap.size w (((w.alloc (.cells #[.int .i64 2, .bool false, .string ⟨#[]⟩, .int .i64 0] 23)).alloc (.cells #[.int .i64 1, .bool nb, .string ⟨#[]⟩, .int .i64 0] 23)).alloc (.cells #[.int .i64 0, .bool false, .string ⟨#[]⟩, .int .i64 0] 23))) := ((((Below.refl _ _).alloc (Nat.le_refl _) _).alloc (by simp <;> omega) _).alloc (by simp <;> omega) _)
  go_enter Tryz.func28, Tryz.ntmps28
  go_wp2_with fail
  refine (MA.out _).mono ?_
  rintro e w1 ⟨rfl, hb⟩
  have Ba1 := Blk.on Ba0 hb
  have Bb1 := Blk.on Bb0 hb
  have Br1 := Blk.on Br0 hb
  have HB1 := hide (HB0.out.trans (hb.mono HB0.out.size))
  clear hb Ba0 Bb0 Br0 HB0 
  obtain ⟨ya0, ya1, ya2, ya3⟩ := Ba1.out.four
  obtain ⟨yb0, yb1, yb2, yb3⟩ := Bb1.out.four
  obtain ⟨yr0, yr1, yr2, yr3⟩ := Br1.out.four
  go_wp2_with fail
  refine (MB.out _).mono ?_
  rintro e w2 ⟨rfl, hb⟩
  have Ba2 := Blk.on Ba1 hb
  have Bb2 := Blk.on Bb1 hb
  have Br2 := Blk.on Br1 hb
  have HB2 := hide (HB1.out.trans (hb.mono HB1.out.size))
  clear hb Ba1 Bb1 Br1 HB1 ya0 ya1 ya2 ya3 yb0 yb1 yb2 yb3 yr0 yr1 yr2 yr3
  obtain ⟨ya0, ya1, ya2, ya3⟩ := Ba2.out.four
  obtain ⟨yb0, yb1, yb2, yb3⟩ := Bb2.out.four
  obtain ⟨yr0, yr1, yr2, yr3⟩ := Br2.out.four
  have fr0 := Br2.out.free 0
  have fr1 := Br2.out.free 1
  have fr2 := Br2.out.free 2
  have fr3 := Br2.out.free 3
  go_wp2
  refine bodyPost_ret (results_dec2 rfl _ _ _ _ _ _ _ rfl (Br2.out.put4 _ _ _ _)) rfl ?_
  exact ⟨rfl, below_put4 (HB2.out) (by omega) _ _ _ _⟩

set_option maxRecDepth 100000 in
set_option maxHeartbeats 2000000 in
theorem Add_nn (w : World) (ha : MayD  2 false (bys ⟨#[]⟩) ( 0)) (hb0 : MayD  2 false (bys ⟨#[]⟩) ( 0)) : Calls Tryz.prog 28 #[.agg #[.int .i64 2, .bool false, .string ⟨#[]⟩, .int .i64 0], .agg #[.int .i64 2, .bool false, .string ⟨#[]⟩, .int .i64 0]] w fun e w' => e = .returned (.tuple #[.agg #[.int .i64 2, .bool false, .string ⟨#[]⟩, .int .i64 0], .int .i64 0]) ∧ Below w.heap.size w w' := by
  have MA := hide (fun W => dmay_yes  2 false ⟨#[]⟩ ( 0) W ha)
  have MB := hide (fun W => dmay_yes  2 false ⟨#[]⟩ ( 0) W hb0)
  clear ha hb0
  have Ba0 := hide (((Blk.newAt w (w.heap.size) (rfl) #[.int .i64 2, .bool false, .string ⟨#[]⟩, .int .i64 0] 23).alloc (.cells #[.int .i64 2, .bool false, .string ⟨#[]⟩, .int .i64 0] 23)).alloc (.cells #[.int .i64 0, .bool false, .string ⟨#[]⟩, .int .i64 0] 23))
  have Bb0 := hide ((Blk.newAt (w.alloc (.cells #[.int .i64 2, .bool false, .string ⟨#[]⟩, .int .i64 0] 23)) (w.heap.size + 1) (by simp) #[.int .i64 2, .bool false, .string ⟨#[]⟩, .int .i64 0] 23).alloc (.cells #[.int .i64 0, .bool false, .string ⟨#[]⟩, .int .i64 0] 23))
  have Br0 := hide (Blk.newAt ((w.alloc (.cells #[.int .i64 2, .bool false, .string ⟨#[]⟩, .int .i64 0] 23)).alloc (.cells #[.int .i64 2, .bool false, .string ⟨#[]⟩, .int .i64 0] 23)) (w.heap.size + 1 + 1) (by simp) #[.int .i64 0, .bool false, .string ⟨#[]⟩, .int .i64 0] 23)
  have HB0 : Hid (Below w.heap.size w (((w.alloc (.cells #[.int .i64 2, .bool false, .string ⟨#[]⟩, .int .i64 0] 23)).alloc (.cells #[.int .i64 2, .bool false, .string ⟨#[]⟩, .int .i64 0] 23)).alloc (.cells #[.int .i64 0, .bool false, .string ⟨#[]⟩, .int .i64 0] 23))) := ((((Below.refl _ _).alloc (Nat.le_refl _) _).alloc (by simp <;> omega) _).alloc (by simp <;> omega) _)
  go_enter Tryz.func28, Tryz.ntmps28
  go_wp2_with fail
  refine (MA.out _).mono ?_
  rintro e w1 ⟨rfl, hb⟩
  have Ba1 := Blk.on Ba0 hb
  have Bb1 := Blk.on Bb0 hb
  have Br1 := Blk.on Br0 hb
  have HB1 := hide (HB0.out.trans (hb.mono HB0.out.size))
  clear hb Ba0 Bb0 Br0 HB0 
  obtain ⟨ya0, ya1, ya2, ya3⟩ := Ba1.out.four
  obtain ⟨yb0, yb1, yb2, yb3⟩ := Bb1.out.four
  obtain ⟨yr0, yr1, yr2, yr3⟩ := Br1.out.four
  go_wp2_with fail
  refine (MB.out _).mono ?_
  rintro e w2 ⟨rfl, hb⟩
  have Ba2 := Blk.on Ba1 hb
  have Bb2 := Blk.on Bb1 hb
  have Br2 := Blk.on Br1 hb
  have HB2 := hide (HB1.out.trans (hb.mono HB1.out.size))
  clear hb Ba1 Bb1 Br1 HB1 ya0 ya1 ya2 ya3 yb0 yb1 yb2 yb3 yr0 yr1 yr2 yr3
  obtain ⟨ya0, ya1, ya2, ya3⟩ := Ba2.out.four
  obtain ⟨yb0, yb1, yb2, yb3⟩ := Bb2.out.four
  obtain ⟨yr0, yr1, yr2, yr3⟩ := Br2.out.four
  have fr0 := Br2.out.free 0
  have fr1 := Br2.out.free 1
  have fr2 := Br2.out.free 2
  have fr3 := Br2.out.free 3
  go_wp2
  refine bodyPost_ret (results_dec2 rfl _ _ _ _ _ _ _ rfl (Br2.out.put4 _ _ _ _)) rfl ?_
  exact ⟨rfl, below_put4 (HB2.out) (by omega) _ _ _ _⟩

set_option maxRecDepth 100000 in
set_option maxHeartbeats 2000000 in
theorem Add_fn (na : Bool) (ta : ByteArray) (ea : Int) (w : World) (ha : MayD  0 na (bys ta) ( ea)) (hb0 : MayD  2 false (bys ⟨#[]⟩) ( 0)) : Calls Tryz.prog 28 #[.agg #[.int .i64 0, .bool na, .string ta, .int .i64 ea], .agg #[.int .i64 2, .bool false, .string ⟨#[]⟩, .int .i64 0]] w fun e w' => e = .returned (.tuple #[.agg #[.int .i64 2, .bool false, .string ⟨#[]⟩, .int .i64 0], .int .i64 0]) ∧ Below w.heap.size w w' := by
  have MA := hide (fun W => dmay_yes  0 na ta ( ea) W ha)
  have MB := hide (fun W => dmay_yes  2 false ⟨#[]⟩ ( 0) W hb0)
  clear ha hb0
  have Ba0 := hide (((Blk.newAt w (w.heap.size) (rfl) #[.int .i64 0, .bool na, .string ta, .int .i64 ea] 23).alloc (.cells #[.int .i64 2, .bool false, .string ⟨#[]⟩, .int .i64 0] 23)).alloc (.cells #[.int .i64 0, .bool false, .string ⟨#[]⟩, .int .i64 0] 23))
  have Bb0 := hide ((Blk.newAt (w.alloc (.cells #[.int .i64 0, .bool na, .string ta, .int .i64 ea] 23)) (w.heap.size + 1) (by simp) #[.int .i64 2, .bool false, .string ⟨#[]⟩, .int .i64 0] 23).alloc (.cells #[.int .i64 0, .bool false, .string ⟨#[]⟩, .int .i64 0] 23))
  have Br0 := hide (Blk.newAt ((w.alloc (.cells #[.int .i64 0, .bool na, .string ta, .int .i64 ea] 23)).alloc (.cells #[.int .i64 2, .bool false, .string ⟨#[]⟩, .int .i64 0] 23)) (w.heap.size + 1 + 1) (by simp) #[.int .i64 0, .bool false, .string ⟨#[]⟩, .int .i64 0] 23)
  have HB0 : Hid (Below w.heap.size w (((w.alloc (.cells #[.int .i64 0, .bool na, .string ta, .int .i64 ea] 23)).alloc (.cells #[.int .i64 2, .bool false, .string ⟨#[]⟩, .int .i64 0] 23)).alloc (.cells #[.int .i64 0, .bool false, .string ⟨#[]⟩, .int .i64 0] 23))) := ((((Below.refl _ _).alloc (Nat.le_refl _) _).alloc (by simp <;> omega) _).alloc (by simp <;> omega) _)
  go_enter Tryz.func28, Tryz.ntmps28
  go_wp2_with fail
  refine (MA.out _).mono ?_
  rintro e w1 ⟨rfl, hb⟩
  have Ba1 := Blk.on Ba0 hb
  have Bb1 := Blk.on Bb0 hb
  have Br1 := Blk.on Br0 hb
  have HB1 := hide (HB0.out.trans (hb.mono HB0.out.size))
  clear hb Ba0 Bb0 Br0 HB0 
  obtain ⟨ya0, ya1, ya2, ya3⟩ := Ba1.out.four
  obtain ⟨yb0, yb1, yb2, yb3⟩ := Bb1.out.four
  obtain ⟨yr0, yr1, yr2, yr3⟩ := Br1.out.four
  go_wp2_with fail
  refine (MB.out _).mono ?_
  rintro e w2 ⟨rfl, hb⟩
  have Ba2 := Blk.on Ba1 hb
  have Bb2 := Blk.on Bb1 hb
  have Br2 := Blk.on Br1 hb
  have HB2 := hide (HB1.out.trans (hb.mono HB1.out.size))
  clear hb Ba1 Bb1 Br1 HB1 ya0 ya1 ya2 ya3 yb0 yb1 yb2 yb3 yr0 yr1 yr2 yr3
  obtain ⟨ya0, ya1, ya2, ya3⟩ := Ba2.out.four
  obtain ⟨yb0, yb1, yb2, yb3⟩ := Bb2.out.four
  obtain ⟨yr0, yr1, yr2, yr3⟩ := Br2.out.four
  have fr0 := Br2.out.free 0
  have fr1 := Br2.out.free 1
  have fr2 := Br2.out.free 2
  have fr3 := Br2.out.free 3
  go_wp2
  refine bodyPost_ret (results_dec2 rfl _ _ _ _ _ _ _ rfl (Br2.out.put4 _ _ _ _)) rfl ?_
  exact ⟨rfl, below_put4 (HB2.out) (by omega) _ _ _ _⟩

set_option maxRecDepth 100000 in
set_option maxHeartbeats 2000000 in
theorem Add_in (na : Bool) (w : World) (ha : MayD  1 na (bys ⟨#[]⟩) ( 0)) (hb0 : MayD  2 false (bys ⟨#[]⟩) ( 0)) : Calls Tryz.prog 28 #[.agg #[.int .i64 1, .bool na, .string ⟨#[]⟩, .int .i64 0], .agg #[.int .i64 2, .bool false, .string ⟨#[]⟩, .int .i64 0]] w fun e w' => e = .returned (.tuple #[.agg #[.int .i64 2, .bool false, .string ⟨#[]⟩, .int .i64 0], .int .i64 0]) ∧ Below w.heap.size w w' := by
  have MA := hide (fun W => dmay_yes  1 na ⟨#[]⟩ ( 0) W ha)
  have MB := hide (fun W => dmay_yes  2 false ⟨#[]⟩ ( 0) W hb0)
  clear ha hb0
  have Ba0 := hide (((Blk.newAt w (w.heap.size) (rfl) #[.int .i64 1, .bool na, .string ⟨#[]⟩, .int .i64 0] 23).alloc (.cells #[.int .i64 2, .bool false, .string ⟨#[]⟩, .int .i64 0] 23)).alloc (.cells #[.int .i64 0, .bool false, .string ⟨#[]⟩, .int .i64 0] 23))
  have Bb0 := hide ((Blk.newAt (w.alloc (.cells #[.int .i64 1, .bool na, .string ⟨#[]⟩, .int .i64 0] 23)) (w.heap.size + 1) (by simp) #[.int .i64 2, .bool false, .string ⟨#[]⟩, .int .i64 0] 23).alloc (.cells #[.int .i64 0, .bool false, .string ⟨#[]⟩, .int .i64 0] 23))
  have Br0 := hide (Blk.newAt ((w.alloc (.cells #[.int .i64 1, .bool na, .string ⟨#[]⟩, .int .i64 0] 23)).alloc (.cells #[.int .i64 2, .bool false, .string ⟨#[]⟩, .int .i64 0] 23)) (w.heap.size + 1 + 1) (by simp) #[.int .i64 0, .bool false, .string ⟨#[]⟩, .int .i64 0] 23)
  have HB0 : Hid (Below w.heap.size w (((w.alloc (.cells #[.int .i64 1, .bool na, .string ⟨#[]⟩, .int .i64 0] 23)).alloc (.cells #[.int .i64 2, .bool false, .string ⟨#[]⟩, .int .i64 0] 23)).alloc (.cells #[.int .i64 0, .bool false, .string ⟨#[]⟩, .int .i64 0] 23))) := ((((Below.refl _ _).alloc (Nat.le_refl _) _).alloc (by simp <;> omega) _).alloc (by simp <;> omega) _)
  go_enter Tryz.func28, Tryz.ntmps28
  go_wp2_with fail
  refine (MA.out _).mono ?_
  rintro e w1 ⟨rfl, hb⟩
  have Ba1 := Blk.on Ba0 hb
  have Bb1 := Blk.on Bb0 hb
  have Br1 := Blk.on Br0 hb
  have HB1 := hide (HB0.out.trans (hb.mono HB0.out.size))
  clear hb Ba0 Bb0 Br0 HB0 
  obtain ⟨ya0, ya1, ya2, ya3⟩ := Ba1.out.four
  obtain ⟨yb0, yb1, yb2, yb3⟩ := Bb1.out.four
  obtain ⟨yr0, yr1, yr2, yr3⟩ := Br1.out.four
  go_wp2_with fail
  refine (MB.out _).mono ?_
  rintro e w2 ⟨rfl, hb⟩
  have Ba2 := Blk.on Ba1 hb
  have Bb2 := Blk.on Bb1 hb
  have Br2 := Blk.on Br1 hb
  have HB2 := hide (HB1.out.trans (hb.mono HB1.out.size))
  clear hb Ba1 Bb1 Br1 HB1 ya0 ya1 ya2 ya3 yb0 yb1 yb2 yb3 yr0 yr1 yr2 yr3
  obtain ⟨ya0, ya1, ya2, ya3⟩ := Ba2.out.four
  obtain ⟨yb0, yb1, yb2, yb3⟩ := Bb2.out.four
  obtain ⟨yr0, yr1, yr2, yr3⟩ := Br2.out.four
  have fr0 := Br2.out.free 0
  have fr1 := Br2.out.free 1
  have fr2 := Br2.out.free 2
  have fr3 := Br2.out.free 3
  go_wp2
  refine bodyPost_ret (results_dec2 rfl _ _ _ _ _ _ _ rfl (Br2.out.put4 _ _ _ _)) rfl ?_
  exact ⟨rfl, below_put4 (HB2.out) (by omega) _ _ _ _⟩

set_option maxRecDepth 100000 in
set_option maxHeartbeats 2000000 in
theorem Add_if (na : Bool) (nb : Bool) (tb : ByteArray) (eb : Int) (w : World) (ha : MayD  1 na (bys ⟨#[]⟩) ( 0)) (hb0 : MayD  0 nb (bys tb) ( eb)) : Calls Tryz.prog 28 #[.agg #[.int .i64 1, .bool na, .string ⟨#[]⟩, .int .i64 0], .agg #[.int .i64 0, .bool nb, .string tb, .int .i64 eb]] w fun e w' => e = .returned (.tuple #[.agg #[.int .i64 1, .bool na, .string ⟨#[]⟩, .int .i64 0], .int .i64 0]) ∧ Below w.heap.size w w' := by
  have MA := hide (fun W => dmay_yes  1 na ⟨#[]⟩ ( 0) W ha)
  have MB := hide (fun W => dmay_yes  0 nb tb ( eb) W hb0)
  clear ha hb0
  have Ba0 := hide (((Blk.newAt w (w.heap.size) (rfl) #[.int .i64 1, .bool na, .string ⟨#[]⟩, .int .i64 0] 23).alloc (.cells #[.int .i64 0, .bool nb, .string tb, .int .i64 eb] 23)).alloc (.cells #[.int .i64 0, .bool false, .string ⟨#[]⟩, .int .i64 0] 23))
  have Bb0 := hide ((Blk.newAt (w.alloc (.cells #[.int .i64 1, .bool na, .string ⟨#[]⟩, .int .i64 0] 23)) (w.heap.size + 1) (by simp) #[.int .i64 0, .bool nb, .string tb, .int .i64 eb] 23).alloc (.cells #[.int .i64 0, .bool false, .string ⟨#[]⟩, .int .i64 0] 23))
  have Br0 := hide (Blk.newAt ((w.alloc (.cells #[.int .i64 1, .bool na, .string ⟨#[]⟩, .int .i64 0] 23)).alloc (.cells #[.int .i64 0, .bool nb, .string tb, .int .i64 eb] 23)) (w.heap.size + 1 + 1) (by simp) #[.int .i64 0, .bool false, .string ⟨#[]⟩, .int .i64 0] 23)
  have HB0 : Hid (Below w.heap.size w (((w.alloc (.cells #[.int .i64 1, .bool na, .string ⟨#[]⟩, .int .i64 0] 23)).alloc (.cells #[.int .i64 0, .bool nb, .string tb, .int .i64 eb] 23)).alloc (.cells #[.int .i64 0, .bool false, .string ⟨#[]⟩, .int .i64 0] 23))) := ((((Below.refl _ _).alloc (Nat.le_refl _) _).alloc (by simp <;> omega) _).alloc (by simp <;> omega) _)
  go_enter Tryz.func28, Tryz.ntmps28
  go_wp2_with fail
  refine (MA.out _).mono ?_
  rintro e w1 ⟨rfl, hb⟩
  have Ba1 := Blk.on Ba0 hb
  have Bb1 := Blk.on Bb0 hb
  have Br1 := Blk.on Br0 hb
  have HB1 := hide (HB0.out.trans (hb.mono HB0.out.size))
  clear hb Ba0 Bb0 Br0 HB0 
  obtain ⟨ya0, ya1, ya2, ya3⟩ := Ba1.out.four
  obtain ⟨yb0, yb1, yb2, yb3⟩ := Bb1.out.four
  obtain ⟨yr0, yr1, yr2, yr3⟩ := Br1.out.four
  go_wp2_with fail
  refine (MB.out _).mono ?_
  rintro e w2 ⟨rfl, hb⟩
  have Ba2 := Blk.on Ba1 hb
  have Bb2 := Blk.on Bb1 hb
  have Br2 := Blk.on Br1 hb
  have HB2 := hide (HB1.out.trans (hb.mono HB1.out.size))
  clear hb Ba1 Bb1 Br1 HB1 ya0 ya1 ya2 ya3 yb0 yb1 yb2 yb3 yr0 yr1 yr2 yr3
  obtain ⟨ya0, ya1, ya2, ya3⟩ := Ba2.out.four
  obtain ⟨yb0, yb1, yb2, yb3⟩ := Bb2.out.four
  obtain ⟨yr0, yr1, yr2, yr3⟩ := Br2.out.four
  have fr0 := Br2.out.free 0
  have fr1 := Br2.out.free 1
  have fr2 := Br2.out.free 2
  have fr3 := Br2.out.free 3
  go_wp2
  refine bodyPost_ret (results_dec2 rfl _ _ _ _ _ _ _ rfl (Br2.out.put4 _ _ _ _)) rfl ?_
  exact ⟨rfl, below_put4 (HB2.out) (by omega) _ _ _ _⟩

set_option maxRecDepth 100000 in
set_option maxHeartbeats 2000000 in
theorem Add_fi (na : Bool) (ta : ByteArray) (ea : Int) (nb : Bool) (w : World) (ha : MayD  0 na (bys ta) ( ea)) (hb0 : MayD  1 nb (bys ⟨#[]⟩) ( 0)) : Calls Tryz.prog 28 #[.agg #[.int .i64 0, .bool na, .string ta, .int .i64 ea], .agg #[.int .i64 1, .bool nb, .string ⟨#[]⟩, .int .i64 0]] w fun e w' => e = .returned (.tuple #[.agg #[.int .i64 1, .bool nb, .string ⟨#[]⟩, .int .i64 0], .int .i64 0]) ∧ Below w.heap.size w w' := by
  have MA := hide (fun W => dmay_yes  0 na ta ( ea) W ha)
  have MB := hide (fun W => dmay_yes  1 nb ⟨#[]⟩ ( 0) W hb0)
  clear ha hb0
  have Ba0 := hide (((Blk.newAt w (w.heap.size) (rfl) #[.int .i64 0, .bool na, .string ta, .int .i64 ea] 23).alloc (.cells #[.int .i64 1, .bool nb, .string ⟨#[]⟩, .int .i64 0] 23)).alloc (.cells #[.int .i64 0, .bool false, .string ⟨#[]⟩, .int .i64 0] 23))
  have Bb0 := hide ((Blk.newAt (w.alloc (.cells #[.int .i64 0, .bool na, .string ta, .int .i64 ea] 23)) (w.heap.size + 1) (by simp) #[.int .i64 1, .bool nb, .string ⟨#[]⟩, .int .i64 0] 23).alloc (.cells #[.int .i64 0, .bool false, .string ⟨#[]⟩, .int .i64 0] 23))
  have Br0 := hide (Blk.newAt ((w.alloc (.cells #[.int .i64 0, .bool na, .string ta, .int .i64 ea] 23)).alloc (.cells #[.int .i64 1, .bool nb, .string ⟨#[]⟩, .int .i64 0] 23)) (w.heap.size + 1 + 1) (by simp) #[.int .i64 0, .bool false, .string ⟨#[]⟩, .int .i64 0] 23)
  have HB0 : Hid (Below w.heap.size w (((w.alloc (.cells #[.int .i64 0, .bool na, .string ta, .int .i64 ea] 23)).alloc (.cells #[.int .i64 1, .bool nb, .string ⟨#[]⟩, .int .i64 0] 23)).alloc (.cells #[.int .i64 0, .bool false, .string ⟨#[]⟩, .int .i64 0] 23))) := ((((Below.refl _ _).alloc (Nat.le_refl _) _).alloc (by simp <;> omega) _).alloc (by simp <;> omega) _)
  go_enter Tryz.func28, Tryz.ntmps28
  go_wp2_with fail
  refine (MA.out _).mono ?_
  rintro e w1 ⟨rfl, hb⟩
  have Ba1 := Blk.on Ba0 hb
  have Bb1 := Blk.on Bb0 hb
  have Br1 := Blk.on Br0 hb
  have HB1 := hide (HB0.out.trans (hb.mono HB0.out.size))
  clear hb Ba0 Bb0 Br0 HB0 
  obtain ⟨ya0, ya1, ya2, ya3⟩ := Ba1.out.four
  obtain ⟨yb0, yb1, yb2, yb3⟩ := Bb1.out.four
  obtain ⟨yr0, yr1, yr2, yr3⟩ := Br1.out.four
  go_wp2_with fail
  refine (MB.out _).mono ?_
  rintro e w2 ⟨rfl, hb⟩
  have Ba2 := Blk.on Ba1 hb
  have Bb2 := Blk.on Bb1 hb
  have Br2 := Blk.on Br1 hb
  have HB2 := hide (HB1.out.trans (hb.mono HB1.out.size))
  clear hb Ba1 Bb1 Br1 HB1 ya0 ya1 ya2 ya3 yb0 yb1 yb2 yb3 yr0 yr1 yr2 yr3
  obtain ⟨ya0, ya1, ya2, ya3⟩ := Ba2.out.four
  obtain ⟨yb0, yb1, yb2, yb3⟩ := Bb2.out.four
  obtain ⟨yr0, yr1, yr2, yr3⟩ := Br2.out.four
  have fr0 := Br2.out.free 0
  have fr1 := Br2.out.free 1
  have fr2 := Br2.out.free 2
  have fr3 := Br2.out.free 3
  go_wp2
  refine bodyPost_ret (results_dec2 rfl _ _ _ _ _ _ _ rfl (Br2.out.put4 _ _ _ _)) rfl ?_
  exact ⟨rfl, below_put4 (HB2.out) (by omega) _ _ _ _⟩

set_option maxRecDepth 100000 in
set_option maxHeartbeats 2000000 in
theorem Add_ii_true_true (w : World) (ha : MayD  1 true (bys ⟨#[]⟩) ( 0)) (hb0 : MayD  1 true (bys ⟨#[]⟩) ( 0)) : Calls Tryz.prog 28 #[.agg #[.int .i64 1, .bool true, .string ⟨#[]⟩, .int .i64 0], .agg #[.int .i64 1, .bool true, .string ⟨#[]⟩, .int .i64 0]] w fun e w' => e = .returned (.tuple #[.agg #[.int .i64 1, .bool true, .string ⟨#[]⟩, .int .i64 0], .int .i64 0]) ∧ Below w.heap.size w w' := by
  have MA := hide (fun W => dmay_yes  1 true ⟨#[]⟩ ( 0) W ha)
  have MB := hide (fun W => dmay_yes  1 true ⟨#[]⟩ ( 0) W hb0)
  clear ha hb0
  have Ba0 := hide (((Blk.newAt w (w.heap.size) (rfl) #[.int .i64 1, .bool true, .string ⟨#[]⟩, .int .i64 0] 23).alloc (.cells #[.int .i64 1, .bool true, .string ⟨#[]⟩, .int .i64 0] 23)).alloc (.cells #[.int .i64 0, .bool false, .string ⟨#[]⟩, .int .i64 0] 23))
  have Bb0 := hide ((Blk.newAt (w.alloc (.cells #[.int .i64 1, .bool true, .string ⟨#[]⟩, .int .i64 0] 23)) (w.heap.size + 1) (by simp) #[.int .i64 1, .bool true, .string ⟨#[]⟩, .int .i64 0] 23).alloc (.cells #[.int .i64 0, .bool false, .string ⟨#[]⟩, .int .i64 0] 23))
  have Br0 := hide (Blk.newAt ((w.alloc (.cells #[.int .i64 1, .bool true, .string ⟨#[]⟩, .int .i64 0] 23)).alloc (.cells #[.int .i64 1, .bool true, .string ⟨#[]⟩, .int .i64 0] 23)) (w.heap.size + 1 + 1) (by simp) #[.int .i64 0, .bool false, .string ⟨#[]⟩, .int .i64 0] 23)
  have HB0 : Hid (Below w.heap.size w (((w.alloc (.cells #[.int .i64 1, .bool true, .string ⟨#[]⟩, .int .i64 0] 23)).alloc (.cells #[.int .i64 1, .bool true, .string ⟨#[]⟩, .int .i64 0] 23)).alloc (.cells #[.int .i64 0, .bool false, .string ⟨#[]⟩, .int .i64 0] 23))) := ((((Below.refl _ _).alloc (Nat.le_refl _) _).alloc (by simp <;> omega) _).alloc (by simp <;> omega) _)
  go_enter Tryz.func28, Tryz.ntmps28
  go_wp2_with fail
  refine (MA.out _).mono ?_
  rintro e w1 ⟨rfl, hb⟩
  have Ba1 := Blk.on Ba0 hb
  have Bb1 := Blk.on Bb0 hb
  have Br1 := Blk.on Br0 hb
  have HB1 := hide (HB0.out.trans (hb.mono HB0.out.size))
  clear hb Ba0 Bb0 Br0 HB0 
  obtain ⟨ya0, ya1, ya2, ya3⟩ := Ba1.out.four
  obtain ⟨yb0, yb1, yb2, yb3⟩ := Bb1.out.four
  obtain ⟨yr0, yr1, yr2, yr3⟩ := Br1.out.four
  go_wp2_with fail
  refine (MB.out _).mono ?_
  rintro e w2 ⟨rfl, hb⟩
  have Ba2 := Blk.on Ba1 hb
  have Bb2 := Blk.on Bb1 hb
  have Br2 := Blk.on Br1 hb
  have HB2 := hide (HB1.out.trans (hb.mono HB1.out.size))
  clear hb Ba1 Bb1 Br1 HB1 ya0 ya1 ya2 ya3 yb0 yb1 yb2 yb3 yr0 yr1 yr2 yr3
  obtain ⟨ya0, ya1, ya2, ya3⟩ := Ba2.out.four
  obtain ⟨yb0, yb1, yb2, yb3⟩ := Bb2.out.four
  obtain ⟨yr0, yr1, yr2, yr3⟩ := Br2.out.four
  have fr0 := Br2.out.free 0
  have fr1 := Br2.out.free 1
  have fr2 := Br2.out.free 2
  have fr3 := Br2.out.free 3
  go_wp2
  refine bodyPost_ret (results_dec2 rfl _ _ _ _ _ _ _ rfl (Br2.out.put4 _ _ _ _)) rfl ?_
  exact ⟨rfl, below_put4 (HB2.out) (by omega) _ _ _ _⟩

set_option maxRecDepth 100000 in
set_option maxHeartbeats 2000000 in
theorem Add_ii_true_false (w : World) (ha : MayD  1 true (bys ⟨#[]⟩) ( 0)) (hb0 : MayD  1 false (bys ⟨#[]⟩) ( 0)) : Calls Tryz.prog 28 #[.agg #[.int .i64 1, .bool true, .string ⟨#[]⟩, .int .i64 0], .agg #[.int .i64 1, .bool false, .string ⟨#[]⟩, .int .i64 0]] w fun e w' => e = .returned (.tuple #[.agg #[.int .i64 2, .bool false, .string ⟨#[]⟩, .int .i64 0], .int .i64 0]) ∧ Below w.heap.size w w' := by
  have MA := hide (fun W => dmay_yes  1 true ⟨#[]⟩ ( 0) W ha)
  have MB := hide (fun W => dmay_yes  1 false ⟨#[]⟩ ( 0) W hb0)
  clear ha hb0
  have Ba0 := hide (((Blk.newAt w (w.heap.size) (rfl) #[.int .i64 1, .bool true, .string ⟨#[]⟩, .int .i64 0] 23).alloc (.cells #[.int .i64 1, .bool false, .string ⟨#[]⟩, .int .i64 0] 23)).alloc (.cells #[.int .i64 0, .bool false, .string ⟨#[]⟩, .int .i64 0] 23))
  have Bb0 := hide ((Blk.newAt (w.alloc (.cells #[.int .i64 1, .bool true, .string ⟨#[]⟩, .int .i64 0] 23)) (w.heap.size + 1) (by simp) #[.int .i64 1, .bool false, .string ⟨#[]⟩, .int .i64 0] 23).alloc (.cells #[.int .i64 0, .bool false, .string ⟨#[]⟩, .int .i64 0] 23))
  have Br0 := hide (Blk.newAt ((w.alloc (.cells #[.int .i64 1, .bool true, .string ⟨#[]⟩, .int .i64 0] 23)).alloc (.cells #[.int .i64 1, .bool false, .string ⟨#[]⟩, .int .i64 0] 23)) (w.heap.size + 1 + 1) (by simp) #[.int .i64 0, .bool false, .string ⟨#[]⟩, .int .i64 0] 23)
  have HB0 : Hid (Below w.heap.size w (((w.alloc (.cells #[.int .i64 1, .bool true, .string ⟨#[]⟩, .int .i64 0] 23)).alloc (.cells #[.int .i64 1, .bool false, .string ⟨#[]⟩, .int .i64 0] 23)).alloc (.cells #[.int .i64 0, .bool false, .string ⟨#[]⟩, .int .i64 0] 23))) := ((((Below.refl _ _).alloc (Nat.le_refl _) _).alloc (by simp <;> omega) _).alloc (by simp <;> omega) _)
  go_enter Tryz.func28, Tryz.ntmps28
  go_wp2_with fail
  refine (MA.out _).mono ?_
  rintro e w1 ⟨rfl, hb⟩
  have Ba1 := Blk.on Ba0 hb
  have Bb1 := Blk.on Bb0 hb
  have Br1 := Blk.on Br0 hb
  have HB1 := hide (HB0.out.trans (hb.mono HB0.out.size))
  clear hb Ba0 Bb0 Br0 HB0 
  obtain ⟨ya0, ya1, ya2, ya3⟩ := Ba1.out.four
  obtain ⟨yb0, yb1, yb2, yb3⟩ := Bb1.out.four
  obtain ⟨yr0, yr1, yr2, yr3⟩ := Br1.out.four
  go_wp2_with fail
  refine (MB.out _).mono ?_
  rintro e w2 ⟨rfl, hb⟩
  have Ba2 := Blk.on Ba1 hb
  have Bb2 := Blk.on Bb1 hb
  have Br2 := Blk.on Br1 hb
  have HB2 := hide (HB1.out.trans (hb.mono HB1.out.size))
  clear hb Ba1 Bb1 Br1 HB1 ya0 ya1 ya2 ya3 yb0 yb1 yb2 yb3 yr0 yr1 yr2 yr3
  obtain ⟨ya0, ya1, ya2, ya3⟩ := Ba2.out.four
  obtain ⟨yb0, yb1, yb2, yb3⟩ := Bb2.out.four
  obtain ⟨yr0, yr1, yr2, yr3⟩ := Br2.out.four
  have fr0 := Br2.out.free 0
  have fr1 := Br2.out.free 1
  have fr2 := Br2.out.free 2
  have fr3 := Br2.out.free 3
  go_wp2
  refine bodyPost_ret (results_dec2 rfl _ _ _ _ _ _ _ rfl (Br2.out.put4 _ _ _ _)) rfl ?_
  exact ⟨rfl, below_put4 (HB2.out) (by omega) _ _ _ _⟩

set_option maxRecDepth 100000 in
set_option maxHeartbeats 2000000 in
theorem Add_ii_false_true (w : World) (ha : MayD  1 false (bys ⟨#[]⟩) ( 0)) (hb0 : MayD  1 true (bys ⟨#[]⟩) ( 0)) : Calls Tryz.prog 28 #[.agg #[.int .i64 1, .bool false, .string ⟨#[]⟩, .int .i64 0], .agg #[.int .i64 1, .bool true, .string ⟨#[]⟩, .int .i64 0]] w fun e w' => e = .returned (.tuple #[.agg #[.int .i64 2, .bool false, .string ⟨#[]⟩, .int .i64 0], .int .i64 0]) ∧ Below w.heap.size w w' := by
  have MA := hide (fun W => dmay_yes  1 false ⟨#[]⟩ ( 0) W ha)
  have MB := hide (fun W => dmay_yes  1 true ⟨#[]⟩ ( 0) W hb0)
  clear ha hb0
  have Ba0 := hide (((Blk.newAt w (w.heap.size) (rfl) #[.int .i64 1, .bool false, .string ⟨#[]⟩, .int .i64 0] 23).alloc (.cells #[.int .i64 1, .bool true, .string ⟨#[]⟩, .int .i64 0] 23)).alloc (.cells #[.int .i64 0, .bool false, .string ⟨#[]⟩, .int .i64 0] 23))
  have Bb0 := hide ((Blk.newAt (w.alloc (.cells #[.int .i64 1, .bool false, .string ⟨#[]⟩, .int .i64 0] 23)) (w.heap.size + 1) (by simp) #[.int .i64 1, .bool true, .string ⟨#[]⟩, .int .i64 0] 23).alloc (.cells #[.int .i64 0, .bool false, .string ⟨#[]⟩, .int .i64 0] 23))
  have Br0 := hide (Blk.newAt ((w.alloc (.cells #[.int .i64 1, .bool false, .string ⟨#[]⟩, .int .i64 0] 23)).alloc (.cells #[.int .i64 1, .bool true, .string ⟨#[]⟩, .int .i64 0] 23)) (w.heap.size + 1 + 1) (by simp) #[.int .i64 0, .bool false, .string ⟨#[]⟩, .int .i64 0] 23)
  have HB0 : Hid (Below w.heap.size w (((w.alloc (.cells #[.int .i64 1, .bool false, .string ⟨#[]⟩, .int .i64 0] 23)).alloc (.cells #[.int .i64 1, .bool true, .string ⟨#[]⟩, .int .i64 0] 23)).alloc (.cells #[.int .i64 0, .bool false, .string ⟨#[]⟩, .int .i64 0] 23))) := ((((Below.refl _ _).alloc (Nat.le_refl _) _).alloc (by simp <;> omega) _).alloc (by simp <;> omega) _)
  go_enter Tryz.func28, Tryz.ntmps28
  go_wp2_with fail
  refine (MA.out _).mono ?_
  rintro e w1 ⟨rfl, hb⟩
  have Ba1 := Blk.on Ba0 hb
  have Bb1 := Blk.on Bb0 hb
  have Br1 := Blk.on Br0 hb
  have HB1 := hide (HB0.out.trans (hb.mono HB0.out.size))
  clear hb Ba0 Bb0 Br0 HB0 
  obtain ⟨ya0, ya1, ya2, ya3⟩ := Ba1.out.four
  obtain ⟨yb0, yb1, yb2, yb3⟩ := Bb1.out.four
  obtain ⟨yr0, yr1, yr2, yr3⟩ := Br1.out.four
  go_wp2_with fail
  refine (MB.out _).mono ?_
  rintro e w2 ⟨rfl, hb⟩
  have Ba2 := Blk.on Ba1 hb
  have Bb2 := Blk.on Bb1 hb
  have Br2 := Blk.on Br1 hb
  have HB2 := hide (HB1.out.trans (hb.mono HB1.out.size))
  clear hb Ba1 Bb1 Br1 HB1 ya0 ya1 ya2 ya3 yb0 yb1 yb2 yb3 yr0 yr1 yr2 yr3
  obtain ⟨ya0, ya1, ya2, ya3⟩ := Ba2.out.four
  obtain ⟨yb0, yb1, yb2, yb3⟩ := Bb2.out.four
  obtain ⟨yr0, yr1, yr2, yr3⟩ := Br2.out.four
  have fr0 := Br2.out.free 0
  have fr1 := Br2.out.free 1
  have fr2 := Br2.out.free 2
  have fr3 := Br2.out.free 3
  go_wp2
  refine bodyPost_ret (results_dec2 rfl _ _ _ _ _ _ _ rfl (Br2.out.put4 _ _ _ _)) rfl ?_
  exact ⟨rfl, below_put4 (HB2.out) (by omega) _ _ _ _⟩

set_option maxRecDepth 100000 in
set_option maxHeartbeats 2000000 in
theorem Add_ii_false_false (w : World) (ha : MayD  1 false (bys ⟨#[]⟩) ( 0)) (hb0 : MayD  1 false (bys ⟨#[]⟩) ( 0)) : Calls Tryz.prog 28 #[.agg #[.int .i64 1, .bool false, .string ⟨#[]⟩, .int .i64 0], .agg #[.int .i64 1, .bool false, .string ⟨#[]⟩, .int .i64 0]] w fun e w' => e = .returned (.tuple #[.agg #[.int .i64 1, .bool false, .string ⟨#[]⟩, .int .i64 0], .int .i64 0]) ∧ Below w.heap.size w w' := by
  have MA := hide (fun W => dmay_yes  1 false ⟨#[]⟩ ( 0) W ha)
  have MB := hide (fun W => dmay_yes  1 false ⟨#[]⟩ ( 0) W hb0)
  clear ha hb0
  have Ba0 := hide (((Blk.newAt w (w.heap.size) (rfl) #[.int .i64 1, .bool false, .string ⟨#[]⟩, .int .i64 0] 23).alloc (.cells #[.int .i64 1, .bool false, .string ⟨#[]⟩, .int .i64 0] 23)).alloc (.cells #[.int .i64 0, .bool false, .string ⟨#[]⟩, .int .i64 0] 23))
  have Bb0 := hide ((Blk.newAt (w.alloc (.cells #[.int .i64 1, .bool false, .string ⟨#[]⟩, .int .i64 0] 23)) (w.heap.size + 1) (by simp) #[.int .i64 1, .bool false, .string ⟨#[]⟩, .int .i64 0] 23).alloc (.cells #[.int .i64 0, .bool false, .string ⟨#[]⟩, .int .i64 0] 23))
  have Br0 := hide (Blk.newAt ((w.alloc (.cells #[.int .i64 1, .bool false, .string ⟨#[]⟩, .int .i64 0] 23)).alloc (.cells #[.int .i64 1, .bool false, .string ⟨#[]⟩, .int .i64 0] 23)) (w.heap.size + 1 + 1) (by simp) #[.int .i64 0, .bool false, .string ⟨#[]⟩, .int .i64 0] 23)
  have HB0 : Hid (Below w.heap.size w (((w.alloc (.cells #[.int .i64 1, .bool false, .string ⟨#[]⟩, .int .i64 0] 23)).alloc (.cells #[.int .i64 1, .bool false, .string ⟨#[]⟩, .int .i64 0] 23)).alloc (.cells #[.int .i64 0, .bool false, .string ⟨#[]⟩, .int .i64 0] 23))) := ((((Below.refl _ _).alloc (Nat.le_refl _) _).alloc (by simp <;> omega) _).alloc (by simp <;> omega) _)
  go_enter Tryz.func28, Tryz.ntmps28
  go_wp2_with fail
  refine (MA.out _).mono ?_
  rintro e w1 ⟨rfl, hb⟩
  have Ba1 := Blk.on Ba0 hb
  have Bb1 := Blk.on Bb0 hb
  have Br1 := Blk.on Br0 hb
  have HB1 := hide (HB0.out.trans (hb.mono HB0.out.size))
  clear hb Ba0 Bb0 Br0 HB0 
  obtain ⟨ya0, ya1, ya2, ya3⟩ := Ba1.out.four
  obtain ⟨yb0, yb1, yb2, yb3⟩ := Bb1.out.four
  obtain ⟨yr0, yr1, yr2, yr3⟩ := Br1.out.four
  go_wp2_with fail
  refine (MB.out _).mono ?_
  rintro e w2 ⟨rfl, hb⟩
  have Ba2 := Blk.on Ba1 hb
  have Bb2 := Blk.on Bb1 hb
  have Br2 := Blk.on Br1 hb
  have HB2 := hide (HB1.out.trans (hb.mono HB1.out.size))
  clear hb Ba1 Bb1 Br1 HB1 ya0 ya1 ya2 ya3 yb0 yb1 yb2 yb3 yr0 yr1 yr2 yr3
  obtain ⟨ya0, ya1, ya2, ya3⟩ := Ba2.out.four
  obtain ⟨yb0, yb1, yb2, yb3⟩ := Bb2.out.four
  obtain ⟨yr0, yr1, yr2, yr3⟩ := Br2.out.four
  have fr0 := Br2.out.free 0
  have fr1 := Br2.out.free 1
  have fr2 := Br2.out.free 2
  have fr3 := Br2.out.free 3
  go_wp2
  refine bodyPost_ret (results_dec2 rfl _ _ _ _ _ _ _ rfl (Br2.out.put4 _ _ _ _)) rfl ?_
  exact ⟨rfl, below_put4 (HB2.out) (by omega) _ _ _ _⟩

end Go.Proofs.YtafljhfamjabeaaGreatDoor

namespace Go.Proofs.YtafljhfamjabeaaGreatDoor
open Go.RowKit

set_option maxRecDepth 100000 in
set_option maxHeartbeats 2000000 in
theorem Mul_no1 (ca : Int) (na : Bool) (ta : ByteArray) (ea : Int) (cb : Int) (nb : Bool) (tb : ByteArray) (eb : Int) (w : World) (ha : ¬ MayD  ca na (bys ta) ( ea)) : Calls Tryz.prog 30 #[.agg #[.int .i64 ca, .bool na, .string ta, .int .i64 ea], .agg #[.int .i64 cb, .bool nb, .string tb, .int .i64 eb]] w fun e w' => e = .returned (.tuple #[dcV 0 false ⟨#[]⟩ 0, .int .i64 52]) ∧ Below w.heap.size w w' := by
  have MA := hide (fun W => dmay_no  ca na ta ( ea) W ha)
  clear ha
  have Ba0 := hide (((Blk.newAt w (w.heap.size) (rfl) #[.int .i64 ca, .bool na, .string ta, .int .i64 ea] 23).alloc (.cells #[.int .i64 cb, .bool nb, .string tb, .int .i64 eb] 23)).alloc (.cells #[.int .i64 0, .bool false, .string ⟨#[]⟩, .int .i64 0] 23))
  have Bb0 := hide ((Blk.newAt (w.alloc (.cells #[.int .i64 ca, .bool na, .string ta, .int .i64 ea] 23)) (w.heap.size + 1) (by simp) #[.int .i64 cb, .bool nb, .string tb, .int .i64 eb] 23).alloc (.cells #[.int .i64 0, .bool false, .string ⟨#[]⟩, .int .i64 0] 23))
  have Br0 := hide (Blk.newAt ((w.alloc (.cells #[.int .i64 ca, .bool na, .string ta, .int .i64 ea] 23)).alloc (.cells #[.int .i64 cb, .bool nb, .string tb, .int .i64 eb] 23)) (w.heap.size + 1 + 1) (by simp) #[.int .i64 0, .bool false, .string ⟨#[]⟩, .int .i64 0] 23)
  have HB0 : Hid (Below w.heap.size w (((w.alloc (.cells #[.int .i64 ca, .bool na, .string ta, .int .i64 ea] 23)).alloc (.cells #[.int .i64 cb, .bool nb, .string tb, .int .i64 eb] 23)).alloc (.cells #[.int .i64 0, .bool false, .string ⟨#[]⟩, .int .i64 0] 23))) := ((((Below.refl _ _).alloc (Nat.le_refl _) _).alloc (by simp <;> omega) _).alloc (by simp <;> omega) _)
  go_enter Tryz.func30, Tryz.ntmps30
  go_wp2_with fail
  refine (MA.out _).mono ?_
  rintro e w1 ⟨rfl, hb⟩
  have Ba1 := Blk.on Ba0 hb
  have Bb1 := Blk.on Bb0 hb
  have Br1 := Blk.on Br0 hb
  have HB1 := hide (HB0.out.trans (hb.mono HB0.out.size))
  clear hb Ba0 Bb0 Br0 HB0 
  obtain ⟨ya0, ya1, ya2, ya3⟩ := Ba1.out.four
  obtain ⟨yb0, yb1, yb2, yb3⟩ := Bb1.out.four
  obtain ⟨yr0, yr1, yr2, yr3⟩ := Br1.out.four
  have fr0 := Br1.out.free 0
  have fr1 := Br1.out.free 1
  have fr2 := Br1.out.free 2
  have fr3 := Br1.out.free 3
  go_wp2
  refine bodyPost_ret (results_dec2 rfl _ _ _ _ _ _ _ rfl (Br1.out.put4 _ _ _ _)) rfl ?_
  exact ⟨rfl, below_put4 (HB1.out) (by omega) _ _ _ _⟩

set_option maxRecDepth 100000 in
set_option maxHeartbeats 2000000 in
theorem Mul_no2 (ca : Int) (na : Bool) (ta : ByteArray) (ea : Int) (cb : Int) (nb : Bool) (tb : ByteArray) (eb : Int) (w : World) (ha : MayD  ca na (bys ta) ( ea)) (hb0 : ¬ MayD  cb nb (bys tb) ( eb)) : Calls Tryz.prog 30 #[.agg #[.int .i64 ca, .bool na, .string ta, .int .i64 ea], .agg #[.int .i64 cb, .bool nb, .string tb, .int .i64 eb]] w fun e w' => e = .returned (.tuple #[dcV 0 false ⟨#[]⟩ 0, .int .i64 52]) ∧ Below w.heap.size w w' := by
  have MA := hide (fun W => dmay_yes  ca na ta ( ea) W ha)
  have MB := hide (fun W => dmay_no  cb nb tb ( eb) W hb0)
  clear ha hb0
  have Ba0 := hide (((Blk.newAt w (w.heap.size) (rfl) #[.int .i64 ca, .bool na, .string ta, .int .i64 ea] 23).alloc (.cells #[.int .i64 cb, .bool nb, .string tb, .int .i64 eb] 23)).alloc (.cells #[.int .i64 0, .bool false, .string ⟨#[]⟩, .int .i64 0] 23))
  have Bb0 := hide ((Blk.newAt (w.alloc (.cells #[.int .i64 ca, .bool na, .string ta, .int .i64 ea] 23)) (w.heap.size + 1) (by simp) #[.int .i64 cb, .bool nb, .string tb, .int .i64 eb] 23).alloc (.cells #[.int .i64 0, .bool false, .string ⟨#[]⟩, .int .i64 0] 23))
  have Br0 := hide (Blk.newAt ((w.alloc (.cells #[.int .i64 ca, .bool na, .string ta, .int .i64 ea] 23)).alloc (.cells #[.int .i64 cb, .bool nb, .string tb, .int .i64 eb] 23)) (w.heap.size + 1 + 1) (by simp) #[.int .i64 0, .bool false, .string ⟨#[]⟩, .int .i64 0] 23)
  have HB0 : Hid (Below w.heap.size w (((w.alloc (.cells #[.int .i64 ca, .bool na, .string ta, .int .i64 ea] 23)).alloc (.cells #[.int .i64 cb, .bool nb, .string tb, .int .i64 eb] 23)).alloc (.cells #[.int .i64 0, .bool false, .string ⟨#[]⟩, .int .i64 0] 23))) := ((((Below.refl _ _).alloc (Nat.le_refl _) _).alloc (by simp <;> omega) _).alloc (by simp <;> omega) _)
  go_enter Tryz.func30, Tryz.ntmps30
  go_wp2_with fail
  refine (MA.out _).mono ?_
  rintro e w1 ⟨rfl, hb⟩
  have Ba1 := Blk.on Ba0 hb
  have Bb1 := Blk.on Bb0 hb
  have Br1 := Blk.on Br0 hb
  have HB1 := hide (HB0.out.trans (hb.mono HB0.out.size))
  clear hb Ba0 Bb0 Br0 HB0 
  obtain ⟨ya0, ya1, ya2, ya3⟩ := Ba1.out.four
  obtain ⟨yb0, yb1, yb2, yb3⟩ := Bb1.out.four
  obtain ⟨yr0, yr1, yr2, yr3⟩ := Br1.out.four
  go_wp2_with fail
  refine (MB.out _).mono ?_
  rintro e w2 ⟨rfl, hb⟩
  have Ba2 := Blk.on Ba1 hb
  have Bb2 := Blk.on Bb1 hb
  have Br2 := Blk.on Br1 hb
  have HB2 := hide (HB1.out.trans (hb.mono HB1.out.size))
  clear hb Ba1 Bb1 Br1 HB1 ya0 ya1 ya2 ya3 yb0 yb1 yb2 yb3 yr0 yr1 yr2 yr3
  obtain ⟨ya0, ya1, ya2, ya3⟩ := Ba2.out.four
  obtain ⟨yb0, yb1, yb2, yb3⟩ := Bb2.out.four
  obtain ⟨yr0, yr1, yr2, yr3⟩ := Br2.out.four
  have fr0 := Br2.out.free 0
  have fr1 := Br2.out.free 1
  have fr2 := Br2.out.free 2
  have fr3 := Br2.out.free 3
  go_wp2
  refine bodyPost_ret (results_dec2 rfl _ _ _ _ _ _ _ rfl (Br2.out.put4 _ _ _ _)) rfl ?_
  exact ⟨rfl, below_put4 (HB2.out) (by omega) _ _ _ _⟩

set_option maxRecDepth 100000 in
set_option maxHeartbeats 2000000 in
theorem Mul_ff (na : Bool) (ta : ByteArray) (ea : Int) (nb : Bool) (tb : ByteArray) (eb : Int) (w : World) (ha : MayD  0 na (bys ta) ( ea)) (hb0 : MayD  0 nb (bys tb) ( eb)) (r : DecT × Int) (htab : Tab w) (su : ∀ W, Tab W → Calls Tryz.prog 49 #[.bool (na != nb), .agg #[.int .i64 0, .bool na, .string ta, .int .i64 ea], .agg #[.int .i64 0, .bool nb, .string tb, .int .i64 eb]] W fun e w' => e = .returned (decErr r) ∧ Below W.heap.size W w') : Calls Tryz.prog 30 #[.agg #[.int .i64 0, .bool na, .string ta, .int .i64 ea], .agg #[.int .i64 0, .bool nb, .string tb, .int .i64 eb]] w fun e w' => e = .returned (decErr r) ∧ Below w.heap.size w w' := by
  have MA := hide (fun W => dmay_yes  0 na ta ( ea) W ha)
  have MB := hide (fun W => dmay_yes  0 nb tb ( eb) W hb0)
  have SU := hide su
  have HT := hide htab
  obtain ⟨⟨cc, nn, ll, ee⟩, er⟩ := r
  unfold decErr decVal at SU ⊢
  simp only at SU ⊢
  obtain ⟨D, hD⟩ : ∃ D : ByteArray, D = ⟨ll.toArray⟩ := ⟨_, rfl⟩
  rw [← hD] at SU ⊢
  clear su htab hD
  clear ha hb0
  have Ba0 := hide (((Blk.newAt w (w.heap.size) (rfl) #[.int .i64 0, .bool na, .string ta, .int .i64 ea] 23).alloc (.cells #[.int .i64 0, .bool nb, .string tb, .int .i64 eb] 23)).alloc (.cells #[.int .i64 0, .bool false, .string ⟨#[]⟩, .int .i64 0] 23))
  have Bb0 := hide ((Blk.newAt (w.alloc (.cells #[.int .i64 0, .bool na, .string ta, .int .i64 ea] 23)) (w.heap.size + 1) (by simp) #[.int .i64 0, .bool nb, .string tb, .int .i64 eb] 23).alloc (.cells #[.int .i64 0, .bool false, .string ⟨#[]⟩, .int .i64 0] 23))
  have Br0 := hide (Blk.newAt ((w.alloc (.cells #[.int .i64 0, .bool na, .string ta, .int .i64 ea] 23)).alloc (.cells #[.int .i64 0, .bool nb, .string tb, .int .i64 eb] 23)) (w.heap.size + 1 + 1) (by simp) #[.int .i64 0, .bool false, .string ⟨#[]⟩, .int .i64 0] 23)
  have HB0 : Hid (Below w.heap.size w (((w.alloc (.cells #[.int .i64 0, .bool na, .string ta, .int .i64 ea] 23)).alloc (.cells #[.int .i64 0, .bool nb, .string tb, .int .i64 eb] 23)).alloc (.cells #[.int .i64 0, .bool false, .string ⟨#[]⟩, .int .i64 0] 23))) := ((((Below.refl _ _).alloc (Nat.le_refl _) _).alloc (by simp <;> omega) _).alloc (by simp <;> omega) _)
  go_enter Tryz.func30, Tryz.ntmps30
  go_wp2_with fail
  refine (MA.out _).mono ?_
  rintro e w1 ⟨rfl, hb⟩
  have Ba1 := Blk.on Ba0 hb
  have Bb1 := Blk.on Bb0 hb
  have Br1 := Blk.on Br0 hb
  have HB1 := hide (HB0.out.trans (hb.mono HB0.out.size))
  clear hb Ba0 Bb0 Br0 HB0 
  obtain ⟨ya0, ya1, ya2, ya3⟩ := Ba1.out.four
  obtain ⟨yb0, yb1, yb2, yb3⟩ := Bb1.out.four
  obtain ⟨yr0, yr1, yr2, yr3⟩ := Br1.out.four
  go_wp2_with fail
  refine (MB.out _).mono ?_
  rintro e w2 ⟨rfl, hb⟩
  have Ba2 := Blk.on Ba1 hb
  have Bb2 := Blk.on Bb1 hb
  have Br2 := Blk.on Br1 hb
  have HB2 := hide (HB1.out.trans (hb.mono HB1.out.size))
  clear hb Ba1 Bb1 Br1 HB1 ya0 ya1 ya2 ya3 yb0 yb1 yb2 yb3 yr0 yr1 yr2 yr3
  obtain ⟨ya0, ya1, ya2, ya3⟩ := Ba2.out.four
  obtain ⟨yb0, yb1, yb2, yb3⟩ := Bb2.out.four
  obtain ⟨yr0, yr1, yr2, yr3⟩ := Br2.out.four
  go_wp2_with fail
  refine (SU.out _ (HT.out.below HB2.out)).mono ?_
  rintro e w3 ⟨rfl, hb⟩
  have Ba3 := Blk.on Ba2 hb
  have Bb3 := Blk.on Bb2 hb
  have Br3 := Blk.on Br2 hb
  have HB3 := hide (HB2.out.trans (hb.mono HB2.out.size))
  clear hb Ba2 Bb2 Br2 HB2 ya0 ya1 ya2 ya3 yb0 yb1 yb2 yb3 yr0 yr1 yr2 yr3
  obtain ⟨ya0, ya1, ya2, ya3⟩ := Ba3.out.four
  obtain ⟨yb0, yb1, yb2, yb3⟩ := Bb3.out.four
  obtain ⟨yr0, yr1, yr2, yr3⟩ := Br3.out.four
  have fr0 := Br3.out.free 0
  have fr1 := Br3.out.free 1
  have fr2 := Br3.out.free 2
  have fr3 := Br3.out.free 3
  go_wp2
  refine bodyPost_ret (results_dec2 rfl _ _ _ _ _ _ _ rfl (Br3.out.put4 _ _ _ _)) rfl ?_
  exact ⟨rfl, below_put4 (HB3.out) (by omega) _ _ _ _⟩

set_option maxRecDepth 100000 in
set_option maxHeartbeats 2000000 in
theorem Mul_nf (nb : Bool) (tb : ByteArray) (eb : Int) (w : World) (ha : MayD  2 false (bys ⟨#[]⟩) ( 0)) (hb0 : MayD  0 nb (bys tb) ( eb)) : Calls Tryz.prog 30 #[.agg #[.int .i64 2, .bool false, .string ⟨#[]⟩, .int .i64 0], .agg #[.int .i64 0, .bool nb, .string tb, .int .i64 eb]] w fun e w' => e = .returned (.tuple #[.agg #[.int .i64 2, .bool false, .string ⟨#[]⟩, .int .i64 0], .int .i64 0]) ∧ Below w.heap.size w w' := by
  have MA := hide (fun W => dmay_yes  2 false ⟨#[]⟩ ( 0) W ha)
  have MB := hide (fun W => dmay_yes  0 nb tb ( eb) W hb0)
  clear ha hb0
  have Ba0 := hide (((Blk.newAt w (w.heap.size) (rfl) #[.int .i64 2, .bool false, .string ⟨#[]⟩, .int .i64 0] 23).alloc (.cells #[.int .i64 0, .bool nb, .string tb, .int .i64 eb] 23)).alloc (.cells #[.int .i64 0, .bool false, .string ⟨#[]⟩, .int .i64 0] 23))
  have Bb0 := hide ((Blk.newAt (w.alloc (.cells #[.int .i64 2, .bool false, .string ⟨#[]⟩, .int .i64 0] 23)) (w.heap.size + 1) (by simp) #[.int .i64 0, .bool nb, .string tb, .int .i64 eb] 23).alloc (.cells #[.int .i64 0, .bool false, .string ⟨#[]⟩, .int .i64 0] 23))
  have Br0 := hide (Blk.newAt ((w.alloc (.cells #[.int .i64 2, .bool false, .string ⟨#[]⟩, .int .i64 0] 23)).alloc (.cells #[.int .i64 0, .bool nb, .string tb, .int .i64 eb] 23)) (w.heap.size + 1 + 1) (by simp) #[.int .i64 0, .bool false, .string ⟨#[]⟩, .int .i64 0] 23)
  have HB0 : Hid (Below w.heap.size w (((w.alloc (.cells #[.int .i64 2, .bool false, .string ⟨#[]⟩, .int .i64 0] 23)).alloc (.cells #[.int .i64 0, .bool nb, .string tb, .int .i64 eb] 23)).alloc (.cells #[.int .i64 0, .bool false, .string ⟨#[]⟩, .int .i64 0] 23))) := ((((Below.refl _ _).alloc (Nat.le_refl _) _).alloc (by simp <;> omega) _).alloc (by simp <;> omega) _)
  go_enter Tryz.func30, Tryz.ntmps30
  go_wp2_with fail
  refine (MA.out _).mono ?_
  rintro e w1 ⟨rfl, hb⟩
  have Ba1 := Blk.on Ba0 hb
  have Bb1 := Blk.on Bb0 hb
  have Br1 := Blk.on Br0 hb
  have HB1 := hide (HB0.out.trans (hb.mono HB0.out.size))
  clear hb Ba0 Bb0 Br0 HB0 
  obtain ⟨ya0, ya1, ya2, ya3⟩ := Ba1.out.four
  obtain ⟨yb0, yb1, yb2, yb3⟩ := Bb1.out.four
  obtain ⟨yr0, yr1, yr2, yr3⟩ := Br1.out.four
  go_wp2_with fail
  refine (MB.out _).mono ?_
  rintro e w2 ⟨rfl, hb⟩
  have Ba2 := Blk.on Ba1 hb
  have Bb2 := Blk.on Bb1 hb
  have Br2 := Blk.on Br1 hb
  have HB2 := hide (HB1.out.trans (hb.mono HB1.out.size))
  clear hb Ba1 Bb1 Br1 HB1 ya0 ya1 ya2 ya3 yb0 yb1 yb2 yb3 yr0 yr1 yr2 yr3
  obtain ⟨ya0, ya1, ya2, ya3⟩ := Ba2.out.four
  obtain ⟨yb0, yb1, yb2, yb3⟩ := Bb2.out.four
  obtain ⟨yr0, yr1, yr2, yr3⟩ := Br2.out.four
  have fr0 := Br2.out.free 0
  have fr1 := Br2.out.free 1
  have fr2 := Br2.out.free 2
  have fr3 := Br2.out.free 3
  go_wp2
  refine bodyPost_ret (results_dec2 rfl _ _ _ _ _ _ _ rfl (Br2.out.put4 _ _ _ _)) rfl ?_
  exact ⟨rfl, below_put4 (HB2.out) (by omega) _ _ _ _⟩

set_option maxRecDepth 100000 in
set_option maxHeartbeats 2000000 in
theorem Mul_ni (nb : Bool) (w : World) (ha : MayD  2 false (bys ⟨#[]⟩) ( 0)) (hb0 : MayD  1 nb (bys ⟨#[]⟩) ( 0)) : Calls Tryz.prog 30 #[.agg #[.int .i64 2, .bool false, .string ⟨#[]⟩, .int .i64 0], .agg #[.int .i64 1, .bool nb, .string ⟨#[]⟩, .int .i64 0]] w fun e w' => e = .returned (.tuple #[.agg #[.int .i64 2, .bool false, .string ⟨#[]⟩, .int .i64 0], .int .i64 0]) ∧ Below w.heap.size w w' := by
  have MA := hide (fun W => dmay_yes  2 false ⟨#[]⟩ ( 0) W ha)
  have MB := hide (fun W => dmay_yes  1 nb ⟨#[]⟩ ( 0) W hb0)
  clear ha hb0
  have Ba0 := hide (((Blk.newAt w (w.heap.size) (rfl) #[.int .i64 2, .bool false, .string ⟨#[]⟩, .int .i64 0] 23).alloc (.cells #[.int .i64 1, .bool nb, .string ⟨#[]⟩, .int .i64 0] 23)).alloc (.cells #[.int .i64 0, .bool false, .string ⟨#[]⟩, .int .i64 0] 23))
  have Bb0 := hide ((Blk.newAt (w.alloc (.cells #[.int .i64 2, .bool false, .string ⟨#[]⟩, .int .i64 0] 23)) (w.heap.size + 1) (by simp) #[.int .i64 1, .bool nb, .string ⟨#[]⟩, .int .i64 0] 23).alloc (.cells #[.int .i64 0, .bool false, .string ⟨#[]⟩, .int .i64 0] 23))
  have Br0 := hide (Blk.newAt ((w.alloc (.cells #[.int .i64 2, .bool false, .string ⟨#[]⟩, .int .i64 0] 23)).alloc (.cells #[.int .i64 1, .bool nb, .string ⟨#[]⟩, .int .i64 0] 23)) (w.heap.size + 1 + 1) (by simp) #[.int .i64 0, .bool false, .string ⟨#[]⟩, .int .i64 0] 23)
  have HB0 : Hid (Below w.heap.size w (((w.alloc (.cells #[.int .i64 2, .bool false, .string ⟨#[]⟩, .int .i64 0] 23)).alloc (.cells #[.int .i64 1, .bool nb, .string ⟨#[]⟩, .int .i64 0] 23)).alloc (.cells #[.int .i64 0, .bool false, .string ⟨#[]⟩, .int .i64 0] 23))) := ((((Below.refl _ _).alloc (Nat.le_refl _) _).alloc (by simp <;> omega) _).alloc (by simp <;> omega) _)
  go_enter Tryz.func30, Tryz.ntmps30
  go_wp2_with fail
  refine (MA.out _).mono ?_
  rintro e w1 ⟨rfl, hb⟩
  have Ba1 := Blk.on Ba0 hb
  have Bb1 := Blk.on Bb0 hb
  have Br1 := Blk.on Br0 hb
  have HB1 := hide (HB0.out.trans (hb.mono HB0.out.size))
  clear hb Ba0 Bb0 Br0 HB0 
  obtain ⟨ya0, ya1, ya2, ya3⟩ := Ba1.out.four
  obtain ⟨yb0, yb1, yb2, yb3⟩ := Bb1.out.four
  obtain ⟨yr0, yr1, yr2, yr3⟩ := Br1.out.four
  go_wp2_with fail
  refine (MB.out _).mono ?_
  rintro e w2 ⟨rfl, hb⟩
  have Ba2 := Blk.on Ba1 hb
  have Bb2 := Blk.on Bb1 hb
  have Br2 := Blk.on Br1 hb
  have HB2 := hide (HB1.out.trans (hb.mono HB1.out.size))
  clear hb Ba1 Bb1 Br1 HB1 ya0 ya1 ya2 ya3 yb0 yb1 yb2 yb3 yr0 yr1 yr2 yr3
  obtain ⟨ya0, ya1, ya2, ya3⟩ := Ba2.out.four
  obtain ⟨yb0, yb1, yb2, yb3⟩ := Bb2.out.four
  obtain ⟨yr0, yr1, yr2, yr3⟩ := Br2.out.four
  have fr0 := Br2.out.free 0
  have fr1 := Br2.out.free 1
  have fr2 := Br2.out.free 2
  have fr3 := Br2.out.free 3
  go_wp2
  refine bodyPost_ret (results_dec2 rfl _ _ _ _ _ _ _ rfl (Br2.out.put4 _ _ _ _)) rfl ?_
  exact ⟨rfl, below_put4 (HB2.out) (by omega) _ _ _ _⟩

set_option maxRecDepth 100000 in
set_option maxHeartbeats 2000000 in
theorem Mul_nn (w : World) (ha : MayD  2 false (bys ⟨#[]⟩) ( 0)) (hb0 : MayD  2 false (bys ⟨#[]⟩) ( 0)) : Calls Tryz.prog 30 #[.agg #[.int .i64 2, .bool false, .string ⟨#[]⟩, .int .i64 0], .agg #[.int .i64 2, .bool false, .string ⟨#[]⟩, .int .i64 0]] w fun e w' => e = .returned (.tuple #[.agg #[.int .i64 2, .bool false, .string ⟨#[]⟩, .int .i64 0], .int .i64 0]) ∧ Below w.heap.size w w' := by
  have MA := hide (fun W => dmay_yes  2 false ⟨#[]⟩ ( 0) W ha)
  have MB := hide (fun W => dmay_yes  2 false ⟨#[]⟩ ( 0) W hb0)
  clear ha hb0
  have Ba0 := hide (((Blk.newAt w (w.heap.size) (rfl) #[.int .i64 2, .bool false, .string ⟨#[]⟩, .int .i64 0] 23).alloc (.cells #[.int .i64 2, .bool false, .string ⟨#[]⟩, .int .i64 0] 23)).alloc (.cells #[.int .i64 0, .bool false, .string ⟨#[]⟩, .int .i64 0] 23))
  have Bb0 := hide ((Blk.newAt (w.alloc (.cells #[.int .i64 2, .bool false, .string ⟨#[]⟩, .int .i64 0] 23)) (w.heap.size + 1) (by simp) #[.int .i64 2, .bool false, .string ⟨#[]⟩, .int .i64 0] 23).alloc (.cells #[.int .i64 0, .bool false, .string ⟨#[]⟩, .int .i64 0] 23))
  have Br0 := hide (Blk.newAt ((w.alloc (.cells #[.int .i64 2, .bool false, .string ⟨#[]⟩, .int .i64 0] 23)).alloc (.cells #[.int .i64 2, .bool false, .string ⟨#[]⟩, .int .i64 0] 23)) (w.heap.size + 1 + 1) (by simp) #[.int .i64 0, .bool false, .string ⟨#[]⟩, .int .i64 0] 23)
  have HB0 : Hid (Below w.heap.size w (((w.alloc (.cells #[.int .i64 2, .bool false, .string ⟨#[]⟩, .int .i64 0] 23)).alloc (.cells #[.int .i64 2, .bool false, .string ⟨#[]⟩, .int .i64 0] 23)).alloc (.cells #[.int .i64 0, .bool false, .string ⟨#[]⟩, .int .i64 0] 23))) := ((((Below.refl _ _).alloc (Nat.le_refl _) _).alloc (by simp <;> omega) _).alloc (by simp <;> omega) _)
  go_enter Tryz.func30, Tryz.ntmps30
  go_wp2_with fail
  refine (MA.out _).mono ?_
  rintro e w1 ⟨rfl, hb⟩
  have Ba1 := Blk.on Ba0 hb
  have Bb1 := Blk.on Bb0 hb
  have Br1 := Blk.on Br0 hb
  have HB1 := hide (HB0.out.trans (hb.mono HB0.out.size))
  clear hb Ba0 Bb0 Br0 HB0 
  obtain ⟨ya0, ya1, ya2, ya3⟩ := Ba1.out.four
  obtain ⟨yb0, yb1, yb2, yb3⟩ := Bb1.out.four
  obtain ⟨yr0, yr1, yr2, yr3⟩ := Br1.out.four
  go_wp2_with fail
  refine (MB.out _).mono ?_
  rintro e w2 ⟨rfl, hb⟩
  have Ba2 := Blk.on Ba1 hb
  have Bb2 := Blk.on Bb1 hb
  have Br2 := Blk.on Br1 hb
  have HB2 := hide (HB1.out.trans (hb.mono HB1.out.size))
  clear hb Ba1 Bb1 Br1 HB1 ya0 ya1 ya2 ya3 yb0 yb1 yb2 yb3 yr0 yr1 yr2 yr3
  obtain ⟨ya0, ya1, ya2, ya3⟩ := Ba2.out.four
  obtain ⟨yb0, yb1, yb2, yb3⟩ := Bb2.out.four
  obtain ⟨yr0, yr1, yr2, yr3⟩ := Br2.out.four
  have fr0 := Br2.out.free 0
  have fr1 := Br2.out.free 1
  have fr2 := Br2.out.free 2
  have fr3 := Br2.out.free 3
  go_wp2
  refine bodyPost_ret (results_dec2 rfl _ _ _ _ _ _ _ rfl (Br2.out.put4 _ _ _ _)) rfl ?_
  exact ⟨rfl, below_put4 (HB2.out) (by omega) _ _ _ _⟩

set_option maxRecDepth 100000 in
set_option maxHeartbeats 2000000 in
theorem Mul_fn (na : Bool) (ta : ByteArray) (ea : Int) (w : World) (ha : MayD  0 na (bys ta) ( ea)) (hb0 : MayD  2 false (bys ⟨#[]⟩) ( 0)) : Calls Tryz.prog 30 #[.agg #[.int .i64 0, .bool na, .string ta, .int .i64 ea], .agg #[.int .i64 2, .bool false, .string ⟨#[]⟩, .int .i64 0]] w fun e w' => e = .returned (.tuple #[.agg #[.int .i64 2, .bool false, .string ⟨#[]⟩, .int .i64 0], .int .i64 0]) ∧ Below w.heap.size w w' := by
  have MA := hide (fun W => dmay_yes  0 na ta ( ea) W ha)
  have MB := hide (fun W => dmay_yes  2 false ⟨#[]⟩ ( 0) W hb0)
  clear ha hb0
  have Ba0 := hide (((Blk.newAt w (w.heap.size) (rfl) #[.int .i64 0, .bool na, .string ta, .int .i64 ea] 23).alloc (.cells #[.int .i64 2, .bool false, .string ⟨#[]⟩, .int .i64 0] 23)).alloc (.cells #[.int .i64 0, .bool false, .string ⟨#[]⟩, .int .i64 0] 23))
  have Bb0 := hide ((Blk.newAt (w.alloc (.cells #[.int .i64 0, .bool na, .string ta, .int .i64 ea] 23)) (w.heap.size + 1) (by simp) #[.int .i64 2, .bool false, .string ⟨#[]⟩, .int .i64 0] 23).alloc (.cells #[.int .i64 0, .bool false, .string ⟨#[]⟩, .int .i64 0] 23))
  have Br0 := hide (Blk.newAt ((w.alloc (.cells #[.int .i64 0, .bool na, .string ta, .int .i64 ea] 23)).alloc (.cells #[.int .i64 2, .bool false, .string ⟨#[]⟩, .int .i64 0] 23)) (w.heap.size + 1 + 1) (by simp) #[.int .i64 0, .bool false, .string ⟨#[]⟩, .int .i64 0] 23)
  have HB0 : Hid (Below w.heap.size w (((w.alloc (.cells #[.int .i64 0, .bool na, .string ta, .int .i64 ea] 23)).alloc (.cells #[.int .i64 2, .bool false, .string ⟨#[]⟩, .int .i64 0] 23)).alloc (.cells #[.int .i64 0, .bool false, .string ⟨#[]⟩, .int .i64 0] 23))) := ((((Below.refl _ _).alloc (Nat.le_refl _) _).alloc (by simp <;> omega) _).alloc (by simp <;> omega) _)
  go_enter Tryz.func30, Tryz.ntmps30
  go_wp2_with fail
  refine (MA.out _).mono ?_
  rintro e w1 ⟨rfl, hb⟩
  have Ba1 := Blk.on Ba0 hb
  have Bb1 := Blk.on Bb0 hb
  have Br1 := Blk.on Br0 hb
  have HB1 := hide (HB0.out.trans (hb.mono HB0.out.size))
  clear hb Ba0 Bb0 Br0 HB0 
  obtain ⟨ya0, ya1, ya2, ya3⟩ := Ba1.out.four
  obtain ⟨yb0, yb1, yb2, yb3⟩ := Bb1.out.four
  obtain ⟨yr0, yr1, yr2, yr3⟩ := Br1.out.four
  go_wp2_with fail
  refine (MB.out _).mono ?_
  rintro e w2 ⟨rfl, hb⟩
  have Ba2 := Blk.on Ba1 hb
  have Bb2 := Blk.on Bb1 hb
  have Br2 := Blk.on Br1 hb
  have HB2 := hide (HB1.out.trans (hb.mono HB1.out.size))
  clear hb Ba1 Bb1 Br1 HB1 ya0 ya1 ya2 ya3 yb0 yb1 yb2 yb3 yr0 yr1 yr2 yr3
  obtain ⟨ya0, ya1, ya2, ya3⟩ := Ba2.out.four
  obtain ⟨yb0, yb1, yb2, yb3⟩ := Bb2.out.four
  obtain ⟨yr0, yr1, yr2, yr3⟩ := Br2.out.four
  have fr0 := Br2.out.free 0
  have fr1 := Br2.out.free 1
  have fr2 := Br2.out.free 2
  have fr3 := Br2.out.free 3
  go_wp2
  refine bodyPost_ret (results_dec2 rfl _ _ _ _ _ _ _ rfl (Br2.out.put4 _ _ _ _)) rfl ?_
  exact ⟨rfl, below_put4 (HB2.out) (by omega) _ _ _ _⟩

set_option maxRecDepth 100000 in
set_option maxHeartbeats 2000000 in
theorem Mul_in (na : Bool) (w : World) (ha : MayD  1 na (bys ⟨#[]⟩) ( 0)) (hb0 : MayD  2 false (bys ⟨#[]⟩) ( 0)) : Calls Tryz.prog 30 #[.agg #[.int .i64 1, .bool na, .string ⟨#[]⟩, .int .i64 0], .agg #[.int .i64 2, .bool false, .string ⟨#[]⟩, .int .i64 0]] w fun e w' => e = .returned (.tuple #[.agg #[.int .i64 2, .bool false, .string ⟨#[]⟩, .int .i64 0], .int .i64 0]) ∧ Below w.heap.size w w' := by
  have MA := hide (fun W => dmay_yes  1 na ⟨#[]⟩ ( 0) W ha)
  have MB := hide (fun W => dmay_yes  2 false ⟨#[]⟩ ( 0) W hb0)
  clear ha hb0
  have Ba0 := hide (((Blk.newAt w (w.heap.size) (rfl) #[.int .i64 1, .bool na, .string ⟨#[]⟩, .int .i64 0] 23).alloc (.cells #[.int .i64 2, .bool false, .string ⟨#[]⟩, .int .i64 0] 23)).alloc (.cells #[.int .i64 0, .bool false, .string ⟨#[]⟩, .int .i64 0] 23))
  have Bb0 := hide ((Blk.newAt (w.alloc (.cells #[.int .i64 1, .bool na, .string ⟨#[]⟩, .int .i64 0] 23)) (w.heap.size + 1) (by simp) #[.int .i64 2, .bool false, .string ⟨#[]⟩, .int .i64 0] 23).alloc (.cells #[.int .i64 0, .bool false, .string ⟨#[]⟩, .int .i64 0] 23))
  have Br0 := hide (Blk.newAt ((w.alloc (.cells #[.int .i64 1, .bool na, .string ⟨#[]⟩, .int .i64 0] 23)).alloc (.cells #[.int .i64 2, .bool false, .string ⟨#[]⟩, .int .i64 0] 23)) (w.heap.size + 1 + 1) (by simp) #[.int .i64 0, .bool false, .string ⟨#[]⟩, .int .i64 0] 23)
  have HB0 : Hid (Below w.heap.size w (((w.alloc (.cells #[.int .i64 1, .bool na, .string ⟨#[]⟩, .int .i64 0] 23)).alloc (.cells #[.int .i64 2, .bool false, .string ⟨#[]⟩, .int .i64 0] 23)).alloc (.cells #[.int .i64 0, .bool false, .string ⟨#[]⟩, .int .i64 0] 23))) := ((((Below.refl _ _).alloc (Nat.le_refl _) _).alloc (by simp <;> omega) _).alloc (by simp <;> omega) _)
  go_enter Tryz.func30, Tryz.ntmps30
  go_wp2_with fail
  refine (MA.out _).mono ?_
  rintro e w1 ⟨rfl, hb⟩
  have Ba1 := Blk.on Ba0 hb
  have Bb1 := Blk.on Bb0 hb
  have Br1 := Blk.on Br0 hb
  have HB1 := hide (HB0.out.trans (hb.mono HB0.out.size))
  clear hb Ba0 Bb0 Br0 HB0 
  obtain ⟨ya0, ya1, ya2, ya3⟩ := Ba1.out.four
  obtain ⟨yb0, yb1, yb2, yb3⟩ := Bb1.out.four
  obtain ⟨yr0, yr1, yr2, yr3⟩ := Br1.out.four
  go_wp2_with fail
  refine (MB.out _).mono ?_
  rintro e w2 ⟨rfl, hb⟩
  have Ba2 := Blk.on Ba1 hb
  have Bb2 := Blk.on Bb1 hb
  have Br2 := Blk.on Br1 hb
  have HB2 := hide (HB1.out.trans (hb.mono HB1.out.size))
  clear hb Ba1 Bb1 Br1 HB1 ya0 ya1 ya2 ya3 yb0 yb1 yb2 yb3 yr0 yr1 yr2 yr3
  obtain ⟨ya0, ya1, ya2, ya3⟩ := Ba2.out.four
  obtain ⟨yb0, yb1, yb2, yb3⟩ := Bb2.out.four
  obtain ⟨yr0, yr1, yr2, yr3⟩ := Br2.out.four
  have fr0 := Br2.out.free 0
  have fr1 := Br2.out.free 1
  have fr2 := Br2.out.free 2
  have fr3 := Br2.out.free 3
  go_wp2
  refine bodyPost_ret (results_dec2 rfl _ _ _ _ _ _ _ rfl (Br2.out.put4 _ _ _ _)) rfl ?_
  exact ⟨rfl, below_put4 (HB2.out) (by omega) _ _ _ _⟩

set_option maxRecDepth 100000 in
set_option maxHeartbeats 2000000 in
theorem Mul_ii (na : Bool) (nb : Bool) (w : World) (ha : MayD  1 na (bys ⟨#[]⟩) ( 0)) (hb0 : MayD  1 nb (bys ⟨#[]⟩) ( 0)) : Calls Tryz.prog 30 #[.agg #[.int .i64 1, .bool na, .string ⟨#[]⟩, .int .i64 0], .agg #[.int .i64 1, .bool nb, .string ⟨#[]⟩, .int .i64 0]] w fun e w' => e = .returned (.tuple #[.agg #[.int .i64 1, .bool (na != nb), .string ⟨#[]⟩, .int .i64 0], .int .i64 0]) ∧ Below w.heap.size w w' := by
  have MA := hide (fun W => dmay_yes  1 na ⟨#[]⟩ ( 0) W ha)
  have MB := hide (fun W => dmay_yes  1 nb ⟨#[]⟩ ( 0) W hb0)
  clear ha hb0
  have Ba0 := hide (((Blk.newAt w (w.heap.size) (rfl) #[.int .i64 1, .bool na, .string ⟨#[]⟩, .int .i64 0] 23).alloc (.cells #[.int .i64 1, .bool nb, .string ⟨#[]⟩, .int .i64 0] 23)).alloc (.cells #[.int .i64 0, .bool false, .string ⟨#[]⟩, .int .i64 0] 23))
  have Bb0 := hide ((Blk.newAt (w.alloc (.cells #[.int .i64 1, .bool na, .string ⟨#[]⟩, .int .i64 0] 23)) (w.heap.size + 1) (by simp) #[.int .i64 1, .bool nb, .string ⟨#[]⟩, .int .i64 0] 23).alloc (.cells #[.int .i64 0, .bool false, .string ⟨#[]⟩, .int .i64 0] 23))
  have Br0 := hide (Blk.newAt ((w.alloc (.cells #[.int .i64 1, .bool na, .string ⟨#[]⟩, .int .i64 0] 23)).alloc (.cells #[.int .i64 1, .bool nb, .string ⟨#[]⟩, .int .i64 0] 23)) (w.heap.size + 1 + 1) (by simp) #[.int .i64 0, .bool false, .string ⟨#[]⟩, .int .i64 0] 23)
  have HB0 : Hid (Below w.heap.size w (((w.alloc (.cells #[.int .i64 1, .bool na, .string ⟨#[]⟩, .int .i64 0] 23)).alloc (.cells #[.int .i64 1, .bool nb, .string ⟨#[]⟩, .int .i64 0] 23)).alloc (.cells #[.int .i64 0, .bool false, .string ⟨#[]⟩, .int .i64 0] 23))) := ((((Below.refl _ _).alloc (Nat.le_refl _) _).alloc (by simp <;> omega) _).alloc (by simp <;> omega) _)
  go_enter Tryz.func30, Tryz.ntmps30
  go_wp2_with fail
  refine (MA.out _).mono ?_
  rintro e w1 ⟨rfl, hb⟩
  have Ba1 := Blk.on Ba0 hb
  have Bb1 := Blk.on Bb0 hb
  have Br1 := Blk.on Br0 hb
  have HB1 := hide (HB0.out.trans (hb.mono HB0.out.size))
  clear hb Ba0 Bb0 Br0 HB0 
  obtain ⟨ya0, ya1, ya2, ya3⟩ := Ba1.out.four
  obtain ⟨yb0, yb1, yb2, yb3⟩ := Bb1.out.four
  obtain ⟨yr0, yr1, yr2, yr3⟩ := Br1.out.four
  go_wp2_with fail
  refine (MB.out _).mono ?_
  rintro e w2 ⟨rfl, hb⟩
  have Ba2 := Blk.on Ba1 hb
  have Bb2 := Blk.on Bb1 hb
  have Br2 := Blk.on Br1 hb
  have HB2 := hide (HB1.out.trans (hb.mono HB1.out.size))
  clear hb Ba1 Bb1 Br1 HB1 ya0 ya1 ya2 ya3 yb0 yb1 yb2 yb3 yr0 yr1 yr2 yr3
  obtain ⟨ya0, ya1, ya2, ya3⟩ := Ba2.out.four
  obtain ⟨yb0, yb1, yb2, yb3⟩ := Bb2.out.four
  obtain ⟨yr0, yr1, yr2, yr3⟩ := Br2.out.four
  go_wp2_with fail
  refine (isZero_1 _ _ _ _).mono ?_
  rintro e w3 ⟨rfl, hb⟩
  have Ba3 := Blk.on Ba2 hb
  have Bb3 := Blk.on Bb2 hb
  have Br3 := Blk.on Br2 hb
  have HB3 := hide (HB2.out.trans (hb.mono HB2.out.size))
  clear hb Ba2 Bb2 Br2 HB2 ya0 ya1 ya2 ya3 yb0 yb1 yb2 yb3 yr0 yr1 yr2 yr3
  obtain ⟨ya0, ya1, ya2, ya3⟩ := Ba3.out.four
  obtain ⟨yb0, yb1, yb2, yb3⟩ := Bb3.out.four
  obtain ⟨yr0, yr1, yr2, yr3⟩ := Br3.out.four
  go_wp2_with fail
  refine (isZero_1 _ _ _ _).mono ?_
  rintro e w4 ⟨rfl, hb⟩
  have Ba4 := Blk.on Ba3 hb
  have Bb4 := Blk.on Bb3 hb
  have Br4 := Blk.on Br3 hb
  have HB4 := hide (HB3.out.trans (hb.mono HB3.out.size))
  clear hb Ba3 Bb3 Br3 HB3 ya0 ya1 ya2 ya3 yb0 yb1 yb2 yb3 yr0 yr1 yr2 yr3
  obtain ⟨ya0, ya1, ya2, ya3⟩ := Ba4.out.four
  obtain ⟨yb0, yb1, yb2, yb3⟩ := Bb4.out.four
  obtain ⟨yr0, yr1, yr2, yr3⟩ := Br4.out.four
  have fr0 := Br4.out.free 0
  have fr1 := Br4.out.free 1
  have fr2 := Br4.out.free 2
  have fr3 := Br4.out.free 3
  go_wp2
  refine bodyPost_ret (results_dec2 rfl _ _ _ _ _ _ _ rfl (Br4.out.put4 _ _ _ _)) rfl ?_
  exact ⟨rfl, below_put4 (HB4.out) (by omega) _ _ _ _⟩

set_option maxRecDepth 100000 in
set_option maxHeartbeats 2000000 in
theorem Mul_iz (na : Bool) (nb : Bool) (w : World) (ha : MayD  1 na (bys ⟨#[]⟩) ( 0)) (hb0 : MayD  0 nb (bys ⟨#[]⟩) ( 0)) : Calls Tryz.prog 30 #[.agg #[.int .i64 1, .bool na, .string ⟨#[]⟩, .int .i64 0], .agg #[.int .i64 0, .bool nb, .string ⟨#[]⟩, .int .i64 0]] w fun e w' => e = .returned (.tuple #[.agg #[.int .i64 2, .bool false, .string ⟨#[]⟩, .int .i64 0], .int .i64 0]) ∧ Below w.heap.size w w' := by
  have MA := hide (fun W => dmay_yes  1 na ⟨#[]⟩ ( 0) W ha)
  have MB := hide (fun W => dmay_yes  0 nb ⟨#[]⟩ ( 0) W hb0)
  clear ha hb0
  have Ba0 := hide (((Blk.newAt w (w.heap.size) (rfl) #[.int .i64 1, .bool na, .string ⟨#[]⟩, .int .i64 0] 23).alloc (.cells #[.int .i64 0, .bool nb, .string ⟨#[]⟩, .int .i64 0] 23)).alloc (.cells #[.int .i64 0, .bool false, .string ⟨#[]⟩, .int .i64 0] 23))
  have Bb0 := hide ((Blk.newAt (w.alloc (.cells #[.int .i64 1, .bool na, .string ⟨#[]⟩, .int .i64 0] 23)) (w.heap.size + 1) (by simp) #[.int .i64 0, .bool nb, .string ⟨#[]⟩, .int .i64 0] 23).alloc (.cells #[.int .i64 0, .bool false, .string ⟨#[]⟩, .int .i64 0] 23))
  have Br0 := hide (Blk.newAt ((w.alloc (.cells #[.int .i64 1, .bool na, .string ⟨#[]⟩, .int .i64 0] 23)).alloc (.cells #[.int .i64 0, .bool nb, .string ⟨#[]⟩, .int .i64 0] 23)) (w.heap.size + 1 + 1) (by simp) #[.int .i64 0, .bool false, .string ⟨#[]⟩, .int .i64 0] 23)
  have HB0 : Hid (Below w.heap.size w (((w.alloc (.cells #[.int .i64 1, .bool na, .string ⟨#[]⟩, .int .i64 0] 23)).alloc (.cells #[.int .i64 0, .bool nb, .string ⟨#[]⟩, .int .i64 0] 23)).alloc (.cells #[.int .i64 0, .bool false, .string ⟨#[]⟩, .int .i64 0] 23))) := ((((Below.refl _ _).alloc (Nat.le_refl _) _).alloc (by simp <;> omega) _).alloc (by simp <;> omega) _)
  go_enter Tryz.func30, Tryz.ntmps30
  go_wp2_with fail
  refine (MA.out _).mono ?_
  rintro e w1 ⟨rfl, hb⟩
  have Ba1 := Blk.on Ba0 hb
  have Bb1 := Blk.on Bb0 hb
  have Br1 := Blk.on Br0 hb
  have HB1 := hide (HB0.out.trans (hb.mono HB0.out.size))
  clear hb Ba0 Bb0 Br0 HB0 
  obtain ⟨ya0, ya1, ya2, ya3⟩ := Ba1.out.four
  obtain ⟨yb0, yb1, yb2, yb3⟩ := Bb1.out.four
  obtain ⟨yr0, yr1, yr2, yr3⟩ := Br1.out.four
  go_wp2_with fail
  refine (MB.out _).mono ?_
  rintro e w2 ⟨rfl, hb⟩
  have Ba2 := Blk.on Ba1 hb
  have Bb2 := Blk.on Bb1 hb
  have Br2 := Blk.on Br1 hb
  have HB2 := hide (HB1.out.trans (hb.mono HB1.out.size))
  clear hb Ba1 Bb1 Br1 HB1 ya0 ya1 ya2 ya3 yb0 yb1 yb2 yb3 yr0 yr1 yr2 yr3
  obtain ⟨ya0, ya1, ya2, ya3⟩ := Ba2.out.four
  obtain ⟨yb0, yb1, yb2, yb3⟩ := Bb2.out.four
  obtain ⟨yr0, yr1, yr2, yr3⟩ := Br2.out.four
  go_wp2_with fail
  refine (isZero_1 _ _ _ _).mono ?_
  rintro e w3 ⟨rfl, hb⟩
  have Ba3 := Blk.on Ba2 hb
  have Bb3 := Blk.on Bb2 hb
  have Br3 := Blk.on Br2 hb
  have HB3 := hide (HB2.out.trans (hb.mono HB2.out.size))
  clear hb Ba2 Bb2 Br2 HB2 ya0 ya1 ya2 ya3 yb0 yb1 yb2 yb3 yr0 yr1 yr2 yr3
  obtain ⟨ya0, ya1, ya2, ya3⟩ := Ba3.out.four
  obtain ⟨yb0, yb1, yb2, yb3⟩ := Bb3.out.four
  obtain ⟨yr0, yr1, yr2, yr3⟩ := Br3.out.four
  go_wp2_with fail
  refine (isZero_yes _ _ _).mono ?_
  rintro e w4 ⟨rfl, hb⟩
  have Ba4 := Blk.on Ba3 hb
  have Bb4 := Blk.on Bb3 hb
  have Br4 := Blk.on Br3 hb
  have HB4 := hide (HB3.out.trans (hb.mono HB3.out.size))
  clear hb Ba3 Bb3 Br3 HB3 ya0 ya1 ya2 ya3 yb0 yb1 yb2 yb3 yr0 yr1 yr2 yr3
  obtain ⟨ya0, ya1, ya2, ya3⟩ := Ba4.out.four
  obtain ⟨yb0, yb1, yb2, yb3⟩ := Bb4.out.four
  obtain ⟨yr0, yr1, yr2, yr3⟩ := Br4.out.four
  have fr0 := Br4.out.free 0
  have fr1 := Br4.out.free 1
  have fr2 := Br4.out.free 2
  have fr3 := Br4.out.free 3
  go_wp2
  refine bodyPost_ret (results_dec2 rfl _ _ _ _ _ _ _ rfl (Br4.out.put4 _ _ _ _)) rfl ?_
  exact ⟨rfl, below_put4 (HB4.out) (by omega) _ _ _ _⟩

set_option maxRecDepth 100000 in
set_option maxHeartbeats 2000000 in
theorem Mul_zi (na : Bool) (nb : Bool) (w : World) (ha : MayD  0 na (bys ⟨#[]⟩) ( 0)) (hb0 : MayD  1 nb (bys ⟨#[]⟩) ( 0)) : Calls Tryz.prog 30 #[.agg #[.int .i64 0, .bool na, .string ⟨#[]⟩, .int .i64 0], .agg #[.int .i64 1, .bool nb, .string ⟨#[]⟩, .int .i64 0]] w fun e w' => e = .returned (.tuple #[.agg #[.int .i64 2, .bool false, .string ⟨#[]⟩, .int .i64 0], .int .i64 0]) ∧ Below w.heap.size w w' := by
  have MA := hide (fun W => dmay_yes  0 na ⟨#[]⟩ ( 0) W ha)
  have MB := hide (fun W => dmay_yes  1 nb ⟨#[]⟩ ( 0) W hb0)
  clear ha hb0
  have Ba0 := hide (((Blk.newAt w (w.heap.size) (rfl) #[.int .i64 0, .bool na, .string ⟨#[]⟩, .int .i64 0] 23).alloc (.cells #[.int .i64 1, .bool nb, .string ⟨#[]⟩, .int .i64 0] 23)).alloc (.cells #[.int .i64 0, .bool false, .string ⟨#[]⟩, .int .i64 0] 23))
  have Bb0 := hide ((Blk.newAt (w.alloc (.cells #[.int .i64 0, .bool na, .string ⟨#[]⟩, .int .i64 0] 23)) (w.heap.size + 1) (by simp) #[.int .i64 1, .bool nb, .string ⟨#[]⟩, .int .i64 0] 23).alloc (.cells #[.int .i64 0, .bool false, .string ⟨#[]⟩, .int .i64 0] 23))
  have Br0 := hide (Blk.newAt ((w.alloc (.cells #[.int .i64 0, .bool na, .string ⟨#[]⟩, .int .i64 0] 23)).alloc (.cells #[.int .i64 1, .bool nb, .string ⟨#[]⟩, .int .i64 0] 23)) (w.heap.size + 1 + 1) (by simp) #[.int .i64 0, .bool false, .string ⟨#[]⟩, .int .i64 0] 23)
  have HB0 : Hid (Below w.heap.size w (((w.alloc (.cells #[.int .i64 0, .bool na, .string ⟨#[]⟩, .int .i64 0] 23)).alloc (.cells #[.int .i64 1, .bool nb, .string ⟨#[]⟩, .int .i64 0] 23)).alloc (.cells #[.int .i64 0, .bool false, .string ⟨#[]⟩, .int .i64 0] 23))) := ((((Below.refl _ _).alloc (Nat.le_refl _) _).alloc (by simp <;> omega) _).alloc (by simp <;> omega) _)
  go_enter Tryz.func30, Tryz.ntmps30
  go_wp2_with fail
  refine (MA.out _).mono ?_
  rintro e w1 ⟨rfl, hb⟩
  have Ba1 := Blk.on Ba0 hb
  have Bb1 := Blk.on Bb0 hb
  have Br1 := Blk.on Br0 hb
  have HB1 := hide (HB0.out.trans (hb.mono HB0.out.size))
  clear hb Ba0 Bb0 Br0 HB0 
  obtain ⟨ya0, ya1, ya2, ya3⟩ := Ba1.out.four
  obtain ⟨yb0, yb1, yb2, yb3⟩ := Bb1.out.four
  obtain ⟨yr0, yr1, yr2, yr3⟩ := Br1.out.four
  go_wp2_with fail
  refine (MB.out _).mono ?_
  rintro e w2 ⟨rfl, hb⟩
  have Ba2 := Blk.on Ba1 hb
  have Bb2 := Blk.on Bb1 hb
  have Br2 := Blk.on Br1 hb
  have HB2 := hide (HB1.out.trans (hb.mono HB1.out.size))
  clear hb Ba1 Bb1 Br1 HB1 ya0 ya1 ya2 ya3 yb0 yb1 yb2 yb3 yr0 yr1 yr2 yr3
  obtain ⟨ya0, ya1, ya2, ya3⟩ := Ba2.out.four
  obtain ⟨yb0, yb1, yb2, yb3⟩ := Bb2.out.four
  obtain ⟨yr0, yr1, yr2, yr3⟩ := Br2.out.four
  go_wp2_with fail
  refine (isZero_yes _ _ _).mono ?_
  rintro e w3 ⟨rfl, hb⟩
  have Ba3 := Blk.on Ba2 hb
  have Bb3 := Blk.on Bb2 hb
  have Br3 := Blk.on Br2 hb
  have HB3 := hide (HB2.out.trans (hb.mono HB2.out.size))
  clear hb Ba2 Bb2 Br2 HB2 ya0 ya1 ya2 ya3 yb0 yb1 yb2 yb3 yr0 yr1 yr2 yr3
  obtain ⟨ya0, ya1, ya2, ya3⟩ := Ba3.out.four
  obtain ⟨yb0, yb1, yb2, yb3⟩ := Bb3.out.four
  obtain ⟨yr0, yr1, yr2, yr3⟩ := Br3.out.four
  have fr0 := Br3.out.free 0
  have fr1 := Br3.out.free 1
  have fr2 := Br3.out.free 2
  have fr3 := Br3.out.free 3
  go_wp2
  refine bodyPost_ret (results_dec2 rfl _ _ _ _ _ _ _ rfl (Br3.out.put4 _ _ _ _)) rfl ?_
  exact ⟨rfl, below_put4 (HB3.out) (by omega) _ _ _ _⟩

set_option maxRecDepth 100000 in
set_option maxHeartbeats 2000000 in
theorem Mul_if (na : Bool) (nb : Bool) (tb : ByteArray) (eb : Int) (w : World) (ha : MayD  1 na (bys ⟨#[]⟩) ( 0)) (hb0 : MayD  0 nb (bys tb) ( eb)) (hb1 : tb.size ≠ 0) : Calls Tryz.prog 30 #[.agg #[.int .i64 1, .bool na, .string ⟨#[]⟩, .int .i64 0], .agg #[.int .i64 0, .bool nb, .string tb, .int .i64 eb]] w fun e w' => e = .returned (.tuple #[.agg #[.int .i64 1, .bool (na != nb), .string ⟨#[]⟩, .int .i64 0], .int .i64 0]) ∧ Below w.heap.size w w' := by
  have MA := hide (fun W => dmay_yes  1 na ⟨#[]⟩ ( 0) W ha)
  have MB := hide (fun W => dmay_yes  0 nb tb ( eb) W hb0)
  have IB := hide (fun W => isZero_fin nb tb eb W hb1)
  clear hb1
  clear ha hb0
  have Ba0 := hide (((Blk.newAt w (w.heap.size) (rfl) #[.int .i64 1, .bool na, .string ⟨#[]⟩, .int .i64 0] 23).alloc (.cells #[.int .i64 0, .bool nb, .string tb, .int .i64 eb] 23)).alloc (.cells #[.int .i64 0, .bool false, .string ⟨#[]⟩, .int .i64 0] 23))
  have Bb0 := hide ((Blk.newAt (w.alloc (.cells #[.int .i64 1, .bool na, .string ⟨#[]⟩, .int .i64 0] 23)) (w.heap.size + 1) (by simp) #[.int .i64 0, .bool nb, .string tb, .int .i64 eb] 23).alloc (.cells #[.int .i64 0, .bool false, .string ⟨#[]⟩, .int .i64 0] 23))
  have Br0 := hide (Blk.newAt ((w.alloc (.cells #[.int .i64 1, .bool na, .string ⟨#[]⟩, .int .i64 0] 23)).alloc (.cells #[.int .i64 0, .bool nb, .string tb, .int .i64 eb] 23)) (w.heap.size + 1 + 1) (by simp) #[.int .i64 0, .bool false, .string ⟨#[]⟩, .int .i64 0] 23)
  have HB0 : Hid (Below w.heap.size w (((w.alloc (.cells #[.int .i64 1, .bool na, .string ⟨#[]⟩, .int .i64 0] 23)).alloc (.cells #[.int .i64 0, .bool nb, .string tb, .int .i64 eb] 23)).alloc (.cells #[.int .i64 0, .bool false, .string ⟨#[]⟩, .int .i64 0] 23))) := ((((Below.refl _ _).alloc (Nat.le_refl _) _).alloc (by simp <;> omega) _).alloc (by simp <;> omega) _)
  go_enter Tryz.func30, Tryz.ntmps30
  go_wp2_with fail
  refine (MA.out _).mono ?_
  rintro e w1 ⟨rfl, hb⟩
  have Ba1 := Blk.on Ba0 hb
  have Bb1 := Blk.on Bb0 hb
  have Br1 := Blk.on Br0 hb
  have HB1 := hide (HB0.out.trans (hb.mono HB0.out.size))
  clear hb Ba0 Bb0 Br0 HB0 
  obtain ⟨ya0, ya1, ya2, ya3⟩ := Ba1.out.four
  obtain ⟨yb0, yb1, yb2, yb3⟩ := Bb1.out.four
  obtain ⟨yr0, yr1, yr2, yr3⟩ := Br1.out.four
  go_wp2_with fail
  refine (MB.out _).mono ?_
  rintro e w2 ⟨rfl, hb⟩
  have Ba2 := Blk.on Ba1 hb
  have Bb2 := Blk.on Bb1 hb
  have Br2 := Blk.on Br1 hb
  have HB2 := hide (HB1.out.trans (hb.mono HB1.out.size))
  clear hb Ba1 Bb1 Br1 HB1 ya0 ya1 ya2 ya3 yb0 yb1 yb2 yb3 yr0 yr1 yr2 yr3
  obtain ⟨ya0, ya1, ya2, ya3⟩ := Ba2.out.four
  obtain ⟨yb0, yb1, yb2, yb3⟩ := Bb2.out.four
  obtain ⟨yr0, yr1, yr2, yr3⟩ := Br2.out.four
  go_wp2_with fail
  refine (isZero_1 _ _ _ _).mono ?_
  rintro e w3 ⟨rfl, hb⟩
  have Ba3 := Blk.on Ba2 hb
  have Bb3 := Blk.on Bb2 hb
  have Br3 := Blk.on Br2 hb
  have HB3 := hide (HB2.out.trans (hb.mono HB2.out.size))
  clear hb Ba2 Bb2 Br2 HB2 ya0 ya1 ya2 ya3 yb0 yb1 yb2 yb3 yr0 yr1 yr2 yr3
  obtain ⟨ya0, ya1, ya2, ya3⟩ := Ba3.out.four
  obtain ⟨yb0, yb1, yb2, yb3⟩ := Bb3.out.four
  obtain ⟨yr0, yr1, yr2, yr3⟩ := Br3.out.four
  go_wp2_with fail
  refine (IB.out _).mono ?_
  rintro e w4 ⟨rfl, hb⟩
  have Ba4 := Blk.on Ba3 hb
  have Bb4 := Blk.on Bb3 hb
  have Br4 := Blk.on Br3 hb
  have HB4 := hide (HB3.out.trans (hb.mono HB3.out.size))
  clear hb Ba3 Bb3 Br3 HB3 ya0 ya1 ya2 ya3 yb0 yb1 yb2 yb3 yr0 yr1 yr2 yr3
  obtain ⟨ya0, ya1, ya2, ya3⟩ := Ba4.out.four
  obtain ⟨yb0, yb1, yb2, yb3⟩ := Bb4.out.four
  obtain ⟨yr0, yr1, yr2, yr3⟩ := Br4.out.four
  have fr0 := Br4.out.free 0
  have fr1 := Br4.out.free 1
  have fr2 := Br4.out.free 2
  have fr3 := Br4.out.free 3
  go_wp2
  refine bodyPost_ret (results_dec2 rfl _ _ _ _ _ _ _ rfl (Br4.out.put4 _ _ _ _)) rfl ?_
  exact ⟨rfl, below_put4 (HB4.out) (by omega) _ _ _ _⟩

set_option maxRecDepth 100000 in
set_option maxHeartbeats 2000000 in
theorem Mul_fi (na : Bool) (ta : ByteArray) (ea : Int) (nb : Bool) (w : World) (ha : MayD  0 na (bys ta) ( ea)) (hb0 : MayD  1 nb (bys ⟨#[]⟩) ( 0)) (ha1 : ta.size ≠ 0) : Calls Tryz.prog 30 #[.agg #[.int .i64 0, .bool na, .string ta, .int .i64 ea], .agg #[.int .i64 1, .bool nb, .string ⟨#[]⟩, .int .i64 0]] w fun e w' => e = .returned (.tuple #[.agg #[.int .i64 1, .bool (na != nb), .string ⟨#[]⟩, .int .i64 0], .int .i64 0]) ∧ Below w.heap.size w w' := by
  have MA := hide (fun W => dmay_yes  0 na ta ( ea) W ha)
  have MB := hide (fun W => dmay_yes  1 nb ⟨#[]⟩ ( 0) W hb0)
  have IA := hide (fun W => isZero_fin na ta ea W ha1)
  clear ha1
  clear ha hb0
  have Ba0 := hide (((Blk.newAt w (w.heap.size) (rfl) #[.int .i64 0, .bool na, .string ta, .int .i64 ea] 23).alloc (.cells #[.int .i64 1, .bool nb, .string ⟨#[]⟩, .int .i64 0] 23)).alloc (.cells #[.int .i64 0, .bool false, .string ⟨#[]⟩, .int .i64 0] 23))
  have Bb0 := hide ((Blk.newAt (w.alloc (.cells #[.int .i64 0, .bool na, .string ta, .int .i64 ea] 23)) (w.heap.size + 1) (by simp) #[.int .i64 1, .bool nb, .string ⟨#[]⟩, .int .i64 0] 23).alloc (.cells #[.int .i64 0, .bool false, .string ⟨#[]⟩, .int .i64 0] 23))
  have Br0 := hide (Blk.newAt ((w.alloc (.cells #[.int .i64 0, .bool na, .string ta, .int .i64 ea] 23)).alloc (.cells #[.int .i64 1, .bool nb, .string ⟨#[]⟩, .int .i64 0] 23)) (w.heap.size + 1 + 1) (by simp) #[.int .i64 0, .bool false, .string ⟨#[]⟩, .int .i64 0] 23)
  have HB0 : Hid (Below w.heap.size w (((w.alloc (.cells #[.int .i64 0, .bool na, .string ta, .int .i64 ea] 23)).alloc (.cells #[.int .i64 1, .bool nb, .string ⟨#[]⟩, .int .i64 0] 23)).alloc (.cells #[.int .i64 0, .bool false, .string ⟨#[]⟩, .int .i64 0] 23))) := ((((Below.refl _ _).alloc (Nat.le_refl _) _).alloc (by simp <;> omega) _).alloc (by simp <;> omega) _)
  go_enter Tryz.func30, Tryz.ntmps30
  go_wp2_with fail
  refine (MA.out _).mono ?_
  rintro e w1 ⟨rfl, hb⟩
  have Ba1 := Blk.on Ba0 hb
  have Bb1 := Blk.on Bb0 hb
  have Br1 := Blk.on Br0 hb
  have HB1 := hide (HB0.out.trans (hb.mono HB0.out.size))
  clear hb Ba0 Bb0 Br0 HB0 
  obtain ⟨ya0, ya1, ya2, ya3⟩ := Ba1.out.four
  obtain ⟨yb0, yb1, yb2, yb3⟩ := Bb1.out.four
  obtain ⟨yr0, yr1, yr2, yr3⟩ := Br1.out.four
  go_wp2_with fail
  refine (MB.out _).mono ?_
  rintro e w2 ⟨rfl, hb⟩
  have Ba2 := Blk.on Ba1 hb
  have Bb2 := Blk.on Bb1 hb
  have Br2 := Blk.on Br1 hb
  have HB2 := hide (HB1.out.trans (hb.mono HB1.out.size))
  clear hb Ba1 Bb1 Br1 HB1 ya0 ya1 ya2 ya3 yb0 yb1 yb2 yb3 yr0 yr1 yr2 yr3
  obtain ⟨ya0, ya1, ya2, ya3⟩ := Ba2.out.four
  obtain ⟨yb0, yb1, yb2, yb3⟩ := Bb2.out.four
  obtain ⟨yr0, yr1, yr2, yr3⟩ := Br2.out.four
  go_wp2_with fail
  refine (IA.out _).mono ?_
  rintro e w3 ⟨rfl, hb⟩
  have Ba3 := Blk.on Ba2 hb
  have Bb3 := Blk.on Bb2 hb
  have Br3 := Blk.on Br2 hb
  have HB3 := hide (HB2.out.trans (hb.mono HB2.out.size))
  clear hb Ba2 Bb2 Br2 HB2 ya0 ya1 ya2 ya3 yb0 yb1 yb2 yb3 yr0 yr1 yr2 yr3
  obtain ⟨ya0, ya1, ya2, ya3⟩ := Ba3.out.four
  obtain ⟨yb0, yb1, yb2, yb3⟩ := Bb3.out.four
  obtain ⟨yr0, yr1, yr2, yr3⟩ := Br3.out.four
  go_wp2_with fail
  refine (isZero_1 _ _ _ _).mono ?_
  rintro e w4 ⟨rfl, hb⟩
  have Ba4 := Blk.on Ba3 hb
  have Bb4 := Blk.on Bb3 hb
  have Br4 := Blk.on Br3 hb
  have HB4 := hide (HB3.out.trans (hb.mono HB3.out.size))
  clear hb Ba3 Bb3 Br3 HB3 ya0 ya1 ya2 ya3 yb0 yb1 yb2 yb3 yr0 yr1 yr2 yr3
  obtain ⟨ya0, ya1, ya2, ya3⟩ := Ba4.out.four
  obtain ⟨yb0, yb1, yb2, yb3⟩ := Bb4.out.four
  obtain ⟨yr0, yr1, yr2, yr3⟩ := Br4.out.four
  have fr0 := Br4.out.free 0
  have fr1 := Br4.out.free 1
  have fr2 := Br4.out.free 2
  have fr3 := Br4.out.free 3
  go_wp2
  refine bodyPost_ret (results_dec2 rfl _ _ _ _ _ _ _ rfl (Br4.out.put4 _ _ _ _)) rfl ?_
  exact ⟨rfl, below_put4 (HB4.out) (by omega) _ _ _ _⟩

end Go.Proofs.YtafljhfamjabeaaGreatDoor

namespace Go.Proofs.YtafljhfamjabeaaGreatDoor
open Go.RowKit

/-- A finite number, counted in 10^x. -/
def zc (d : DecT) (x : Int) : Int := zv d.neg (decV d.dig * 10 ^ (d.exp - x).toNat)

def nanD : DecT := ⟨2, false, [], 0⟩

/-- What Add answers of two that may be. -/
noncomputable def sumT (a b : DecT) : DecT × Int :=
  if a.cls = 0 ∧ b.cls = 0 then tellF (decide (zc a (min a.exp b.exp) + zc b (min a.exp b.exp) < 0) || (a.neg && b.neg)) (zc a (min a.exp b.exp) + zc b (min a.exp b.exp)).natAbs (min a.exp b.exp)
  else if a.cls = 2 ∨ b.cls = 2 then (nanD, 0)
  else if b.cls = 0 then (a, 0)
  else if a.cls = 0 then (b, 0)
  else if a.neg = b.neg then (a, 0) else (nanD, 0)

/-- What Mul answers of two that may be. -/
noncomputable def prodT (a b : DecT) : DecT × Int :=
  if a.cls = 0 ∧ b.cls = 0 then tellF (a.neg != b.neg) (decV a.dig * decV b.dig) (a.exp + b.exp)
  else if a.cls = 2 ∨ b.cls = 2 ∨ (a.cls = 0 ∧ a.dig = []) ∨ (b.cls = 0 ∧ b.dig = []) then (nanD, 0)
  else (⟨1, a.neg != b.neg, [], 0⟩, 0)

/-- A finite one that may be. -/
structure Fz (d : DecT) : Prop where
  cls : d.cls = 0
  len : d.dig.length ≤ 1000
  lo : -3000 ≤ d.exp
  hi : d.exp ≤ 2000
  dig : DigB d.dig

theorem may_fz {d : DecT} (h : May d) (hc : d.cls = 0) : Fz d := by
  rcases may_cases h with ⟨n, rfl⟩ | h | ⟨n, rfl⟩ | rfl
  · exact ⟨rfl, by simp, by simp, by simp, fun k hk => by simp at hk⟩
  · have h1 := h.len
    have h2 := h.lo
    have h3 := h.hi
    exact ⟨h.cls, h1, by omega, by omega, h.dig⟩
  · cases hc
  · cases hc

theorem decVal_0 {d : DecT} (h : d.cls = 0) : decVal d = dcV 0 d.neg ⟨d.dig.toArray⟩ d.exp := by unfold decVal; rw [h]; rfl

theorem zc_lt {d : DecT} (h : Fz d) {x : Int} (hx : -3000 ≤ x) : ∃ k, k ≤ 6000 ∧ (zc d x).natAbs < 10 ^ k := by
  unfold zc
  rw [zv_abs]
  have h1 := decV_lt _ d.dig rfl h.dig
  have h2 : decV d.dig * 10 ^ (d.exp - x).toNat < 10 ^ d.dig.length * 10 ^ (d.exp - x).toNat := Nat.mul_lt_mul_of_pos_right h1 (Nat.pow_pos (by omega))
  rw [← Nat.pow_add] at h2
  refine ⟨d.dig.length + (d.exp - x).toNat, ?_, h2⟩
  have := h.len
  have := h.hi
  omega

theorem zc_sm {d : DecT} (h : Fz d) {x : Int} (hx : -3000 ≤ x) : Sm (zc d x).natAbs := by
  obtain ⟨k, h1, h2⟩ := zc_lt h hx
  exact Sm.of h2 (by omega)

theorem lt_sum {x y a b : Nat} (h1 : x < 10 ^ a) (h2 : y < 10 ^ b) : x + y < 10 ^ (max a b + 1) := by
  have p1 : 10 ^ a ≤ 10 ^ max a b := Nat.pow_le_pow_right (by omega) (by omega)
  have p2 : 10 ^ b ≤ 10 ^ max a b := Nat.pow_le_pow_right (by omega) (by omega)
  rw [Nat.pow_succ]
  omega

theorem lt_prod {x y a b : Nat} (h1 : x < 10 ^ a) (h2 : y < 10 ^ b) : x * y < 10 ^ (a + b + 1) := by
  have q3 : x * y ≤ 10 ^ a * 10 ^ b := Nat.mul_le_mul (by omega) (by omega)
  rw [← Nat.pow_add] at q3
  exact Nat.lt_of_le_of_lt q3 (Nat.pow_lt_pow_right (by omega) (by omega))

theorem counted_d (d : DecT) (x : Int) (hm : May d) (hc : d.cls = 0) (h1 : -3000 ≤ x) (h2 : x ≤ d.exp) (W : World) : Calls Tryz.prog 72 #[dcV 0 d.neg ⟨d.dig.toArray⟩ d.exp, .int .i64 x] W (ZtPost W (zc d x)) := by
  have fz := may_fz hm hc
  rcases may_cases hm with ⟨n, rfl⟩ | h | ⟨n, rfl⟩ | rfl
  · have e : zc ⟨0, n, [], 0⟩ x = 0 := by unfold zc; simp [decV, zv]
    rw [e]
    exact counted_nil n 0 x W
  · have s1 : (⟨d.dig.toArray⟩ : ByteArray).size = d.dig.length := size_mk0 _
    have sm := zc_sm fz h1
    unfold zc at sm ⊢
    rw [zv_abs] at sm
    have p := List.length_pos_iff.2 h.ne
    have l := h.len
    have hi := fz.hi
    have g := counted_fin d.neg ⟨d.dig.toArray⟩ d.exp x (d.exp - x).toNat W (by rw [s1]; omega) (by rw [s1]; exact l) (by rw [bys_mk]; exact h.okT) (by rw [bys_mk]; exact h.first) (by omega) (by omega) (by rw [bys_mk]; exact sm)
    rw [bys_mk] at g
    exact g
  · cases hc
  · cases hc

theorem dd_few {N k : Nat} (h : N < 10 ^ k) (hk : 1 ≤ k) : (Lib.decDigits N).length ≤ k := sizeN_le h hk

theorem sum_d (a b : DecT) (ha : May a) (hb : May b) (ca : a.cls = 0) (cb : b.cls = 0) (w : World) (htab : Tab w) :
    Calls Tryz.prog 46 #[dcV 0 a.neg ⟨a.dig.toArray⟩ a.exp, dcV 0 b.neg ⟨b.dig.toArray⟩ b.exp] w fun e w' => e = .returned (decErr (sumT a b)) ∧ Below w.heap.size w w' := by
  have fa := may_fz ha ca
  have fb := may_fz hb cb
  have x1 : -3000 ≤ min a.exp b.exp := by have := fa.lo; have := fb.lo; omega
  unfold sumT
  rw [if_pos ⟨ca, cb⟩]
  have la := fa.lo
  have lb := fb.lo
  have ha2 := fa.hi
  have hb2 := fb.hi
  obtain ⟨k1, l1, l2⟩ := zc_lt fa x1
  obtain ⟨k2, m1, m2⟩ := zc_lt fb x1
  refine sum_gen a.neg ⟨a.dig.toArray⟩ a.exp b.neg ⟨b.dig.toArray⟩ b.exp _ _ w (fun W => counted_d a _ ha ca x1 (by omega) W) (fun W => counted_d b _ hb cb x1 (by omega) W) (zc_sm fa x1) (zc_sm fb x1) htab ?_ ⟨by omega, by omega, by omega, by omega⟩
  refine Nat.le_trans (dd_few (Nat.lt_of_le_of_lt (Int.natAbs_add_le _ _) (lt_sum l2 m2)) (by omega)) (by omega)

theorem prod_d (a b : DecT) (ha : May a) (hb : May b) (ca : a.cls = 0) (cb : b.cls = 0) (w : World) (htab : Tab w) :
    Calls Tryz.prog 49 #[.bool (a.neg != b.neg), dcV 0 a.neg ⟨a.dig.toArray⟩ a.exp, dcV 0 b.neg ⟨b.dig.toArray⟩ b.exp] w fun e w' => e = .returned (decErr (prodT a b)) ∧ Below w.heap.size w w' := by
  have fa := may_fz ha ca
  have fb := may_fz hb cb
  unfold prodT
  rw [if_pos ⟨ca, cb⟩]
  have la := fa.lo
  have lb := fb.lo
  have ha2 := fa.hi
  have hb2 := fb.hi
  have za : (zc a a.exp).natAbs = decV a.dig := by unfold zc; rw [zv_abs, Int.sub_self]; simp
  have zb : (zc b b.exp).natAbs = decV b.dig := by unfold zc; rw [zv_abs, Int.sub_self]; simp
  have g := prod_gen (a.neg != b.neg) a.neg ⟨a.dig.toArray⟩ a.exp b.neg ⟨b.dig.toArray⟩ b.exp _ _ w (fun W => counted_d a _ ha ca la (by omega) W) (fun W => counted_d b _ hb cb lb (by omega) W) (zc_sm fa la) (zc_sm fb lb) htab ?_ ⟨by omega, by omega, by omega, by omega⟩
  · rw [za, zb] at g
    exact g
  · rw [za, zb]
    have p1 := decV_lt _ a.dig rfl fa.dig
    have p2 := decV_lt _ b.dig rfl fb.dig
    have q1 := fa.len
    have q2 := fb.len
    exact Nat.le_trans (dd_few (lt_prod p1 p2) (by omega)) (by omega)

theorem mayd {d : DecT} (h : May d) : MayD (d.cls : Int) d.neg (bys ⟨d.dig.toArray⟩) d.exp := by rw [bys_mk]; exact h

theorem Add_d (a b : DecT) (ha : May a) (hb : May b) (w : World) (htab : Tab w) : Calls Tryz.prog 28 #[decVal a, decVal b] w fun e w' => e = .returned (decErr (sumT a b)) ∧ Below w.heap.size w w' := by
  by_cases ca : a.cls = 0
  · by_cases cb : b.cls = 0
    · have ma := mayd ha
      have mb := mayd hb
      rw [ca] at ma
      rw [cb] at mb
      rw [decVal_0 ca, decVal_0 cb]
      exact Add_ff a.neg ⟨a.dig.toArray⟩ a.exp b.neg ⟨b.dig.toArray⟩ b.exp w ma mb _ htab (fun W hW => sum_d a b ha hb ca cb W hW)
    · have ma := mayd ha
      have mb := mayd hb
      rw [ca] at ma
      rw [decVal_0 ca]
      unfold sumT
      rw [if_neg (fun e => cb e.2)]
      rcases may_cases hb with ⟨n, rfl⟩ | h | ⟨n, rfl⟩ | rfl
      · exact absurd rfl cb
      · exact absurd h.cls cb
      · rw [if_neg (by simp [ca]), if_neg (by simp), if_pos ca]
        exact Add_fi a.neg ⟨a.dig.toArray⟩ a.exp n w ma mb
      · rw [if_pos (by simp)]
        exact Add_fn a.neg ⟨a.dig.toArray⟩ a.exp w ma mb
  · have ma := mayd ha
    have mb := mayd hb
    unfold sumT
    rw [if_neg (fun e => ca e.1)]
    rcases may_cases ha with ⟨n, rfl⟩ | h | ⟨n, rfl⟩ | rfl
    · exact absurd rfl ca
    · exact absurd h.cls ca
    · by_cases cb : b.cls = 0
      · rw [if_neg (by simp [cb]), if_pos cb, decVal_0 cb]
        rw [cb] at mb
        exact Add_if n b.neg ⟨b.dig.toArray⟩ b.exp w ma mb
      · rcases may_cases hb with ⟨m, rfl⟩ | h | ⟨m, rfl⟩ | rfl
        · exact absurd rfl cb
        · exact absurd h.cls cb
        · rw [if_neg (by simp), if_neg (by simp), if_neg (by simp)]
          cases n <;> cases m
          · exact Add_ii_false_false w ma mb
          · exact Add_ii_false_true w ma mb
          · exact Add_ii_true_false w ma mb
          · exact Add_ii_true_true w ma mb
        · rw [if_pos (by simp)]
          exact Add_in n w ma mb
    · rw [if_pos (by simp)]
      by_cases cb : b.cls = 0
      · rw [decVal_0 cb]
        rw [cb] at mb
        exact Add_nf b.neg ⟨b.dig.toArray⟩ b.exp w ma mb
      · rcases may_cases hb with ⟨m, rfl⟩ | h | ⟨m, rfl⟩ | rfl
        · exact absurd rfl cb
        · exact absurd h.cls cb
        · exact Add_ni m w ma mb
        · exact Add_nn w ma mb

theorem Mul_d (a b : DecT) (ha : May a) (hb : May b) (w : World) (htab : Tab w) : Calls Tryz.prog 30 #[decVal a, decVal b] w fun e w' => e = .returned (decErr (prodT a b)) ∧ Below w.heap.size w w' := by
  by_cases ca : a.cls = 0
  · by_cases cb : b.cls = 0
    · have ma := mayd ha
      have mb := mayd hb
      rw [ca] at ma
      rw [cb] at mb
      rw [decVal_0 ca, decVal_0 cb]
      exact Mul_ff a.neg ⟨a.dig.toArray⟩ a.exp b.neg ⟨b.dig.toArray⟩ b.exp w ma mb _ htab (fun W hW => prod_d a b ha hb ca cb W hW)
    · have ma := mayd ha
      have mb := mayd hb
      unfold prodT
      rw [if_neg (fun e => cb e.2)]
      rcases may_cases hb with ⟨n, rfl⟩ | h | ⟨n, rfl⟩ | rfl
      · exact absurd rfl cb
      · exact absurd h.cls cb
      · rcases may_cases ha with ⟨m, rfl⟩ | h | ⟨m, rfl⟩ | rfl
        · rw [if_pos (by simp)]
          exact Mul_zi m n w ma mb
        · rw [if_neg (by simp [ca, h.ne]), decVal_0 ca]
          rw [ca] at ma
          exact Mul_fi a.neg ⟨a.dig.toArray⟩ a.exp n w ma mb (by rw [size_mk0]; exact fun e => h.ne (List.length_eq_zero_iff.1 e))
        · cases ca
        · cases ca
      · rw [if_pos (by simp), decVal_0 ca]
        rw [ca] at ma
        exact Mul_fn a.neg ⟨a.dig.toArray⟩ a.exp w ma mb
  · have ma := mayd ha
    have mb := mayd hb
    unfold prodT
    rw [if_neg (fun e => ca e.1)]
    rcases may_cases ha with ⟨n, rfl⟩ | h | ⟨n, rfl⟩ | rfl
    · exact absurd rfl ca
    · exact absurd h.cls ca
    · rcases may_cases hb with ⟨m, rfl⟩ | h | ⟨m, rfl⟩ | rfl
      · rw [if_pos (by simp)]
        exact Mul_iz n m w ma mb
      · have cb := h.cls
        rw [if_neg (by simp [cb, h.ne]), decVal_0 cb]
        rw [cb] at mb
        exact Mul_if n b.neg ⟨b.dig.toArray⟩ b.exp w ma mb (by rw [size_mk0]; exact fun e => h.ne (List.length_eq_zero_iff.1 e))
      · rw [if_neg (by simp)]
        exact Mul_ii n m w ma mb
      · rw [if_pos (by simp)]
        exact Mul_in n w ma mb
    · rw [if_pos (by simp)]
      by_cases cb : b.cls = 0
      · rw [decVal_0 cb]
        rw [cb] at mb
        exact Mul_nf b.neg ⟨b.dig.toArray⟩ b.exp w ma mb
      · rcases may_cases hb with ⟨m, rfl⟩ | h | ⟨m, rfl⟩ | rfl
        · exact absurd rfl cb
        · exact absurd h.cls cb
        · exact Mul_ni m w ma mb
        · exact Mul_nn w ma mb

end Go.Proofs.YtafljhfamjabeaaGreatDoor

namespace Go.Proofs.YtafljhfamjabeaaGreatDoor
open Go.RowKit

theorem rmay_d {d : DecT} (h : May d) (W : World) : Calls Tryz.prog 15 #[.agg #[.int .i64 (d.cls : Int), .bool d.neg, .string ⟨d.dig.toArray⟩, .int .i64 d.exp]] W fun e w' => e = .returned (.bool true) ∧ Below W.heap.size W w' := rmay_yes _ _ _ _ W (mayd h)

theorem zc_ten (d : DecT) (x : Int) : zv d.neg (decV d.dig) * ((10 ^ (d.exp - x).toNat : Nat) : Int) = zc d x := by
  unfold zc zv
  cases d.neg
  · simp only [Bool.false_eq_true, if_false]; rw [Int.natCast_mul]
  · simp only [if_true]; rw [Int.natCast_mul, Int.neg_mul]

theorem zc_neg {d : DecT} (h : d.neg = true) (x : Int) : zc d x ≤ 0 := by unfold zc zv; rw [h, if_pos rfl]; omega

theorem radd_fin_d (a b : DecT) (ha : May a) (hb : May b) (ca : a.cls = 0) (cb : b.cls = 0) (W : World) : Calls Tryz.prog 29 #[decVal a, decVal b] W fun e w' => e = .returned (decErr (sumT a b)) ∧ Below W.heap.size W w' := by
  have fa := may_fz ha ca
  have fb := may_fz hb cb
  have la := fa.lo
  have lb := fb.lo
  have ha2 := fa.hi
  have hb2 := fb.hi
  have x1 : -3000 ≤ min a.exp b.exp := by omega
  have mya := fun W => rmay_d ha W
  have myb := fun W => rmay_d hb W
  rw [decVal_0 ca, decVal_0 cb]
  rw [ca] at mya
  rw [cb] at myb
  unfold sumT
  rw [if_pos ⟨ca, cb⟩]
  obtain ⟨k1, l1, l2⟩ := zc_lt fa x1
  obtain ⟨k2, m1, m2⟩ := zc_lt fb x1
  have hsz : sizeN (zc a (min a.exp b.exp) + zc b (min a.exp b.exp)).natAbs ≤ 20000 := Nat.le_trans (sizeN_le (Nat.lt_of_le_of_lt (Int.natAbs_add_le _ _) (lt_sum l2 m2)) (by omega)) (by omega)
  have sa : (⟨a.dig.toArray⟩ : ByteArray).size ≤ 1000 := by rw [size_mk0]; exact fa.len
  have sb : (⟨b.dig.toArray⟩ : ByteArray).size ≤ 1000 := by rw [size_mk0]; exact fb.len
  have da : DigB (bys ⟨a.dig.toArray⟩) := by rw [bys_mk]; exact fa.dig
  have db : DigB (bys ⟨b.dig.toArray⟩) := by rw [bys_mk]; exact fb.dig
  have hz : zv a.neg (decV (bys ⟨a.dig.toArray⟩)) * ((10 ^ (a.exp - min a.exp b.exp).toNat : Nat) : Int) + zv b.neg (decV (bys ⟨b.dig.toArray⟩)) * ((10 ^ (b.exp - min a.exp b.exp).toNat : Nat) : Int) = zc a (min a.exp b.exp) + zc b (min a.exp b.exp) := by
    rw [bys_mk, bys_mk, zc_ten, zc_ten]
  have hsg : (decide (zc a (min a.exp b.exp) + zc b (min a.exp b.exp) < 0) || (a.neg && b.neg)) = (if zc a (min a.exp b.exp) + zc b (min a.exp b.exp) = 0 then (a.neg && b.neg) else decide (zc a (min a.exp b.exp) + zc b (min a.exp b.exp) < 0)) := by
    by_cases h0 : zc a (min a.exp b.exp) + zc b (min a.exp b.exp) = 0
    · rw [if_pos h0, h0]; simp
    · rw [if_neg h0]
      by_cases hn : (a.neg && b.neg) = true
      · have h1 := zc_neg (d := a) (by simp at hn; exact hn.1) (min a.exp b.exp)
        have h2 := zc_neg (d := b) (by simp at hn; exact hn.2) (min a.exp b.exp)
        rw [hn, decide_eq_true (show zc a (min a.exp b.exp) + zc b (min a.exp b.exp) < 0 by omega)]; rfl
      · rw [Bool.not_eq_true] at hn; rw [hn, Bool.or_false]
  rw [hsg]
  generalize zc a (min a.exp b.exp) + zc b (min a.exp b.exp) = z at *
  cases hna : a.neg
  · rw [hna] at mya hz
    exact radd_fin_false b.neg _ _ a.exp b.exp _ _ z W mya myb sa sb da db ⟨x1, by omega⟩ (by omega) (by omega) (by omega) (by omega) hz hsz
  · rw [hna] at mya hz
    exact radd_fin_true b.neg _ _ a.exp b.exp _ _ z W mya myb sa sb da db ⟨x1, by omega⟩ (by omega) (by omega) (by omega) (by omega) hz hsz

theorem may_inf {d : DecT} (h : May d) (h0 : d.cls ≠ 0) (h2 : d.cls ≠ 2) : ∃ n, d = ⟨1, n, [], 0⟩ := by
  rcases may_cases h with ⟨n, rfl⟩ | h | ⟨n, rfl⟩ | rfl
  · exact absurd rfl h0
  · exact absurd h.cls h0
  · exact ⟨n, rfl⟩
  · exact absurd rfl h2
theorem may_nan {d : DecT} (h : May d) (h2 : d.cls = 2) : d = ⟨2, false, [], 0⟩ := by
  rcases may_cases h with ⟨n, rfl⟩ | h | ⟨n, rfl⟩ | rfl
  · cases h2
  · rw [h.cls] at h2; cases h2
  · cases h2
  · rfl

theorem radd_d (a b : DecT) (ha : May a) (hb : May b) (W : World) : Calls Tryz.prog 29 #[decVal a, decVal b] W fun e w' => e = .returned (decErr (sumT a b)) ∧ Below W.heap.size W w' := by
  by_cases a0 : a.cls = 0
  · by_cases b0 : b.cls = 0
    · exact radd_fin_d a b ha hb a0 b0 W
    · by_cases b2 : b.cls = 2
      · have e : sumT a b = (nanD, 0) := by unfold sumT; rw [if_neg (fun h => b0 h.2), if_pos (.inr b2)]
        rw [e]
        have mya := fun W => rmay_d ha W
        have myb := fun W => rmay_d hb W
        obtain rfl := may_nan hb b2
        exact radd_nan2 (a.cls : Int) a.neg false ⟨a.dig.toArray⟩ ⟨#[]⟩ a.exp 0 W mya myb (by rw [a0]; rfl)
      · have e : sumT a b = (b, 0) := by unfold sumT; rw [if_neg (fun h => b0 h.2), if_neg (fun h => by rcases h with h | h <;> omega), if_neg b0, if_pos a0]
        rw [e]
        have mya := fun W => rmay_d ha W
        have myb := fun W => rmay_d hb W
        rw [a0] at mya
        rw [decVal_0 a0]
        obtain ⟨n, rfl⟩ := may_inf hb b0 b2
        exact radd_infb a.neg n ⟨a.dig.toArray⟩ ⟨#[]⟩ a.exp 0 W mya myb
  · by_cases a2 : a.cls = 2
    · have e : sumT a b = (nanD, 0) := by unfold sumT; rw [if_neg (fun h => a0 h.1), if_pos (.inl a2)]
      rw [e]
      have mya := fun W => rmay_d ha W
      have myb := fun W => rmay_d hb W
      obtain rfl := may_nan ha a2
      exact radd_nan1 (b.cls : Int) false b.neg ⟨#[]⟩ ⟨b.dig.toArray⟩ 0 b.exp W mya myb
    · have mya := fun W => rmay_d ha W
      have myb := fun W => rmay_d hb W
      by_cases b2 : b.cls = 2
      · have e : sumT a b = (nanD, 0) := by unfold sumT; rw [if_neg (fun h => a0 h.1), if_pos (.inr b2)]
        rw [e]
        obtain ⟨n, rfl⟩ := may_inf ha a0 a2
        obtain rfl := may_nan hb b2
        exact radd_nan2 1 n false ⟨#[]⟩ ⟨#[]⟩ 0 0 W mya myb rfl
      · by_cases b0 : b.cls = 0
        · have e : sumT a b = (a, 0) := by unfold sumT; rw [if_neg (fun h => a0 h.1), if_neg (fun h => by rcases h with h | h <;> omega), if_pos b0]
          rw [e]
          rw [b0] at myb
          rw [decVal_0 b0]
          obtain ⟨n, rfl⟩ := may_inf ha a0 a2
          exact radd_infa n b.neg ⟨#[]⟩ ⟨b.dig.toArray⟩ 0 b.exp W mya myb
        · obtain ⟨n, rfl⟩ := may_inf ha a0 a2
          obtain ⟨m, rfl⟩ := may_inf hb b0 b2
          cases n <;> cases m
          · exact radd_inf_ff ⟨#[]⟩ ⟨#[]⟩ 0 0 W mya myb
          · exact radd_inf_ft ⟨#[]⟩ ⟨#[]⟩ 0 0 W mya myb
          · exact radd_inf_tf ⟨#[]⟩ ⟨#[]⟩ 0 0 W mya myb
          · exact radd_inf_tt ⟨#[]⟩ ⟨#[]⟩ 0 0 W mya myb

end Go.Proofs.YtafljhfamjabeaaGreatDoor

namespace Go.Proofs.YtafljhfamjabeaaGreatDoor
open Go.RowKit

set_option maxHeartbeats 1000000 in
theorem or_any (b : Nat) (x y : Int) (w : World) (h0 : w.cell? ⟨b, 0, none⟩ = some (.int .i64 x)) (h1 : w.cell? ⟨b, 1, none⟩ = some (.int .i64 y)) :
    Calls Tryz.prog 65 #[.slice (some ⟨b, 0, none⟩) 2 2] w fun e w' => e = .returned (.int .i64 (orI x y)) ∧ w = w' := by
  go_enter Tryz.func65, Tryz.ntmps65
  go_wp2
  go_loopw [8] (fun i wr => wr = w ∧ (i = .int .i64 0 ∨ (i = .int .i64 1 ∧ x = 0) ∨ (i = .int .i64 2 ∧ x = 0 ∧ y = 0))) (fun i _ => 2 - (intOf i).toNat)
  case atStart => exact ⟨rfl, .inl rfl⟩
  case round =>
    obtain ⟨rfl, rfl | ⟨rfl, rfl⟩ | ⟨rfl, rfl, rfl⟩⟩ := hrel
    · by_cases hx : x = 0
      · subst hx
        go_wp2
        exact ⟨by simp, by simp [intOf]⟩
      · have hx' : (x != 0) = true := by simpa using hx
        have HR : Hid (orI x y = x) := if_neg hx
        go_wp2
        go_ret
        exact ⟨by rw [HR.out]; rfl, rfl⟩
    · by_cases hy : y = 0
      · subst hy
        go_wp2
        exact ⟨by simp, by simp [intOf]⟩
      · have hy' : (y != 0) = true := by simpa using hy
        go_wp2
        go_ret
        exact ⟨rfl, rfl⟩
    · go_wp2
      go_ret
      exact ⟨rfl, rfl⟩

theorem or_alloc (X : World) (x y : Int) (T : TypeId) : Calls Tryz.prog 65 #[.slice (some ⟨X.heap.size, 0, none⟩) 2 2] (X.alloc (.cells #[.int .i64 x, .int .i64 y] T)) fun e w' => e = .returned (.int .i64 (orI x y)) ∧ Below X.heap.size X w' := by
  have b := Blk.new X #[.int .i64 x, .int .i64 y] T
  refine (or_any X.heap.size x y _ (b.cell 0) (b.cell 1)).mono ?_
  rintro e w' ⟨rfl, rfl⟩
  exact ⟨rfl, (Below.refl _ _).alloc (Nat.le_refl _) _⟩

set_option maxRecDepth 100000 in
set_option maxHeartbeats 2000000 in
theorem cmpA_any (ca : Int) (na : Bool) (ta : ByteArray) (ea : Int) (cb : Int) (nb : Bool) (tb : ByteArray) (eb : Int) (w : World) (a1 : ta.size ≤ 10000) (a2 : -10000 ≤ ea) (a3 : ea ≤ 10000) (b1 : tb.size ≤ 10000) (b2 : -10000 ≤ eb) (b3 : eb ≤ 10000) : Calls Tryz.prog 42 #[dcV ca na ta ea, dcV cb nb tb eb] w fun e w' => e = .returned (.int .i64 (orI (Lib.compareInt ((ta.size : Int) + ea) ((tb.size : Int) + eb)) (Lib.compareBytes (bys ta) (bys tb)))) ∧ Below w.heap.size w w' := by
  have PA := hide (fun W => place_any ca na ta ea W a1 a2 a3)
  have PB := hide (fun W => place_any cb nb tb eb W b1 b2 b3)
  obtain ⟨pa, hpa⟩ : ∃ p, p = (ta.size : Int) + ea := ⟨_, rfl⟩
  obtain ⟨pb, hpb⟩ : ∃ p, p = (tb.size : Int) + eb := ⟨_, rfl⟩
  rw [← hpa] at PA
  rw [← hpb] at PB
  have CI := hide (fun W => Tryz.cmp_Compare_int pa pb W)
  have CS := hide (fun W => Tryz.strings_Compare ta tb W)
  rw [← hpa, ← hpb]
  obtain ⟨x, hx⟩ : ∃ x, x = Lib.compareInt pa pb := ⟨_, rfl⟩
  obtain ⟨y, hy⟩ : ∃ y, y = Lib.compareBytes ta.data.toList tb.data.toList := ⟨_, rfl⟩
  rw [← hx] at CI
  rw [← hy] at CS
  have hy2 : Lib.compareBytes (bys ta) (bys tb) = y := hy.symm
  rw [hy2, ← hx]
  clear hpa hpb hx hy hy2 a1 a2 a3 b1 b2 b3
  have Ba0 := hide ((Blk.newAt w (w.heap.size) (rfl) #[.int .i64 ca, .bool na, .string ta, .int .i64 ea] 23).alloc (.cells #[.int .i64 cb, .bool nb, .string tb, .int .i64 eb] 23))
  have Bb0 := hide (Blk.newAt (w.alloc (.cells #[.int .i64 ca, .bool na, .string ta, .int .i64 ea] 23)) (w.heap.size + 1) (by simp) #[.int .i64 cb, .bool nb, .string tb, .int .i64 eb] 23)
  have HB0 : Hid (Below w.heap.size w ((w.alloc (.cells #[.int .i64 ca, .bool na, .string ta, .int .i64 ea] 23)).alloc (.cells #[.int .i64 cb, .bool nb, .string tb, .int .i64 eb] 23))) := (((Below.refl _ _).alloc (Nat.le_refl _) _).alloc (by simp <;> omega) _)
  obtain ⟨W, hW⟩ : ∃ W, W = ((w.alloc (.cells #[.int .i64 ca, .bool na, .string ta, .int .i64 ea] 23)).alloc (.cells #[.int .i64 cb, .bool nb, .string tb, .int .i64 eb] 23)) := ⟨_, rfl⟩
  rw [← hW] at HB0 Ba0 Bb0 
  have HW := hide hW
  clear hW
  have ya0 : W.cell? ⟨w.heap.size, 0, none⟩ = some (.int .i64 ca) := Ba0.out.cell 0
  have ya1 : W.cell? ⟨w.heap.size, 1, none⟩ = some (.bool na) := Ba0.out.cell 1
  have ya2 : W.cell? ⟨w.heap.size, 2, none⟩ = some (.string ta) := Ba0.out.cell 2
  have ya3 : W.cell? ⟨w.heap.size, 3, none⟩ = some (.int .i64 ea) := Ba0.out.cell 3
  have yb0 : W.cell? ⟨w.heap.size + 1, 0, none⟩ = some (.int .i64 cb) := Bb0.out.cell 0
  have yb1 : W.cell? ⟨w.heap.size + 1, 1, none⟩ = some (.bool nb) := Bb0.out.cell 1
  have yb2 : W.cell? ⟨w.heap.size + 1, 2, none⟩ = some (.string tb) := Bb0.out.cell 2
  have yb3 : W.cell? ⟨w.heap.size + 1, 3, none⟩ = some (.int .i64 eb) := Bb0.out.cell 3
  go_enter Tryz.func42, Tryz.ntmps42
  have b0 : Hid (Below W.heap.size W W.drew) := bdrewD W
  have C0 : Hid (∀ X, Hid (Below W.heap.size W X) → Calls Tryz.prog 33 #[dcV ca na ta ea] X fun e w' => e = .returned (.int .i64 pa) ∧ Hid (Below W.heap.size W w') ∧ w'.cell? ⟨w.heap.size, 0, none⟩ = some (.int .i64 ca) ∧ w'.cell? ⟨w.heap.size, 1, none⟩ = some (.bool na) ∧ w'.cell? ⟨w.heap.size, 2, none⟩ = some (.string ta) ∧ w'.cell? ⟨w.heap.size, 3, none⟩ = some (.int .i64 ea) ∧ w'.cell? ⟨w.heap.size + 1, 0, none⟩ = some (.int .i64 cb) ∧ w'.cell? ⟨w.heap.size + 1, 1, none⟩ = some (.bool nb) ∧ w'.cell? ⟨w.heap.size + 1, 2, none⟩ = some (.string tb) ∧ w'.cell? ⟨w.heap.size + 1, 3, none⟩ = some (.int .i64 eb)) := by
    intro X bX
    refine (PA.out X).mono ?_
    rintro e w' ⟨rfl, hb⟩
    have bb := bX.out.trans (hb.mono bX.out.size)
    have Baq := Ba0.out.below bb Ba0.out.lt
    have Bbq := Bb0.out.below bb Bb0.out.lt
    exact ⟨rfl, bb, Baq.cell 0, Baq.cell 1, Baq.cell 2, Baq.cell 3, Bbq.cell 0, Bbq.cell 1, Bbq.cell 2, Bbq.cell 3⟩
  have C1 : Hid (∀ X, Hid (Below W.heap.size W X) → Calls Tryz.prog 33 #[dcV cb nb tb eb] X fun e w' => e = .returned (.int .i64 pb) ∧ Hid (Below W.heap.size W w') ∧ w'.cell? ⟨w.heap.size, 0, none⟩ = some (.int .i64 ca) ∧ w'.cell? ⟨w.heap.size, 1, none⟩ = some (.bool na) ∧ w'.cell? ⟨w.heap.size, 2, none⟩ = some (.string ta) ∧ w'.cell? ⟨w.heap.size, 3, none⟩ = some (.int .i64 ea) ∧ w'.cell? ⟨w.heap.size + 1, 0, none⟩ = some (.int .i64 cb) ∧ w'.cell? ⟨w.heap.size + 1, 1, none⟩ = some (.bool nb) ∧ w'.cell? ⟨w.heap.size + 1, 2, none⟩ = some (.string tb) ∧ w'.cell? ⟨w.heap.size + 1, 3, none⟩ = some (.int .i64 eb)) := by
    intro X bX
    refine (PB.out X).mono ?_
    rintro e w' ⟨rfl, hb⟩
    have bb := bX.out.trans (hb.mono bX.out.size)
    have Baq := Ba0.out.below bb Ba0.out.lt
    have Bbq := Bb0.out.below bb Bb0.out.lt
    exact ⟨rfl, bb, Baq.cell 0, Baq.cell 1, Baq.cell 2, Baq.cell 3, Bbq.cell 0, Bbq.cell 1, Bbq.cell 2, Bbq.cell 3⟩
  have C2 : Hid (∀ X, Hid (Below W.heap.size W X) → Calls Tryz.prog 40 #[.int .i64 pa, .int .i64 pb] X fun e w' => e = .returned (.int .i64 x) ∧ Hid (Below W.heap.size W w') ∧ w'.cell? ⟨w.heap.size, 0, none⟩ = some (.int .i64 ca) ∧ w'.cell? ⟨w.heap.size, 1, none⟩ = some (.bool na) ∧ w'.cell? ⟨w.heap.size, 2, none⟩ = some (.string ta) ∧ w'.cell? ⟨w.heap.size, 3, none⟩ = some (.int .i64 ea) ∧ w'.cell? ⟨w.heap.size + 1, 0, none⟩ = some (.int .i64 cb) ∧ w'.cell? ⟨w.heap.size + 1, 1, none⟩ = some (.bool nb) ∧ w'.cell? ⟨w.heap.size + 1, 2, none⟩ = some (.string tb) ∧ w'.cell? ⟨w.heap.size + 1, 3, none⟩ = some (.int .i64 eb)) := by
    intro X bX
    refine (Calls.mono (CI.out X) (fun e w' h => (⟨h.1, h.2 ▸ Below.refl _ _⟩ : _ ∧ Below X.heap.size X w'))).mono ?_
    rintro e w' ⟨rfl, hb⟩
    have bb := bX.out.trans (hb.mono bX.out.size)
    have Baq := Ba0.out.below bb Ba0.out.lt
    have Bbq := Bb0.out.below bb Bb0.out.lt
    exact ⟨rfl, bb, Baq.cell 0, Baq.cell 1, Baq.cell 2, Baq.cell 3, Bbq.cell 0, Bbq.cell 1, Bbq.cell 2, Bbq.cell 3⟩
  have C3 : Hid (∀ X, Hid (Below W.heap.size W X) → Calls Tryz.prog 66 #[.string ta, .string tb] X fun e w' => e = .returned (.int .i64 y) ∧ Hid (Below W.heap.size W w') ∧ w'.cell? ⟨w.heap.size, 0, none⟩ = some (.int .i64 ca) ∧ w'.cell? ⟨w.heap.size, 1, none⟩ = some (.bool na) ∧ w'.cell? ⟨w.heap.size, 2, none⟩ = some (.string ta) ∧ w'.cell? ⟨w.heap.size, 3, none⟩ = some (.int .i64 ea) ∧ w'.cell? ⟨w.heap.size + 1, 0, none⟩ = some (.int .i64 cb) ∧ w'.cell? ⟨w.heap.size + 1, 1, none⟩ = some (.bool nb) ∧ w'.cell? ⟨w.heap.size + 1, 2, none⟩ = some (.string tb) ∧ w'.cell? ⟨w.heap.size + 1, 3, none⟩ = some (.int .i64 eb)) := by
    intro X bX
    refine (Calls.mono (CS.out X) (fun e w' h => (⟨h.1, h.2 ▸ Below.refl _ _⟩ : _ ∧ Below X.heap.size X w'))).mono ?_
    rintro e w' ⟨rfl, hb⟩
    have bb := bX.out.trans (hb.mono bX.out.size)
    have Baq := Ba0.out.below bb Ba0.out.lt
    have Bbq := Bb0.out.below bb Bb0.out.lt
    exact ⟨rfl, bb, Baq.cell 0, Baq.cell 1, Baq.cell 2, Baq.cell 3, Bbq.cell 0, Bbq.cell 1, Bbq.cell 2, Bbq.cell 3⟩
  have C4 : Hid (∀ X T, Hid (Below W.heap.size W X) → Calls Tryz.prog 65 #[.slice (some ⟨X.heap.size, 0, none⟩) 2 2] (X.alloc (.cells #[.int .i64 x, .int .i64 y] T)) fun e w' => e = .returned (.int .i64 (orI x y)) ∧ Hid (Below W.heap.size W w') ∧ w'.cell? ⟨w.heap.size, 0, none⟩ = some (.int .i64 ca) ∧ w'.cell? ⟨w.heap.size, 1, none⟩ = some (.bool na) ∧ w'.cell? ⟨w.heap.size, 2, none⟩ = some (.string ta) ∧ w'.cell? ⟨w.heap.size, 3, none⟩ = some (.int .i64 ea) ∧ w'.cell? ⟨w.heap.size + 1, 0, none⟩ = some (.int .i64 cb) ∧ w'.cell? ⟨w.heap.size + 1, 1, none⟩ = some (.bool nb) ∧ w'.cell? ⟨w.heap.size + 1, 2, none⟩ = some (.string tb) ∧ w'.cell? ⟨w.heap.size + 1, 3, none⟩ = some (.int .i64 eb)) := by
    intro X T bX
    refine (or_alloc X x y T).mono ?_
    rintro e w' ⟨rfl, hb⟩
    have bb := bX.out.trans (hb.mono bX.out.size)
    have Baq := Ba0.out.below bb Ba0.out.lt
    have Bbq := Bb0.out.below bb Bb0.out.lt
    exact ⟨rfl, bb, Baq.cell 0, Baq.cell 1, Baq.cell 2, Baq.cell 3, Bbq.cell 0, Bbq.cell 1, Bbq.cell 2, Bbq.cell 3⟩
  go_wp2_with fail
  simp only [← HW.out]
  have mk0 : True := trivial
  go_region_held3 (fun w' => w'.cell? ⟨w.heap.size, 0, none⟩ = some (.int .i64 ca) ∧ w'.cell? ⟨w.heap.size, 1, none⟩ = some (.bool na) ∧ w'.cell? ⟨w.heap.size, 2, none⟩ = some (.string ta) ∧ w'.cell? ⟨w.heap.size, 3, none⟩ = some (.int .i64 ea) ∧ w'.cell? ⟨w.heap.size + 1, 0, none⟩ = some (.int .i64 cb) ∧ w'.cell? ⟨w.heap.size + 1, 1, none⟩ = some (.bool nb) ∧ w'.cell? ⟨w.heap.size + 1, 2, none⟩ = some (.string tb) ∧ w'.cell? ⟨w.heap.size + 1, 3, none⟩ = some (.int .i64 eb)) (go_keep) (first
    | (clear mk0; go_at_call 33; refine (C0.out _ b0).mono ?_; rintro e w1 ⟨rfl, b1, q0_0, q0_1, q0_2, q0_3, q0_4, q0_5, q0_6, q0_7⟩; have mk1 : True := trivial)
    | (clear mk1; go_at_call 33; refine (C1.out _ b1).mono ?_; rintro e w2 ⟨rfl, b2, q1_0, q1_1, q1_2, q1_3, q1_4, q1_5, q1_6, q1_7⟩; have mk2 : True := trivial)
    | (clear mk2; go_at_call 40; refine (C2.out _ b2).mono ?_; rintro e w3 ⟨rfl, b3, q2_0, q2_1, q2_2, q2_3, q2_4, q2_5, q2_6, q2_7⟩; have mk3 : True := trivial)
    | (clear mk3; go_at_call 66; refine (C3.out _ b3).mono ?_; rintro e w4 ⟨rfl, b4, q3_0, q3_1, q3_2, q3_3, q3_4, q3_5, q3_6, q3_7⟩; have mk4 : True := trivial)
    | (clear mk4; go_at_call 65; refine (C4.out _ _ b4).mono ?_; rintro e w5 ⟨rfl, b5, q4_0, q4_1, q4_2, q4_3, q4_4, q4_5, q4_6, q4_7⟩; have mk5 : True := trivial))
  have FIN := hide (HB0.out.trans (b5.out.mono HB0.out.size))
  clear b5
  go_wp2
  go_ret
  exact ⟨rfl, FIN.out⟩

theorem rank_d (d : DecT) (w : World) (h : May d) : Calls Tryz.prog 41 #[decVal d] w fun e w' => e = .returned (.int .i64 (rankI d)) ∧ Below w.heap.size w w' := by
  rcases may_cases h with ⟨n, rfl⟩ | h | ⟨n, rfl⟩ | rfl
  · cases n
    · exact rank_zero_false w
    · exact rank_zero_true w
  · have h1 : (⟨d.dig.toArray⟩ : ByteArray).size ≠ 0 := by rw [size_mk0]; exact fun e => h.ne (List.length_eq_zero_iff.1 e)
    obtain ⟨c, n, l, e⟩ := d
    have hc := h.cls
    have hn := h.ne
    simp only at hc hn h1
    subst hc
    cases n
    · have g := rank_fin_false ⟨l.toArray⟩ e h1 w
      have e1 : rankI ⟨0, false, l, e⟩ = 1 := by simp [rankI, hn]
      rw [e1]; exact g
    · have g := rank_fin_true ⟨l.toArray⟩ e h1 w
      have e1 : rankI ⟨0, true, l, e⟩ = -1 := by simp [rankI, hn]
      rw [e1]; exact g
  · cases n
    · exact rank_inf_false w
    · exact rank_inf_true w
  · exact rank_nan w

set_option maxRecDepth 100000 in
set_option maxHeartbeats 2000000 in
theorem Cmp_rank (ca : Int) (na : Bool) (ta : ByteArray) (ea : Int) (cb : Int) (nb : Bool) (tb : ByteArray) (eb : Int) (w : World) (ra rb : Int) (ha : MayD ca na (bys ta) ea) (hb0 : MayD cb nb (bys tb) eb) (hra : ∀ W, Calls Tryz.prog 41 #[dcV ca na ta ea] W fun e w' => e = .returned (.int .i64 ra) ∧ Below W.heap.size W w') (hrb : ∀ W, Calls Tryz.prog 41 #[dcV cb nb tb eb] W fun e w' => e = .returned (.int .i64 rb) ∧ Below W.heap.size W w') (h : Lib.compareInt ra rb ≠ 0) : Calls Tryz.prog 22 #[dcV ca na ta ea, dcV cb nb tb eb] w fun e w' => e = .returned (.tuple #[.int .i64 (Lib.compareInt ra rb), .int .i64 0]) ∧ Below w.heap.size w w' := by
  have MA := hide (fun W => dmay_yes ca na ta ea W ha)
  have MB := hide (fun W => dmay_yes cb nb tb eb W hb0)
  have RA := hide hra
  have RB := hide hrb
  have CI := hide (fun W => Tryz.cmp_Compare_int ra rb W)
  obtain ⟨o, ho⟩ : ∃ o, o = Lib.compareInt ra rb := ⟨_, rfl⟩
  rw [← ho] at CI h ⊢
  have h' : (o != 0) = true := by simpa using h
  clear ha hb0 hra hrb ho h
  have Ba0 := hide ((Blk.newAt w (w.heap.size) (rfl) #[.int .i64 ca, .bool na, .string ta, .int .i64 ea] 23).alloc (.cells #[.int .i64 cb, .bool nb, .string tb, .int .i64 eb] 23))
  have Bb0 := hide (Blk.newAt (w.alloc (.cells #[.int .i64 ca, .bool na, .string ta, .int .i64 ea] 23)) (w.heap.size + 1) (by simp) #[.int .i64 cb, .bool nb, .string tb, .int .i64 eb] 23)
  have HB0 : Hid (Below w.heap.size w ((w.alloc (.cells #[.int .i64 ca, .bool na, .string ta, .int .i64 ea] 23)).alloc (.cells #[.int .i64 cb, .bool nb, .string tb, .int .i64 eb] 23))) := (((Below.refl _ _).alloc (Nat.le_refl _) _).alloc (by simp <;> omega) _)
  go_enter Tryz.func22, Tryz.ntmps22
  go_wp2_with fail
  refine (MA.out _).mono ?_
  rintro e w1 ⟨rfl, hb⟩
  have Ba1 := hide (Ba0.out.below hb Ba0.out.lt)
  have Bb1 := hide (Bb0.out.below hb Bb0.out.lt)
  have HB1 := hide (HB0.out.trans (hb.mono HB0.out.size))
  clear hb Ba0 Bb0 HB0 
  have ya0 : w1.cell? ⟨w.heap.size, 0, none⟩ = some (.int .i64 ca) := Ba1.out.cell 0
  have ya1 : w1.cell? ⟨w.heap.size, 1, none⟩ = some (.bool na) := Ba1.out.cell 1
  have ya2 : w1.cell? ⟨w.heap.size, 2, none⟩ = some (.string ta) := Ba1.out.cell 2
  have ya3 : w1.cell? ⟨w.heap.size, 3, none⟩ = some (.int .i64 ea) := Ba1.out.cell 3
  have yb0 : w1.cell? ⟨w.heap.size + 1, 0, none⟩ = some (.int .i64 cb) := Bb1.out.cell 0
  have yb1 : w1.cell? ⟨w.heap.size + 1, 1, none⟩ = some (.bool nb) := Bb1.out.cell 1
  have yb2 : w1.cell? ⟨w.heap.size + 1, 2, none⟩ = some (.string tb) := Bb1.out.cell 2
  have yb3 : w1.cell? ⟨w.heap.size + 1, 3, none⟩ = some (.int .i64 eb) := Bb1.out.cell 3
  go_wp2_with fail
  refine (MB.out _).mono ?_
  rintro e w2 ⟨rfl, hb⟩
  have Ba2 := hide (Ba1.out.below hb Ba1.out.lt)
  have Bb2 := hide (Bb1.out.below hb Bb1.out.lt)
  have HB2 := hide (HB1.out.trans (hb.mono HB1.out.size))
  clear hb Ba1 Bb1 HB1 ya0 ya1 ya2 ya3 yb0 yb1 yb2 yb3
  have ya0 : w2.cell? ⟨w.heap.size, 0, none⟩ = some (.int .i64 ca) := Ba2.out.cell 0
  have ya1 : w2.cell? ⟨w.heap.size, 1, none⟩ = some (.bool na) := Ba2.out.cell 1
  have ya2 : w2.cell? ⟨w.heap.size, 2, none⟩ = some (.string ta) := Ba2.out.cell 2
  have ya3 : w2.cell? ⟨w.heap.size, 3, none⟩ = some (.int .i64 ea) := Ba2.out.cell 3
  have yb0 : w2.cell? ⟨w.heap.size + 1, 0, none⟩ = some (.int .i64 cb) := Bb2.out.cell 0
  have yb1 : w2.cell? ⟨w.heap.size + 1, 1, none⟩ = some (.bool nb) := Bb2.out.cell 1
  have yb2 : w2.cell? ⟨w.heap.size + 1, 2, none⟩ = some (.string tb) := Bb2.out.cell 2
  have yb3 : w2.cell? ⟨w.heap.size + 1, 3, none⟩ = some (.int .i64 eb) := Bb2.out.cell 3
  have b0 : Hid (Below w2.heap.size w2 w2.drew) := bdrewD w2
  have C0 : Hid (∀ X, Hid (Below w2.heap.size w2 X) → Calls Tryz.prog 41 #[dcV ca na ta ea] X fun e w' => e = .returned (.int .i64 ra) ∧ Hid (Below w2.heap.size w2 w') ∧ w'.cell? ⟨w.heap.size, 0, none⟩ = some (.int .i64 ca) ∧ w'.cell? ⟨w.heap.size, 1, none⟩ = some (.bool na) ∧ w'.cell? ⟨w.heap.size, 2, none⟩ = some (.string ta) ∧ w'.cell? ⟨w.heap.size, 3, none⟩ = some (.int .i64 ea) ∧ w'.cell? ⟨w.heap.size + 1, 0, none⟩ = some (.int .i64 cb) ∧ w'.cell? ⟨w.heap.size + 1, 1, none⟩ = some (.bool nb) ∧ w'.cell? ⟨w.heap.size + 1, 2, none⟩ = some (.string tb) ∧ w'.cell? ⟨w.heap.size + 1, 3, none⟩ = some (.int .i64 eb)) := by
    intro X bX
    refine (RA.out X).mono ?_
    rintro e w' ⟨rfl, hb⟩
    have bb := bX.out.trans (hb.mono bX.out.size)
    have Baq := Ba2.out.below bb Ba2.out.lt
    have Bbq := Bb2.out.below bb Bb2.out.lt
    exact ⟨rfl, bb, Baq.cell 0, Baq.cell 1, Baq.cell 2, Baq.cell 3, Bbq.cell 0, Bbq.cell 1, Bbq.cell 2, Bbq.cell 3⟩
  have C1 : Hid (∀ X, Hid (Below w2.heap.size w2 X) → Calls Tryz.prog 41 #[dcV cb nb tb eb] X fun e w' => e = .returned (.int .i64 rb) ∧ Hid (Below w2.heap.size w2 w') ∧ w'.cell? ⟨w.heap.size, 0, none⟩ = some (.int .i64 ca) ∧ w'.cell? ⟨w.heap.size, 1, none⟩ = some (.bool na) ∧ w'.cell? ⟨w.heap.size, 2, none⟩ = some (.string ta) ∧ w'.cell? ⟨w.heap.size, 3, none⟩ = some (.int .i64 ea) ∧ w'.cell? ⟨w.heap.size + 1, 0, none⟩ = some (.int .i64 cb) ∧ w'.cell? ⟨w.heap.size + 1, 1, none⟩ = some (.bool nb) ∧ w'.cell? ⟨w.heap.size + 1, 2, none⟩ = some (.string tb) ∧ w'.cell? ⟨w.heap.size + 1, 3, none⟩ = some (.int .i64 eb)) := by
    intro X bX
    refine (RB.out X).mono ?_
    rintro e w' ⟨rfl, hb⟩
    have bb := bX.out.trans (hb.mono bX.out.size)
    have Baq := Ba2.out.below bb Ba2.out.lt
    have Bbq := Bb2.out.below bb Bb2.out.lt
    exact ⟨rfl, bb, Baq.cell 0, Baq.cell 1, Baq.cell 2, Baq.cell 3, Bbq.cell 0, Bbq.cell 1, Bbq.cell 2, Bbq.cell 3⟩
  have C2 : Hid (∀ X, Hid (Below w2.heap.size w2 X) → Calls Tryz.prog 40 #[.int .i64 ra, .int .i64 rb] X fun e w' => e = .returned (.int .i64 o) ∧ Hid (Below w2.heap.size w2 w') ∧ w'.cell? ⟨w.heap.size, 0, none⟩ = some (.int .i64 ca) ∧ w'.cell? ⟨w.heap.size, 1, none⟩ = some (.bool na) ∧ w'.cell? ⟨w.heap.size, 2, none⟩ = some (.string ta) ∧ w'.cell? ⟨w.heap.size, 3, none⟩ = some (.int .i64 ea) ∧ w'.cell? ⟨w.heap.size + 1, 0, none⟩ = some (.int .i64 cb) ∧ w'.cell? ⟨w.heap.size + 1, 1, none⟩ = some (.bool nb) ∧ w'.cell? ⟨w.heap.size + 1, 2, none⟩ = some (.string tb) ∧ w'.cell? ⟨w.heap.size + 1, 3, none⟩ = some (.int .i64 eb)) := by
    intro X bX
    refine (Calls.mono (CI.out X) (fun e w' h => (⟨h.1, h.2 ▸ Below.refl _ _⟩ : _ ∧ Below X.heap.size X w'))).mono ?_
    rintro e w' ⟨rfl, hb⟩
    have bb := bX.out.trans (hb.mono bX.out.size)
    have Baq := Ba2.out.below bb Ba2.out.lt
    have Bbq := Bb2.out.below bb Bb2.out.lt
    exact ⟨rfl, bb, Baq.cell 0, Baq.cell 1, Baq.cell 2, Baq.cell 3, Bbq.cell 0, Bbq.cell 1, Bbq.cell 2, Bbq.cell 3⟩
  go_wp2_with fail
  have mk0 : True := trivial
  go_region_held3 (fun w' => w'.cell? ⟨w.heap.size, 0, none⟩ = some (.int .i64 ca) ∧ w'.cell? ⟨w.heap.size, 1, none⟩ = some (.bool na) ∧ w'.cell? ⟨w.heap.size, 2, none⟩ = some (.string ta) ∧ w'.cell? ⟨w.heap.size, 3, none⟩ = some (.int .i64 ea) ∧ w'.cell? ⟨w.heap.size + 1, 0, none⟩ = some (.int .i64 cb) ∧ w'.cell? ⟨w.heap.size + 1, 1, none⟩ = some (.bool nb) ∧ w'.cell? ⟨w.heap.size + 1, 2, none⟩ = some (.string tb) ∧ w'.cell? ⟨w.heap.size + 1, 3, none⟩ = some (.int .i64 eb)) (go_keep) (first
    | (clear mk0; go_at_call 41; refine (C0.out _ b0).mono ?_; rintro e w3 ⟨rfl, b1, q0_0, q0_1, q0_2, q0_3, q0_4, q0_5, q0_6, q0_7⟩; have mk1 : True := trivial)
    | (clear mk1; go_at_call 41; refine (C1.out _ b1).mono ?_; rintro e w4 ⟨rfl, b2, q1_0, q1_1, q1_2, q1_3, q1_4, q1_5, q1_6, q1_7⟩; have mk2 : True := trivial)
    | (clear mk2; go_at_call 40; refine (C2.out _ b2).mono ?_; rintro e w5 ⟨rfl, b3, q2_0, q2_1, q2_2, q2_3, q2_4, q2_5, q2_6, q2_7⟩; have mk3 : True := trivial))
  have Ba5 := hide (Ba2.out.below b3.out Ba2.out.lt)
  have Bb5 := hide (Bb2.out.below b3.out Bb2.out.lt)
  have HB5 := hide (HB2.out.trans (b3.out.mono HB2.out.size))
  clear mk3 b0 b1 b2 b3 C0 C1 C2 q0_0 q0_1 q0_2 q0_3 q0_4 q0_5 q0_6 q0_7 q1_0 q1_1 q1_2 q1_3 q1_4 q1_5 q1_6 q1_7 q2_0 q2_1 q2_2 q2_3 q2_4 q2_5 q2_6 q2_7 Ba2 Bb2 HB2 ya0 ya1 ya2 ya3 yb0 yb1 yb2 yb3
  have ya0 : w5.cell? ⟨w.heap.size, 0, none⟩ = some (.int .i64 ca) := Ba5.out.cell 0
  have ya1 : w5.cell? ⟨w.heap.size, 1, none⟩ = some (.bool na) := Ba5.out.cell 1
  have ya2 : w5.cell? ⟨w.heap.size, 2, none⟩ = some (.string ta) := Ba5.out.cell 2
  have ya3 : w5.cell? ⟨w.heap.size, 3, none⟩ = some (.int .i64 ea) := Ba5.out.cell 3
  have yb0 : w5.cell? ⟨w.heap.size + 1, 0, none⟩ = some (.int .i64 cb) := Bb5.out.cell 0
  have yb1 : w5.cell? ⟨w.heap.size + 1, 1, none⟩ = some (.bool nb) := Bb5.out.cell 1
  have yb2 : w5.cell? ⟨w.heap.size + 1, 2, none⟩ = some (.string tb) := Bb5.out.cell 2
  have yb3 : w5.cell? ⟨w.heap.size + 1, 3, none⟩ = some (.int .i64 eb) := Bb5.out.cell 3
  go_wp2
  go_ret2
  exact ⟨rfl, HB5.out⟩

set_option maxRecDepth 100000 in
set_option maxHeartbeats 2000000 in
theorem Cmp_false (ca : Int) (ta : ByteArray) (ea : Int) (cb : Int) (nb : Bool) (tb : ByteArray) (eb : Int) (w : World) (ra rb : Int) (ha : MayD ca false (bys ta) ea) (hb0 : MayD cb nb (bys tb) eb) (hra : ∀ W, Calls Tryz.prog 41 #[dcV ca false ta ea] W fun e w' => e = .returned (.int .i64 ra) ∧ Below W.heap.size W w') (hrb : ∀ W, Calls Tryz.prog 41 #[dcV cb nb tb eb] W fun e w' => e = .returned (.int .i64 rb) ∧ Below W.heap.size W w') (h : Lib.compareInt ra rb = 0) : Calls Tryz.prog 22 #[dcV ca false ta ea, dcV cb nb tb eb] w fun e w' => e = .returned (.tuple #[.int .i64 (orI (Lib.compareInt ((ta.size : Int) + ea) ((tb.size : Int) + eb)) (Lib.compareBytes (bys ta) (bys tb))), .int .i64 0]) ∧ Below w.heap.size w w' := by
  have MA := hide (fun W => dmay_yes ca false ta ea W ha)
  have MB := hide (fun W => dmay_yes cb nb tb eb W hb0)
  have RA := hide hra
  have RB := hide hrb
  have CI := hide (fun W => Tryz.cmp_Compare_int ra rb W)
  rw [h] at CI
  obtain ⟨o, ho⟩ : ∃ o : Int, o = 0 := ⟨_, rfl⟩
  obtain ⟨a1, a2, a3⟩ := may_bounds ha
  obtain ⟨b1, b2, b3⟩ := may_bounds hb0
  have CA := hide (fun W => cmpA_any ca false ta ea cb nb tb eb W a1 a2 a3 b1 b2 b3)
  obtain ⟨v, hv⟩ : ∃ v, v = orI (Lib.compareInt ((ta.size : Int) + ea) ((tb.size : Int) + eb)) (Lib.compareBytes (bys ta) (bys tb)) := ⟨_, rfl⟩
  rw [← hv] at CA ⊢
  clear ha hb0 hra hrb h hv ho a1 a2 a3 b1 b2 b3
  have Ba0 := hide ((Blk.newAt w (w.heap.size) (rfl) #[.int .i64 ca, .bool false, .string ta, .int .i64 ea] 23).alloc (.cells #[.int .i64 cb, .bool nb, .string tb, .int .i64 eb] 23))
  have Bb0 := hide (Blk.newAt (w.alloc (.cells #[.int .i64 ca, .bool false, .string ta, .int .i64 ea] 23)) (w.heap.size + 1) (by simp) #[.int .i64 cb, .bool nb, .string tb, .int .i64 eb] 23)
  have HB0 : Hid (Below w.heap.size w ((w.alloc (.cells #[.int .i64 ca, .bool false, .string ta, .int .i64 ea] 23)).alloc (.cells #[.int .i64 cb, .bool nb, .string tb, .int .i64 eb] 23))) := (((Below.refl _ _).alloc (Nat.le_refl _) _).alloc (by simp <;> omega) _)
  go_enter Tryz.func22, Tryz.ntmps22
  go_wp2_with fail
  refine (MA.out _).mono ?_
  rintro e w1 ⟨rfl, hb⟩
  have Ba1 := hide (Ba0.out.below hb Ba0.out.lt)
  have Bb1 := hide (Bb0.out.below hb Bb0.out.lt)
  have HB1 := hide (HB0.out.trans (hb.mono HB0.out.size))
  clear hb Ba0 Bb0 HB0 
  have ya0 : w1.cell? ⟨w.heap.size, 0, none⟩ = some (.int .i64 ca) := Ba1.out.cell 0
  have ya1 : w1.cell? ⟨w.heap.size, 1, none⟩ = some (.bool false) := Ba1.out.cell 1
  have ya2 : w1.cell? ⟨w.heap.size, 2, none⟩ = some (.string ta) := Ba1.out.cell 2
  have ya3 : w1.cell? ⟨w.heap.size, 3, none⟩ = some (.int .i64 ea) := Ba1.out.cell 3
  have yb0 : w1.cell? ⟨w.heap.size + 1, 0, none⟩ = some (.int .i64 cb) := Bb1.out.cell 0
  have yb1 : w1.cell? ⟨w.heap.size + 1, 1, none⟩ = some (.bool nb) := Bb1.out.cell 1
  have yb2 : w1.cell? ⟨w.heap.size + 1, 2, none⟩ = some (.string tb) := Bb1.out.cell 2
  have yb3 : w1.cell? ⟨w.heap.size + 1, 3, none⟩ = some (.int .i64 eb) := Bb1.out.cell 3
  go_wp2_with fail
  refine (MB.out _).mono ?_
  rintro e w2 ⟨rfl, hb⟩
  have Ba2 := hide (Ba1.out.below hb Ba1.out.lt)
  have Bb2 := hide (Bb1.out.below hb Bb1.out.lt)
  have HB2 := hide (HB1.out.trans (hb.mono HB1.out.size))
  clear hb Ba1 Bb1 HB1 ya0 ya1 ya2 ya3 yb0 yb1 yb2 yb3
  have ya0 : w2.cell? ⟨w.heap.size, 0, none⟩ = some (.int .i64 ca) := Ba2.out.cell 0
  have ya1 : w2.cell? ⟨w.heap.size, 1, none⟩ = some (.bool false) := Ba2.out.cell 1
  have ya2 : w2.cell? ⟨w.heap.size, 2, none⟩ = some (.string ta) := Ba2.out.cell 2
  have ya3 : w2.cell? ⟨w.heap.size, 3, none⟩ = some (.int .i64 ea) := Ba2.out.cell 3
  have yb0 : w2.cell? ⟨w.heap.size + 1, 0, none⟩ = some (.int .i64 cb) := Bb2.out.cell 0
  have yb1 : w2.cell? ⟨w.heap.size + 1, 1, none⟩ = some (.bool nb) := Bb2.out.cell 1
  have yb2 : w2.cell? ⟨w.heap.size + 1, 2, none⟩ = some (.string tb) := Bb2.out.cell 2
  have yb3 : w2.cell? ⟨w.heap.size + 1, 3, none⟩ = some (.int .i64 eb) := Bb2.out.cell 3
  have b0 : Hid (Below w2.heap.size w2 w2.drew) := bdrewD w2
  have C0 : Hid (∀ X, Hid (Below w2.heap.size w2 X) → Calls Tryz.prog 41 #[dcV ca false ta ea] X fun e w' => e = .returned (.int .i64 ra) ∧ Hid (Below w2.heap.size w2 w') ∧ w'.cell? ⟨w.heap.size, 0, none⟩ = some (.int .i64 ca) ∧ w'.cell? ⟨w.heap.size, 1, none⟩ = some (.bool false) ∧ w'.cell? ⟨w.heap.size, 2, none⟩ = some (.string ta) ∧ w'.cell? ⟨w.heap.size, 3, none⟩ = some (.int .i64 ea) ∧ w'.cell? ⟨w.heap.size + 1, 0, none⟩ = some (.int .i64 cb) ∧ w'.cell? ⟨w.heap.size + 1, 1, none⟩ = some (.bool nb) ∧ w'.cell? ⟨w.heap.size + 1, 2, none⟩ = some (.string tb) ∧ w'.cell? ⟨w.heap.size + 1, 3, none⟩ = some (.int .i64 eb)) := by
    intro X bX
    refine (RA.out X).mono ?_
    rintro e w' ⟨rfl, hb⟩
    have bb := bX.out.trans (hb.mono bX.out.size)
    have Baq := Ba2.out.below bb Ba2.out.lt
    have Bbq := Bb2.out.below bb Bb2.out.lt
    exact ⟨rfl, bb, Baq.cell 0, Baq.cell 1, Baq.cell 2, Baq.cell 3, Bbq.cell 0, Bbq.cell 1, Bbq.cell 2, Bbq.cell 3⟩
  have C1 : Hid (∀ X, Hid (Below w2.heap.size w2 X) → Calls Tryz.prog 41 #[dcV cb nb tb eb] X fun e w' => e = .returned (.int .i64 rb) ∧ Hid (Below w2.heap.size w2 w') ∧ w'.cell? ⟨w.heap.size, 0, none⟩ = some (.int .i64 ca) ∧ w'.cell? ⟨w.heap.size, 1, none⟩ = some (.bool false) ∧ w'.cell? ⟨w.heap.size, 2, none⟩ = some (.string ta) ∧ w'.cell? ⟨w.heap.size, 3, none⟩ = some (.int .i64 ea) ∧ w'.cell? ⟨w.heap.size + 1, 0, none⟩ = some (.int .i64 cb) ∧ w'.cell? ⟨w.heap.size + 1, 1, none⟩ = some (.bool nb) ∧ w'.cell? ⟨w.heap.size + 1, 2, none⟩ = some (.string tb) ∧ w'.cell? ⟨w.heap.size + 1, 3, none⟩ = some (.int .i64 eb)) := by
    intro X bX
    refine (RB.out X).mono ?_
    rintro e w' ⟨rfl, hb⟩
    have bb := bX.out.trans (hb.mono bX.out.size)
    have Baq := Ba2.out.below bb Ba2.out.lt
    have Bbq := Bb2.out.below bb Bb2.out.lt
    exact ⟨rfl, bb, Baq.cell 0, Baq.cell 1, Baq.cell 2, Baq.cell 3, Bbq.cell 0, Bbq.cell 1, Bbq.cell 2, Bbq.cell 3⟩
  have C2 : Hid (∀ X, Hid (Below w2.heap.size w2 X) → Calls Tryz.prog 40 #[.int .i64 ra, .int .i64 rb] X fun e w' => e = .returned (.int .i64 0) ∧ Hid (Below w2.heap.size w2 w') ∧ w'.cell? ⟨w.heap.size, 0, none⟩ = some (.int .i64 ca) ∧ w'.cell? ⟨w.heap.size, 1, none⟩ = some (.bool false) ∧ w'.cell? ⟨w.heap.size, 2, none⟩ = some (.string ta) ∧ w'.cell? ⟨w.heap.size, 3, none⟩ = some (.int .i64 ea) ∧ w'.cell? ⟨w.heap.size + 1, 0, none⟩ = some (.int .i64 cb) ∧ w'.cell? ⟨w.heap.size + 1, 1, none⟩ = some (.bool nb) ∧ w'.cell? ⟨w.heap.size + 1, 2, none⟩ = some (.string tb) ∧ w'.cell? ⟨w.heap.size + 1, 3, none⟩ = some (.int .i64 eb)) := by
    intro X bX
    refine (Calls.mono (CI.out X) (fun e w' h => (⟨h.1, h.2 ▸ Below.refl _ _⟩ : _ ∧ Below X.heap.size X w'))).mono ?_
    rintro e w' ⟨rfl, hb⟩
    have bb := bX.out.trans (hb.mono bX.out.size)
    have Baq := Ba2.out.below bb Ba2.out.lt
    have Bbq := Bb2.out.below bb Bb2.out.lt
    exact ⟨rfl, bb, Baq.cell 0, Baq.cell 1, Baq.cell 2, Baq.cell 3, Bbq.cell 0, Bbq.cell 1, Bbq.cell 2, Bbq.cell 3⟩
  go_wp2_with fail
  have mk0 : True := trivial
  go_region_held3 (fun w' => w'.cell? ⟨w.heap.size, 0, none⟩ = some (.int .i64 ca) ∧ w'.cell? ⟨w.heap.size, 1, none⟩ = some (.bool false) ∧ w'.cell? ⟨w.heap.size, 2, none⟩ = some (.string ta) ∧ w'.cell? ⟨w.heap.size, 3, none⟩ = some (.int .i64 ea) ∧ w'.cell? ⟨w.heap.size + 1, 0, none⟩ = some (.int .i64 cb) ∧ w'.cell? ⟨w.heap.size + 1, 1, none⟩ = some (.bool nb) ∧ w'.cell? ⟨w.heap.size + 1, 2, none⟩ = some (.string tb) ∧ w'.cell? ⟨w.heap.size + 1, 3, none⟩ = some (.int .i64 eb)) (go_keep) (first
    | (clear mk0; go_at_call 41; refine (C0.out _ b0).mono ?_; rintro e w3 ⟨rfl, b1, q0_0, q0_1, q0_2, q0_3, q0_4, q0_5, q0_6, q0_7⟩; have mk1 : True := trivial)
    | (clear mk1; go_at_call 41; refine (C1.out _ b1).mono ?_; rintro e w4 ⟨rfl, b2, q1_0, q1_1, q1_2, q1_3, q1_4, q1_5, q1_6, q1_7⟩; have mk2 : True := trivial)
    | (clear mk2; go_at_call 40; refine (C2.out _ b2).mono ?_; rintro e w5 ⟨rfl, b3, q2_0, q2_1, q2_2, q2_3, q2_4, q2_5, q2_6, q2_7⟩; have mk3 : True := trivial))
  have Ba5 := hide (Ba2.out.below b3.out Ba2.out.lt)
  have Bb5 := hide (Bb2.out.below b3.out Bb2.out.lt)
  have HB5 := hide (HB2.out.trans (b3.out.mono HB2.out.size))
  clear mk3 b0 b1 b2 b3 C0 C1 C2 q0_0 q0_1 q0_2 q0_3 q0_4 q0_5 q0_6 q0_7 q1_0 q1_1 q1_2 q1_3 q1_4 q1_5 q1_6 q1_7 q2_0 q2_1 q2_2 q2_3 q2_4 q2_5 q2_6 q2_7 Ba2 Bb2 HB2 ya0 ya1 ya2 ya3 yb0 yb1 yb2 yb3
  have ya0 : w5.cell? ⟨w.heap.size, 0, none⟩ = some (.int .i64 ca) := Ba5.out.cell 0
  have ya1 : w5.cell? ⟨w.heap.size, 1, none⟩ = some (.bool false) := Ba5.out.cell 1
  have ya2 : w5.cell? ⟨w.heap.size, 2, none⟩ = some (.string ta) := Ba5.out.cell 2
  have ya3 : w5.cell? ⟨w.heap.size, 3, none⟩ = some (.int .i64 ea) := Ba5.out.cell 3
  have yb0 : w5.cell? ⟨w.heap.size + 1, 0, none⟩ = some (.int .i64 cb) := Bb5.out.cell 0
  have yb1 : w5.cell? ⟨w.heap.size + 1, 1, none⟩ = some (.bool nb) := Bb5.out.cell 1
  have yb2 : w5.cell? ⟨w.heap.size + 1, 2, none⟩ = some (.string tb) := Bb5.out.cell 2
  have yb3 : w5.cell? ⟨w.heap.size + 1, 3, none⟩ = some (.int .i64 eb) := Bb5.out.cell 3
  go_wp2_with fail
  refine (CA.out _).mono ?_
  rintro e w6 ⟨rfl, hb⟩
  have Ba6 := hide (Ba5.out.below hb Ba5.out.lt)
  have Bb6 := hide (Bb5.out.below hb Bb5.out.lt)
  have HB6 := hide (HB5.out.trans (hb.mono HB5.out.size))
  clear hb Ba5 Bb5 HB5 ya0 ya1 ya2 ya3 yb0 yb1 yb2 yb3
  have ya0 : w6.cell? ⟨w.heap.size, 0, none⟩ = some (.int .i64 ca) := Ba6.out.cell 0
  have ya1 : w6.cell? ⟨w.heap.size, 1, none⟩ = some (.bool false) := Ba6.out.cell 1
  have ya2 : w6.cell? ⟨w.heap.size, 2, none⟩ = some (.string ta) := Ba6.out.cell 2
  have ya3 : w6.cell? ⟨w.heap.size, 3, none⟩ = some (.int .i64 ea) := Ba6.out.cell 3
  have yb0 : w6.cell? ⟨w.heap.size + 1, 0, none⟩ = some (.int .i64 cb) := Bb6.out.cell 0
  have yb1 : w6.cell? ⟨w.heap.size + 1, 1, none⟩ = some (.bool nb) := Bb6.out.cell 1
  have yb2 : w6.cell? ⟨w.heap.size + 1, 2, none⟩ = some (.string tb) := Bb6.out.cell 2
  have yb3 : w6.cell? ⟨w.heap.size + 1, 3, none⟩ = some (.int .i64 eb) := Bb6.out.cell 3
  go_wp2
  go_ret2
  exact ⟨rfl, HB6.out⟩

set_option maxRecDepth 100000 in
set_option maxHeartbeats 2000000 in
theorem Cmp_true (ca : Int) (ta : ByteArray) (ea : Int) (cb : Int) (nb : Bool) (tb : ByteArray) (eb : Int) (w : World) (ra rb : Int) (ha : MayD ca true (bys ta) ea) (hb0 : MayD cb nb (bys tb) eb) (hra : ∀ W, Calls Tryz.prog 41 #[dcV ca true ta ea] W fun e w' => e = .returned (.int .i64 ra) ∧ Below W.heap.size W w') (hrb : ∀ W, Calls Tryz.prog 41 #[dcV cb nb tb eb] W fun e w' => e = .returned (.int .i64 rb) ∧ Below W.heap.size W w') (h : Lib.compareInt ra rb = 0) : Calls Tryz.prog 22 #[dcV ca true ta ea, dcV cb nb tb eb] w fun e w' => e = .returned (.tuple #[.int .i64 (orI (Lib.compareInt ((tb.size : Int) + eb) ((ta.size : Int) + ea)) (Lib.compareBytes (bys tb) (bys ta))), .int .i64 0]) ∧ Below w.heap.size w w' := by
  have MA := hide (fun W => dmay_yes ca true ta ea W ha)
  have MB := hide (fun W => dmay_yes cb nb tb eb W hb0)
  have RA := hide hra
  have RB := hide hrb
  have CI := hide (fun W => Tryz.cmp_Compare_int ra rb W)
  rw [h] at CI
  obtain ⟨o, ho⟩ : ∃ o : Int, o = 0 := ⟨_, rfl⟩
  obtain ⟨a1, a2, a3⟩ := may_bounds ha
  obtain ⟨b1, b2, b3⟩ := may_bounds hb0
  have CA := hide (fun W => cmpA_any cb nb tb eb ca true ta ea W b1 b2 b3 a1 a2 a3)
  obtain ⟨v, hv⟩ : ∃ v, v = orI (Lib.compareInt ((tb.size : Int) + eb) ((ta.size : Int) + ea)) (Lib.compareBytes (bys tb) (bys ta)) := ⟨_, rfl⟩
  rw [← hv] at CA ⊢
  clear ha hb0 hra hrb h hv ho a1 a2 a3 b1 b2 b3
  have Ba0 := hide ((Blk.newAt w (w.heap.size) (rfl) #[.int .i64 ca, .bool true, .string ta, .int .i64 ea] 23).alloc (.cells #[.int .i64 cb, .bool nb, .string tb, .int .i64 eb] 23))
  have Bb0 := hide (Blk.newAt (w.alloc (.cells #[.int .i64 ca, .bool true, .string ta, .int .i64 ea] 23)) (w.heap.size + 1) (by simp) #[.int .i64 cb, .bool nb, .string tb, .int .i64 eb] 23)
  have HB0 : Hid (Below w.heap.size w ((w.alloc (.cells #[.int .i64 ca, .bool true, .string ta, .int .i64 ea] 23)).alloc (.cells #[.int .i64 cb, .bool nb, .string tb, .int .i64 eb] 23))) := (((Below.refl _ _).alloc (Nat.le_refl _) _).alloc (by simp <;> omega) _)
  go_enter Tryz.func22, Tryz.ntmps22
  go_wp2_with fail
  refine (MA.out _).mono ?_
  rintro e w1 ⟨rfl, hb⟩
  have Ba1 := hide (Ba0.out.below hb Ba0.out.lt)
  have Bb1 := hide (Bb0.out.below hb Bb0.out.lt)
  have HB1 := hide (HB0.out.trans (hb.mono HB0.out.size))
  clear hb Ba0 Bb0 HB0 
  have ya0 : w1.cell? ⟨w.heap.size, 0, none⟩ = some (.int .i64 ca) := Ba1.out.cell 0
  have ya1 : w1.cell? ⟨w.heap.size, 1, none⟩ = some (.bool true) := Ba1.out.cell 1
  have ya2 : w1.cell? ⟨w.heap.size, 2, none⟩ = some (.string ta) := Ba1.out.cell 2
  have ya3 : w1.cell? ⟨w.heap.size, 3, none⟩ = some (.int .i64 ea) := Ba1.out.cell 3
  have yb0 : w1.cell? ⟨w.heap.size + 1, 0, none⟩ = some (.int .i64 cb) := Bb1.out.cell 0
  have yb1 : w1.cell? ⟨w.heap.size + 1, 1, none⟩ = some (.bool nb) := Bb1.out.cell 1
  have yb2 : w1.cell? ⟨w.heap.size + 1, 2, none⟩ = some (.string tb) := Bb1.out.cell 2
  have yb3 : w1.cell? ⟨w.heap.size + 1, 3, none⟩ = some (.int .i64 eb) := Bb1.out.cell 3
  go_wp2_with fail
  refine (MB.out _).mono ?_
  rintro e w2 ⟨rfl, hb⟩
  have Ba2 := hide (Ba1.out.below hb Ba1.out.lt)
  have Bb2 := hide (Bb1.out.below hb Bb1.out.lt)
  have HB2 := hide (HB1.out.trans (hb.mono HB1.out.size))
  clear hb Ba1 Bb1 HB1 ya0 ya1 ya2 ya3 yb0 yb1 yb2 yb3
  have ya0 : w2.cell? ⟨w.heap.size, 0, none⟩ = some (.int .i64 ca) := Ba2.out.cell 0
  have ya1 : w2.cell? ⟨w.heap.size, 1, none⟩ = some (.bool true) := Ba2.out.cell 1
  have ya2 : w2.cell? ⟨w.heap.size, 2, none⟩ = some (.string ta) := Ba2.out.cell 2
  have ya3 : w2.cell? ⟨w.heap.size, 3, none⟩ = some (.int .i64 ea) := Ba2.out.cell 3
  have yb0 : w2.cell? ⟨w.heap.size + 1, 0, none⟩ = some (.int .i64 cb) := Bb2.out.cell 0
  have yb1 : w2.cell? ⟨w.heap.size + 1, 1, none⟩ = some (.bool nb) := Bb2.out.cell 1
  have yb2 : w2.cell? ⟨w.heap.size + 1, 2, none⟩ = some (.string tb) := Bb2.out.cell 2
  have yb3 : w2.cell? ⟨w.heap.size + 1, 3, none⟩ = some (.int .i64 eb) := Bb2.out.cell 3
  have b0 : Hid (Below w2.heap.size w2 w2.drew) := bdrewD w2
  have C0 : Hid (∀ X, Hid (Below w2.heap.size w2 X) → Calls Tryz.prog 41 #[dcV ca true ta ea] X fun e w' => e = .returned (.int .i64 ra) ∧ Hid (Below w2.heap.size w2 w') ∧ w'.cell? ⟨w.heap.size, 0, none⟩ = some (.int .i64 ca) ∧ w'.cell? ⟨w.heap.size, 1, none⟩ = some (.bool true) ∧ w'.cell? ⟨w.heap.size, 2, none⟩ = some (.string ta) ∧ w'.cell? ⟨w.heap.size, 3, none⟩ = some (.int .i64 ea) ∧ w'.cell? ⟨w.heap.size + 1, 0, none⟩ = some (.int .i64 cb) ∧ w'.cell? ⟨w.heap.size + 1, 1, none⟩ = some (.bool nb) ∧ w'.cell? ⟨w.heap.size + 1, 2, none⟩ = some (.string tb) ∧ w'.cell? ⟨w.heap.size + 1, 3, none⟩ = some (.int .i64 eb)) := by
    intro X bX
    refine (RA.out X).mono ?_
    rintro e w' ⟨rfl, hb⟩
    have bb := bX.out.trans (hb.mono bX.out.size)
    have Baq := Ba2.out.below bb Ba2.out.lt
    have Bbq := Bb2.out.below bb Bb2.out.lt
    exact ⟨rfl, bb, Baq.cell 0, Baq.cell 1, Baq.cell 2, Baq.cell 3, Bbq.cell 0, Bbq.cell 1, Bbq.cell 2, Bbq.cell 3⟩
  have C1 : Hid (∀ X, Hid (Below w2.heap.size w2 X) → Calls Tryz.prog 41 #[dcV cb nb tb eb] X fun e w' => e = .returned (.int .i64 rb) ∧ Hid (Below w2.heap.size w2 w') ∧ w'.cell? ⟨w.heap.size, 0, none⟩ = some (.int .i64 ca) ∧ w'.cell? ⟨w.heap.size, 1, none⟩ = some (.bool true) ∧ w'.cell? ⟨w.heap.size, 2, none⟩ = some (.string ta) ∧ w'.cell? ⟨w.heap.size, 3, none⟩ = some (.int .i64 ea) ∧ w'.cell? ⟨w.heap.size + 1, 0, none⟩ = some (.int .i64 cb) ∧ w'.cell? ⟨w.heap.size + 1, 1, none⟩ = some (.bool nb) ∧ w'.cell? ⟨w.heap.size + 1, 2, none⟩ = some (.string tb) ∧ w'.cell? ⟨w.heap.size + 1, 3, none⟩ = some (.int .i64 eb)) := by
    intro X bX
    refine (RB.out X).mono ?_
    rintro e w' ⟨rfl, hb⟩
    have bb := bX.out.trans (hb.mono bX.out.size)
    have Baq := Ba2.out.below bb Ba2.out.lt
    have Bbq := Bb2.out.below bb Bb2.out.lt
    exact ⟨rfl, bb, Baq.cell 0, Baq.cell 1, Baq.cell 2, Baq.cell 3, Bbq.cell 0, Bbq.cell 1, Bbq.cell 2, Bbq.cell 3⟩
  have C2 : Hid (∀ X, Hid (Below w2.heap.size w2 X) → Calls Tryz.prog 40 #[.int .i64 ra, .int .i64 rb] X fun e w' => e = .returned (.int .i64 0) ∧ Hid (Below w2.heap.size w2 w') ∧ w'.cell? ⟨w.heap.size, 0, none⟩ = some (.int .i64 ca) ∧ w'.cell? ⟨w.heap.size, 1, none⟩ = some (.bool true) ∧ w'.cell? ⟨w.heap.size, 2, none⟩ = some (.string ta) ∧ w'.cell? ⟨w.heap.size, 3, none⟩ = some (.int .i64 ea) ∧ w'.cell? ⟨w.heap.size + 1, 0, none⟩ = some (.int .i64 cb) ∧ w'.cell? ⟨w.heap.size + 1, 1, none⟩ = some (.bool nb) ∧ w'.cell? ⟨w.heap.size + 1, 2, none⟩ = some (.string tb) ∧ w'.cell? ⟨w.heap.size + 1, 3, none⟩ = some (.int .i64 eb)) := by
    intro X bX
    refine (Calls.mono (CI.out X) (fun e w' h => (⟨h.1, h.2 ▸ Below.refl _ _⟩ : _ ∧ Below X.heap.size X w'))).mono ?_
    rintro e w' ⟨rfl, hb⟩
    have bb := bX.out.trans (hb.mono bX.out.size)
    have Baq := Ba2.out.below bb Ba2.out.lt
    have Bbq := Bb2.out.below bb Bb2.out.lt
    exact ⟨rfl, bb, Baq.cell 0, Baq.cell 1, Baq.cell 2, Baq.cell 3, Bbq.cell 0, Bbq.cell 1, Bbq.cell 2, Bbq.cell 3⟩
  go_wp2_with fail
  have mk0 : True := trivial
  go_region_held3 (fun w' => w'.cell? ⟨w.heap.size, 0, none⟩ = some (.int .i64 ca) ∧ w'.cell? ⟨w.heap.size, 1, none⟩ = some (.bool true) ∧ w'.cell? ⟨w.heap.size, 2, none⟩ = some (.string ta) ∧ w'.cell? ⟨w.heap.size, 3, none⟩ = some (.int .i64 ea) ∧ w'.cell? ⟨w.heap.size + 1, 0, none⟩ = some (.int .i64 cb) ∧ w'.cell? ⟨w.heap.size + 1, 1, none⟩ = some (.bool nb) ∧ w'.cell? ⟨w.heap.size + 1, 2, none⟩ = some (.string tb) ∧ w'.cell? ⟨w.heap.size + 1, 3, none⟩ = some (.int .i64 eb)) (go_keep) (first
    | (clear mk0; go_at_call 41; refine (C0.out _ b0).mono ?_; rintro e w3 ⟨rfl, b1, q0_0, q0_1, q0_2, q0_3, q0_4, q0_5, q0_6, q0_7⟩; have mk1 : True := trivial)
    | (clear mk1; go_at_call 41; refine (C1.out _ b1).mono ?_; rintro e w4 ⟨rfl, b2, q1_0, q1_1, q1_2, q1_3, q1_4, q1_5, q1_6, q1_7⟩; have mk2 : True := trivial)
    | (clear mk2; go_at_call 40; refine (C2.out _ b2).mono ?_; rintro e w5 ⟨rfl, b3, q2_0, q2_1, q2_2, q2_3, q2_4, q2_5, q2_6, q2_7⟩; have mk3 : True := trivial))
  have Ba5 := hide (Ba2.out.below b3.out Ba2.out.lt)
  have Bb5 := hide (Bb2.out.below b3.out Bb2.out.lt)
  have HB5 := hide (HB2.out.trans (b3.out.mono HB2.out.size))
  clear mk3 b0 b1 b2 b3 C0 C1 C2 q0_0 q0_1 q0_2 q0_3 q0_4 q0_5 q0_6 q0_7 q1_0 q1_1 q1_2 q1_3 q1_4 q1_5 q1_6 q1_7 q2_0 q2_1 q2_2 q2_3 q2_4 q2_5 q2_6 q2_7 Ba2 Bb2 HB2 ya0 ya1 ya2 ya3 yb0 yb1 yb2 yb3
  have ya0 : w5.cell? ⟨w.heap.size, 0, none⟩ = some (.int .i64 ca) := Ba5.out.cell 0
  have ya1 : w5.cell? ⟨w.heap.size, 1, none⟩ = some (.bool true) := Ba5.out.cell 1
  have ya2 : w5.cell? ⟨w.heap.size, 2, none⟩ = some (.string ta) := Ba5.out.cell 2
  have ya3 : w5.cell? ⟨w.heap.size, 3, none⟩ = some (.int .i64 ea) := Ba5.out.cell 3
  have yb0 : w5.cell? ⟨w.heap.size + 1, 0, none⟩ = some (.int .i64 cb) := Bb5.out.cell 0
  have yb1 : w5.cell? ⟨w.heap.size + 1, 1, none⟩ = some (.bool nb) := Bb5.out.cell 1
  have yb2 : w5.cell? ⟨w.heap.size + 1, 2, none⟩ = some (.string tb) := Bb5.out.cell 2
  have yb3 : w5.cell? ⟨w.heap.size + 1, 3, none⟩ = some (.int .i64 eb) := Bb5.out.cell 3
  have fa0 := Ba5.out.free 0
  have fa1 := Ba5.out.free 1
  have fa2 := Ba5.out.free 2
  have fa3 := Ba5.out.free 3
  have fb0 := Bb5.out.free 0
  have fb1 := Bb5.out.free 1
  have fb2 := Bb5.out.free 2
  have fb3 := Bb5.out.free 3
  go_wp2_with fail
  refine (CA.out _).mono ?_
  rintro e w6 ⟨rfl, hb⟩
  have HB6 : Hid (Below w.heap.size w w6) := (below_put4 (below_put4 HB5.out (Nat.le_refl _) _ _ _ _) (Nat.le_succ _) _ _ _ _).trans (hb.mono (below_put4 (below_put4 HB5.out (Nat.le_refl _) _ _ _ _) (Nat.le_succ _) _ _ _ _).size)
  clear hb HB5
  go_wp2
  go_ret2
  exact ⟨rfl, HB6.out⟩

theorem Cmp_d (a b : DecT) (w : World) (ha : May a) (hb : May b) : Calls Tryz.prog 22 #[decVal a, decVal b] w fun e w' => e = .returned (.tuple #[.int .i64 (cmpI (wD a) (wD b)), .int .i64 0]) ∧ Below w.heap.size w w' := by
  have hra := fun W => rank_d a W ha
  have hrb := fun W => rank_d b W hb
  have ha' : MayD (a.cls : Int) a.neg (bys ⟨a.dig.toArray⟩) a.exp := by rw [bys_mk]; exact ha
  have hb' : MayD (b.cls : Int) b.neg (bys ⟨b.dig.toArray⟩) b.exp := by rw [bys_mk]; exact hb
  by_cases h : Lib.compareInt (rankI a) (rankI b) = 0
  · have e := same_cmp ha hb (rank_same h)
    have sa : (⟨a.dig.toArray⟩ : ByteArray).size = a.dig.length := size_mk0 _
    have sb : (⟨b.dig.toArray⟩ : ByteArray).size = b.dig.length := size_mk0 _
    rw [← e]
    unfold amtI
    obtain ⟨c, n, l, x⟩ := a
    cases n
    · have g := Cmp_false (c : Int) ⟨l.toArray⟩ x (b.cls : Int) b.neg ⟨b.dig.toArray⟩ b.exp w _ _ ha' hb' hra hrb h
      rw [sa, sb, bys_mk, bys_mk] at g
      exact g
    · have g := Cmp_true (c : Int) ⟨l.toArray⟩ x (b.cls : Int) b.neg ⟨b.dig.toArray⟩ b.exp w _ _ ha' hb' hra hrb h
      rw [sa, sb, bys_mk, bys_mk] at g
      exact g
  · rw [← rank_cmp ha hb h]
    exact Cmp_rank (a.cls : Int) a.neg ⟨a.dig.toArray⟩ a.exp (b.cls : Int) b.neg ⟨b.dig.toArray⟩ b.exp w _ _ ha' hb' hra hrb h

end Go.Proofs.YtafljhfamjabeaaGreatDoor

namespace Go.Proofs.YtafljhfamjabeaaGreatDoor
open Go.RowKit

def tNan : List UInt8 := [110, 97, 110]
def tInf : List UInt8 := [105, 110, 102]
def tNeg : List UInt8 := [45, 105, 110, 102]

/-- What a text of parts says. -/
noncomputable def partsD : Option Parts → DecT × Int
  | none => (⟨0, false, [], 0⟩, 50)
  | some p => tellF p.neg (decV (p.ahead ++ p.behind)) (p.pow - p.behind.length)

/-- What Parse answers. -/
noncomputable def parseD (l : List UInt8) : DecT × Int :=
  if l = tNan then (⟨2, false, [], 0⟩, 0) else if l = tInf then (⟨1, false, [], 0⟩, 0) else if l = tNeg then (⟨1, true, [], 0⟩, 0) else partsD (parseT l)

theorem clone_any (s : ByteArray) (w : World) (h : s.size ≤ 281474976710656) : Calls Tryz.prog 36 #[.string s] w fun e w' => e = .returned (.string s) ∧ Below w.heap.size w w' := by
  have C := hide (fun W => Tryz.stringslite_Clone s W h)
  go_enter Tryz.func36, Tryz.ntmps36
  go_wp2_with fail
  refine (C.out _).mono ?_
  rintro e w1 ⟨rfl, hb⟩
  go_wp2
  go_ret
  exact ⟨rfl, hb⟩

theorem sl_ne {s : ByteArray} {l : List UInt8} (h : bys s ≠ l) : (s.toList == l) = false := by
  rw [sl]
  exact beq_eq_false_iff_ne.2 h
theorem powV_lt {l : List UInt8} (h2 : ¬ 5 < (dgs (unsg l)).length) (h3 : aft (unsg l) = []) : -100000 ≤ powV l ∧ powV l ≤ 100000 := by
  have h4 : dgs (unsg l) = unsg l := by have := dgs_aft (unsg l); rwa [h3, List.append_nil] at this
  have h5 := decV_lt _ (unsg l) rfl (by rw [← h4]; exact dgs_digB _)
  rw [h4] at h2
  have h6 : 10 ^ (unsg l).length ≤ 10 ^ 5 := Nat.pow_le_pow_right (by omega) (by omega)
  have h7 : (10 : Nat) ^ 5 = 100000 := by decide
  unfold powV
  split <;> omega

structure PartsOk (s : List UInt8) (p : Parts) : Prop where
  ahead : DigB p.ahead
  behind : DigB p.behind
  al : p.ahead.length ≤ s.length
  bl : p.behind.length ≤ s.length
  lo : -100000 ≤ p.pow
  hi : p.pow ≤ 100000

theorem parts_ok {s : List UInt8} {p : Parts} (h : parseT s = some p) : PartsOk s p := by
  have da : DigB (pAhead s) := dgs_digB _
  have db : DigB (pBehind s) := by
    unfold pBehind; split
    · exact dgs_digB _
    · intro k hk; simp at hk
  have la : (pAhead s).length ≤ s.length := Nat.le_trans (dgs_len _) (p1_len s)
  have lb : (pBehind s).length ≤ s.length := by
    unfold pBehind; split
    · exact Nat.le_trans (dgs_len _) (Nat.le_trans (tp_len _ _) (p2_len s))
    · simp
  unfold parseT at h
  by_cases h1 : pAhead s = [] ∧ pBehind s = []
  · rw [if_pos h1] at h; cases h
  · rw [if_neg h1] at h
    by_cases h2 : p3 s = []
    · rw [if_pos h2] at h; cases h
      exact ⟨da, db, la, lb, by simp, by simp⟩
    · rw [if_neg h2] at h
      by_cases h3 : ¬ (byt (p3 s) 0 = 101 ∨ byt (p3 s) 0 = 69)
      · rw [if_pos h3] at h; cases h
      · rw [if_neg h3] at h
        by_cases h4 : dgs (unsg (p4 s)) = [] ∨ 5 < (dgs (unsg (p4 s))).length ∨ aft (unsg (p4 s)) ≠ []
        · rw [if_pos h4] at h; cases h
        · rw [if_neg h4] at h; cases h
          have h5 : ¬ 5 < (dgs (unsg (p4 s))).length := fun e => h4 (.inr (.inl e))
          have h6 : aft (unsg (p4 s)) = [] := Classical.not_not.1 fun e => h4 (.inr (.inr e))
          obtain ⟨b1, b2⟩ := powV_lt h5 h6
          exact ⟨da, db, la, lb, b1, b2⟩

theorem tellF_len (neg : Bool) (N : Nat) (e : Int) : (tellF neg N e).1.dig.length ≤ 1000 := by
  by_cases h : May (finD neg N e)
  · rw [tellF_yes h]
    rcases may_cases h with ⟨n, h⟩ | h | ⟨n, h⟩ | h
    · rw [h]; simp
    · exact h.len
    · rw [h]; simp
    · rw [h]; simp
  · rw [tellF_no h]; simp

set_option maxRecDepth 100000 in
set_option maxHeartbeats 1000000 in
theorem parse_nan (w : World) : Calls Tryz.prog 18 #[.string ⟨#[110, 97, 110]⟩] w fun e w' => e = .returned (decErr (⟨2, false, [], 0⟩, 0)) ∧ Below w.heap.size w w' := by
  have Br0 := hide (Blk.newAt w (w.heap.size) (rfl) #[.int .i64 0, .bool false, .string ⟨#[]⟩, .int .i64 0] 23)
  have HB0 : Hid (Below w.heap.size w (w.alloc (.cells #[.int .i64 0, .bool false, .string ⟨#[]⟩, .int .i64 0] 23))) := ((Below.refl _ _).alloc (Nat.le_refl _) _)
  go_enter Tryz.func18, Tryz.ntmps18
  go_wp2
  refine bodyPost_ret (results_dec2 rfl _ _ _ _ _ _ _ rfl (Blk.new _ _ _)) rfl ?_
  exact ⟨rfl, (Below.refl _ _).alloc (Nat.le_refl _) _⟩

set_option maxRecDepth 100000 in
set_option maxHeartbeats 1000000 in
theorem parse_inf (w : World) : Calls Tryz.prog 18 #[.string ⟨#[105, 110, 102]⟩] w fun e w' => e = .returned (decErr (⟨1, false, [], 0⟩, 0)) ∧ Below w.heap.size w w' := by
  have Br0 := hide (Blk.newAt w (w.heap.size) (rfl) #[.int .i64 0, .bool false, .string ⟨#[]⟩, .int .i64 0] 23)
  have HB0 : Hid (Below w.heap.size w (w.alloc (.cells #[.int .i64 0, .bool false, .string ⟨#[]⟩, .int .i64 0] 23))) := ((Below.refl _ _).alloc (Nat.le_refl _) _)
  go_enter Tryz.func18, Tryz.ntmps18
  go_wp2
  refine bodyPost_ret (results_dec2 rfl _ _ _ _ _ _ _ rfl (Blk.new _ _ _)) rfl ?_
  exact ⟨rfl, (Below.refl _ _).alloc (Nat.le_refl _) _⟩

set_option maxRecDepth 100000 in
set_option maxHeartbeats 1000000 in
theorem parse_neg (w : World) : Calls Tryz.prog 18 #[.string ⟨#[45, 105, 110, 102]⟩] w fun e w' => e = .returned (decErr (⟨1, true, [], 0⟩, 0)) ∧ Below w.heap.size w w' := by
  have Br0 := hide (Blk.newAt w (w.heap.size) (rfl) #[.int .i64 0, .bool false, .string ⟨#[]⟩, .int .i64 0] 23)
  have HB0 : Hid (Below w.heap.size w (w.alloc (.cells #[.int .i64 0, .bool false, .string ⟨#[]⟩, .int .i64 0] 23))) := ((Below.refl _ _).alloc (Nat.le_refl _) _)
  go_enter Tryz.func18, Tryz.ntmps18
  go_wp2
  refine bodyPost_ret (results_dec2 rfl _ _ _ _ _ _ _ rfl (Blk.new _ _ _)) rfl ?_
  exact ⟨rfl, (Below.refl _ _).alloc (Nat.le_refl _) _⟩

set_option maxRecDepth 100000 in
set_option maxHeartbeats 1000000 in
theorem parse_none (s : ByteArray) (w : World) (hs : s.size ≤ 281474976710656) (h1 : bys s ≠ tNan) (h2 : bys s ≠ tInf) (h3 : bys s ≠ tNeg) (hp : parseT (bys s) = none) : Calls Tryz.prog 18 #[.string s] w fun e w' => e = .returned (decErr (⟨0, false, [], 0⟩, 50)) ∧ Below w.heap.size w w' := by
  have e1 := sl_ne h1
  have e2 := sl_ne h2
  have e3 := sl_ne h3
  unfold tNan at e1
  unfold tInf at e2
  unfold tNeg at e3
  have TK := hide (fun W => take_any s W hs)
  rw [hp] at TK
  unfold partsV numV at TK
  clear h1 h2 h3 hs hp
  have Br0 := hide (Blk.newAt w (w.heap.size) (rfl) #[.int .i64 0, .bool false, .string ⟨#[]⟩, .int .i64 0] 23)
  have HB0 : Hid (Below w.heap.size w (w.alloc (.cells #[.int .i64 0, .bool false, .string ⟨#[]⟩, .int .i64 0] 23))) := ((Below.refl _ _).alloc (Nat.le_refl _) _)
  go_enter Tryz.func18, Tryz.ntmps18
  go_wp2_with fail
  refine (TK.out _).mono ?_
  rintro e w1 ⟨rfl, hb⟩
  have Br1 := hide (Br0.out.below hb Br0.out.lt)
  have HB1 := hide (HB0.out.trans (hb.mono HB0.out.size))
  clear hb Br0 HB0 
  have yr0 : w1.cell? ⟨w.heap.size, 0, none⟩ = some (.int .i64 0) := Br1.out.cell 0
  have yr1 : w1.cell? ⟨w.heap.size, 1, none⟩ = some (.bool false) := Br1.out.cell 1
  have yr2 : w1.cell? ⟨w.heap.size, 2, none⟩ = some (.string ⟨#[]⟩) := Br1.out.cell 2
  have yr3 : w1.cell? ⟨w.heap.size, 3, none⟩ = some (.int .i64 0) := Br1.out.cell 3
  have Br2 := hide ((Br1.out.alloc (.cells #[.bool false, .string ⟨#[]⟩, .string ⟨#[]⟩, .int .i64 0] 43)))
  have Bn2 := hide ((Blk.newAt w1 (w1.heap.size) (rfl) #[.bool false, .string ⟨#[]⟩, .string ⟨#[]⟩, .int .i64 0] 43))
  have HB2 : Hid (Below w.heap.size w (w1.alloc (.cells #[.bool false, .string ⟨#[]⟩, .string ⟨#[]⟩, .int .i64 0] 43))) := (HB1.out.alloc HB1.out.size _)
  clear Br1 HB1 yr0 yr1 yr2 yr3
  have yr0 : (w1.alloc (.cells #[.bool false, .string ⟨#[]⟩, .string ⟨#[]⟩, .int .i64 0] 43)).cell? ⟨w.heap.size, 0, none⟩ = some (.int .i64 0) := Br2.out.cell 0
  have yr1 : (w1.alloc (.cells #[.bool false, .string ⟨#[]⟩, .string ⟨#[]⟩, .int .i64 0] 43)).cell? ⟨w.heap.size, 1, none⟩ = some (.bool false) := Br2.out.cell 1
  have yr2 : (w1.alloc (.cells #[.bool false, .string ⟨#[]⟩, .string ⟨#[]⟩, .int .i64 0] 43)).cell? ⟨w.heap.size, 2, none⟩ = some (.string ⟨#[]⟩) := Br2.out.cell 2
  have yr3 : (w1.alloc (.cells #[.bool false, .string ⟨#[]⟩, .string ⟨#[]⟩, .int .i64 0] 43)).cell? ⟨w.heap.size, 3, none⟩ = some (.int .i64 0) := Br2.out.cell 3
  have yn0 : (w1.alloc (.cells #[.bool false, .string ⟨#[]⟩, .string ⟨#[]⟩, .int .i64 0] 43)).cell? ⟨w1.heap.size, 0, none⟩ = some (.bool false) := Bn2.out.cell 0
  have yn1 : (w1.alloc (.cells #[.bool false, .string ⟨#[]⟩, .string ⟨#[]⟩, .int .i64 0] 43)).cell? ⟨w1.heap.size, 1, none⟩ = some (.string ⟨#[]⟩) := Bn2.out.cell 1
  have yn2 : (w1.alloc (.cells #[.bool false, .string ⟨#[]⟩, .string ⟨#[]⟩, .int .i64 0] 43)).cell? ⟨w1.heap.size, 2, none⟩ = some (.string ⟨#[]⟩) := Bn2.out.cell 2
  have yn3 : (w1.alloc (.cells #[.bool false, .string ⟨#[]⟩, .string ⟨#[]⟩, .int .i64 0] 43)).cell? ⟨w1.heap.size, 3, none⟩ = some (.int .i64 0) := Bn2.out.cell 3
  have fr0 := Br2.out.free 0
  have fr1 := Br2.out.free 1
  have fr2 := Br2.out.free 2
  have fr3 := Br2.out.free 3
  go_wp2
  refine bodyPost_ret (results_dec2 rfl _ _ _ _ _ _ _ rfl (Br2.out.put4 _ _ _ _)) rfl ?_
  exact ⟨rfl, below_put4 (HB2.out) (by omega) _ _ _ _⟩

set_option maxRecDepth 100000 in
set_option maxHeartbeats 1000000 in
theorem parse_some (s : ByteArray) (w : World) (p : Parts) (hs : s.size ≤ 140737488355328) (h1 : bys s ≠ tNan) (h2 : bys s ≠ tInf) (h3 : bys s ≠ tNeg) (hp : parseT (bys s) = some p) : Calls Tryz.prog 18 #[.string s] w fun e w' => e = .returned (decErr (tellF p.neg (decV (p.ahead ++ p.behind)) (p.pow - p.behind.length))) ∧ Below w.heap.size w w' := by
  have e1 := sl_ne h1
  have e2 := sl_ne h2
  have e3 := sl_ne h3
  unfold tNan at e1
  unfold tInf at e2
  unfold tNeg at e3
  obtain ⟨pa, pb, pc, pd, pe, pf⟩ := parts_ok hp
  rw [bys_len] at pc pd
  have TK := hide (fun W => take_any s W (by omega))
  rw [hp] at TK
  unfold partsV numV at TK
  obtain ⟨S, a, b, q⟩ := p
  simp only at pa pb pc pd pe pf TK ⊢
  obtain ⟨A, hA⟩ : ∃ A : ByteArray, A = ⟨a.toArray⟩ := ⟨_, rfl⟩
  obtain ⟨B, hB⟩ : ∃ B : ByteArray, B = ⟨b.toArray⟩ := ⟨_, rfl⟩
  rw [← hA, ← hB] at TK
  have hAs : A.size = a.length := by rw [hA, size_mk0]
  have hBs : B.size = b.length := by rw [hB, size_mk0]
  have hAB : bys (A ++ B) = a ++ b := by rw [bys_append, hA, hB, bys_mk, bys_mk]
  have FI := hide (fun W => fin_any S (A ++ B) (q - (B.size : Int)) W (by rw [ByteArray.size_append]; omega) (by omega) (by omega) (by rw [hAB]; exact pa.append pb))
  rw [hAB] at FI
  rw [← hBs]
  have hsum : A.size + B.size ≤ 9223372036854775807 := by omega
  have hsum2 : ¬ 9223372036854775807 < A.size + B.size := by omega
  have hl := tellF_len S (decV (a ++ b)) (q - (B.size : Int))
  rcases hT : tellF S (decV (a ++ b)) (q - (B.size : Int)) with ⟨⟨c, n, l, e⟩, er⟩
  rw [hT] at FI hl
  unfold decErr decVal at FI ⊢
  simp only at FI hl ⊢
  obtain ⟨D, hD⟩ : ∃ D : ByteArray, D = ⟨l.toArray⟩ := ⟨_, rfl⟩
  rw [← hD] at FI ⊢
  have CL := hide (fun W => clone_any D W (by rw [hD, size_mk0]; omega))
  have hq1 : -9000000000000000000 ≤ q - (B.size : Int) := by omega
  have hq2 : q - (B.size : Int) ≤ 9000000000000000000 := by omega
  clear h1 h2 h3 hs hp hA hB hAB hT hl hD pa pb hAs hBs pc pd
  have Br0 := hide (Blk.newAt w (w.heap.size) (rfl) #[.int .i64 0, .bool false, .string ⟨#[]⟩, .int .i64 0] 23)
  have HB0 : Hid (Below w.heap.size w (w.alloc (.cells #[.int .i64 0, .bool false, .string ⟨#[]⟩, .int .i64 0] 23))) := ((Below.refl _ _).alloc (Nat.le_refl _) _)
  go_enter Tryz.func18, Tryz.ntmps18
  go_wp2_with fail
  refine (TK.out _).mono ?_
  rintro e w1 ⟨rfl, hb⟩
  have Br1 := hide (Br0.out.below hb Br0.out.lt)
  have HB1 := hide (HB0.out.trans (hb.mono HB0.out.size))
  clear hb Br0 HB0 
  have yr0 : w1.cell? ⟨w.heap.size, 0, none⟩ = some (.int .i64 0) := Br1.out.cell 0
  have yr1 : w1.cell? ⟨w.heap.size, 1, none⟩ = some (.bool false) := Br1.out.cell 1
  have yr2 : w1.cell? ⟨w.heap.size, 2, none⟩ = some (.string ⟨#[]⟩) := Br1.out.cell 2
  have yr3 : w1.cell? ⟨w.heap.size, 3, none⟩ = some (.int .i64 0) := Br1.out.cell 3
  have Br2 := hide ((Br1.out.alloc (.cells #[.bool S, .string A, .string B, .int .i64 q] 43)))
  have Bn2 := hide ((Blk.newAt w1 (w1.heap.size) (rfl) #[.bool S, .string A, .string B, .int .i64 q] 43))
  have HB2 : Hid (Below w.heap.size w (w1.alloc (.cells #[.bool S, .string A, .string B, .int .i64 q] 43))) := (HB1.out.alloc HB1.out.size _)
  clear Br1 HB1 yr0 yr1 yr2 yr3
  have yr0 : (w1.alloc (.cells #[.bool S, .string A, .string B, .int .i64 q] 43)).cell? ⟨w.heap.size, 0, none⟩ = some (.int .i64 0) := Br2.out.cell 0
  have yr1 : (w1.alloc (.cells #[.bool S, .string A, .string B, .int .i64 q] 43)).cell? ⟨w.heap.size, 1, none⟩ = some (.bool false) := Br2.out.cell 1
  have yr2 : (w1.alloc (.cells #[.bool S, .string A, .string B, .int .i64 q] 43)).cell? ⟨w.heap.size, 2, none⟩ = some (.string ⟨#[]⟩) := Br2.out.cell 2
  have yr3 : (w1.alloc (.cells #[.bool S, .string A, .string B, .int .i64 q] 43)).cell? ⟨w.heap.size, 3, none⟩ = some (.int .i64 0) := Br2.out.cell 3
  have yn0 : (w1.alloc (.cells #[.bool S, .string A, .string B, .int .i64 q] 43)).cell? ⟨w1.heap.size, 0, none⟩ = some (.bool S) := Bn2.out.cell 0
  have yn1 : (w1.alloc (.cells #[.bool S, .string A, .string B, .int .i64 q] 43)).cell? ⟨w1.heap.size, 1, none⟩ = some (.string A) := Bn2.out.cell 1
  have yn2 : (w1.alloc (.cells #[.bool S, .string A, .string B, .int .i64 q] 43)).cell? ⟨w1.heap.size, 2, none⟩ = some (.string B) := Bn2.out.cell 2
  have yn3 : (w1.alloc (.cells #[.bool S, .string A, .string B, .int .i64 q] 43)).cell? ⟨w1.heap.size, 3, none⟩ = some (.int .i64 q) := Bn2.out.cell 3
  go_wp2_with fail
  refine (FI.out _).mono ?_
  rintro e w3 ⟨rfl, hb⟩
  have Br3 := hide (Br2.out.below hb Br2.out.lt)
  have Bn3 := hide (Bn2.out.below hb Bn2.out.lt)
  have HB3 := hide (HB2.out.trans (hb.mono HB2.out.size))
  clear hb Br2 Bn2 HB2 yr0 yr1 yr2 yr3 yn0 yn1 yn2 yn3
  have hlt := Br3.out.lt
  have yr0 : w3.cell? ⟨w.heap.size, 0, none⟩ = some (.int .i64 0) := Br3.out.cell 0
  have yr1 : w3.cell? ⟨w.heap.size, 1, none⟩ = some (.bool false) := Br3.out.cell 1
  have yr2 : w3.cell? ⟨w.heap.size, 2, none⟩ = some (.string ⟨#[]⟩) := Br3.out.cell 2
  have yr3 : w3.cell? ⟨w.heap.size, 3, none⟩ = some (.int .i64 0) := Br3.out.cell 3
  have yn0 : w3.cell? ⟨w1.heap.size, 0, none⟩ = some (.bool S) := Bn3.out.cell 0
  have yn1 : w3.cell? ⟨w1.heap.size, 1, none⟩ = some (.string A) := Bn3.out.cell 1
  have yn2 : w3.cell? ⟨w1.heap.size, 2, none⟩ = some (.string B) := Bn3.out.cell 2
  have yn3 : w3.cell? ⟨w1.heap.size, 3, none⟩ = some (.int .i64 q) := Bn3.out.cell 3
  go_wp2_with fail
  refine (CL.out _).mono ?_
  rintro e w4 ⟨rfl, hb⟩
  have Br4 := hide ((Br3.out.alloc (.cells #[.int .i64 (c : Int), .bool n, .string D, .int .i64 e] 23)).below hb (Br3.out.alloc (.cells #[.int .i64 (c : Int), .bool n, .string D, .int .i64 e] 23)).lt)
  have Bn4 := hide ((Bn3.out.alloc (.cells #[.int .i64 (c : Int), .bool n, .string D, .int .i64 e] 23)).below hb (Bn3.out.alloc (.cells #[.int .i64 (c : Int), .bool n, .string D, .int .i64 e] 23)).lt)
  have Bd4 := hide ((Blk.newAt w3 (w3.heap.size) (rfl) #[.int .i64 (c : Int), .bool n, .string D, .int .i64 e] 23).below hb (Blk.newAt w3 (w3.heap.size) (rfl) #[.int .i64 (c : Int), .bool n, .string D, .int .i64 e] 23).lt)
  have HB4 := hide ((HB3.out.alloc HB3.out.size _).trans (hb.mono (HB3.out.alloc HB3.out.size _).size))
  clear hb Br3 Bn3 HB3 yr0 yr1 yr2 yr3 yn0 yn1 yn2 yn3
  have hn1 : ¬ w3.heap.size = w.heap.size := by omega
  have hn2 : ¬ w.heap.size = w3.heap.size := by omega
  have hge : w.heap.size ≤ w3.heap.size := by omega
  clear hlt
  have fd2 := Bd4.out.free 2
  have yr0 : w4.cell? ⟨w.heap.size, 0, none⟩ = some (.int .i64 0) := Br4.out.cell 0
  have yr1 : w4.cell? ⟨w.heap.size, 1, none⟩ = some (.bool false) := Br4.out.cell 1
  have yr2 : w4.cell? ⟨w.heap.size, 2, none⟩ = some (.string ⟨#[]⟩) := Br4.out.cell 2
  have yr3 : w4.cell? ⟨w.heap.size, 3, none⟩ = some (.int .i64 0) := Br4.out.cell 3
  have yn0 : w4.cell? ⟨w1.heap.size, 0, none⟩ = some (.bool S) := Bn4.out.cell 0
  have yn1 : w4.cell? ⟨w1.heap.size, 1, none⟩ = some (.string A) := Bn4.out.cell 1
  have yn2 : w4.cell? ⟨w1.heap.size, 2, none⟩ = some (.string B) := Bn4.out.cell 2
  have yn3 : w4.cell? ⟨w1.heap.size, 3, none⟩ = some (.int .i64 q) := Bn4.out.cell 3
  have yd0 : w4.cell? ⟨w3.heap.size, 0, none⟩ = some (.int .i64 (c : Int)) := Bd4.out.cell 0
  have yd1 : w4.cell? ⟨w3.heap.size, 1, none⟩ = some (.bool n) := Bd4.out.cell 1
  have yd2 : w4.cell? ⟨w3.heap.size, 2, none⟩ = some (.string D) := Bd4.out.cell 2
  have yd3 : w4.cell? ⟨w3.heap.size, 3, none⟩ = some (.int .i64 e) := Bd4.out.cell 3
  have fr0 := Br4.out.free 0
  have fr1 := Br4.out.free 1
  have fr2 := Br4.out.free 2
  have fr3 := Br4.out.free 3
  go_wp2
  refine bodyPost_ret (results_dec2 rfl _ _ _ _ _ _ _ rfl ((Br4.out.other (by simpa using hn1) _).put4 _ _ _ _)) rfl ?_
  exact ⟨rfl, below_put4 (HB4.out.setCell hge _) (by omega) _ _ _ _⟩

theorem Parse_any (s : ByteArray) (w : World) (hs : s.size ≤ 140737488355328) : Calls Tryz.prog 18 #[.string s] w fun e w' => e = .returned (decErr (parseD (bys s))) ∧ Below w.heap.size w w' := by
  unfold parseD
  by_cases h1 : bys s = tNan
  · rw [if_pos h1, ← mk_bys s, h1]; exact parse_nan w
  · rw [if_neg h1]
    by_cases h2 : bys s = tInf
    · rw [if_pos h2, ← mk_bys s, h2]; exact parse_inf w
    · rw [if_neg h2]
      by_cases h3 : bys s = tNeg
      · rw [if_pos h3, ← mk_bys s, h3]; exact parse_neg w
      · rw [if_neg h3]
        rcases hp : parseT (bys s) with _ | p
        · exact parse_none s w (by omega) h1 h2 h3 hp
        · exact parse_some s w p hs h1 h2 h3 hp

end Go.Proofs.YtafljhfamjabeaaGreatDoor

namespace Go.Proofs.YtafljhfamjabeaaGreatDoor
open Go.RowKit

theorem digB_of {l : List UInt8} (h : l.all isDg = true) : DigB l := by
  have := (dgs_all_of h)
  rw [← this]; exact dgs_digB l
where
  dgs_all_of : ∀ {l : List UInt8}, l.all isDg = true → dgs l = l
    | [], _ => rfl
    | b :: t, h => by
      simp only [List.all_cons, Bool.and_eq_true] at h
      unfold dgs
      rw [List.takeWhile_cons_of_pos h.1]
      congr 1
      exact dgs_all_of h.2

theorem tell_of {neg : Bool} {l : List UInt8} {e : Int} {N : Nat} {d : DecT} (hd : DigB l) (hN : N = decV l) (h : ofD neg l e = d) (hm : May d) : tellF neg N e = (d, 0) := by
  have e1 : finD neg N e = d := by rw [hN, ← ofD_fin neg l e hd]; exact h
  rw [tellF_yes (by rw [e1]; exact hm), e1]
theorem tell_not {neg : Bool} {l : List UInt8} {e : Int} {N : Nat} {d : DecT} (hd : DigB l) (hN : N = decV l) (h : ofD neg l e = d) (hm : ¬ May d) : tellF neg N e = (⟨0, false, [], 0⟩, 51) := by
  have e1 : finD neg N e = d := by rw [hN, ← ofD_fin neg l e hd]; exact h
  exact tellF_no (by rw [e1]; exact hm)

def dA : DecT := ⟨0, false, [49, 53], -1⟩
def dX : DecT := ⟨0, false, [51], 0⟩
def dY : DecT := ⟨0, false, [50, 50, 53], -2⟩

theorem finA : Fin dA := ⟨rfl, by decide, by decide, by decide, by decide, by decide, by decide, digB_of rfl⟩
theorem finX : Fin dX := ⟨rfl, by decide, by decide, by decide, by decide, by decide, by decide, digB_of rfl⟩
theorem finY : Fin dY := ⟨rfl, by decide, by decide, by decide, by decide, by decide, by decide, digB_of rfl⟩

theorem aw1 : parseD [49, 46, 53, 48] = (dA, 0) := by
  have h : parseT [49, 46, 53, 48] = some ⟨false, [49], [53, 48], 0⟩ := by rfl
  unfold parseD
  rw [if_neg (by decide), if_neg (by decide), if_neg (by decide), h]
  exact tell_of (l := [49, 53, 48]) (digB_of rfl) rfl rfl finA.may

theorem aw3 : parseD [] = (⟨0, false, [], 0⟩, 50) := by
  have h : parseT [] = none := by rfl
  unfold parseD
  rw [if_neg (by decide), if_neg (by decide), if_neg (by decide), h]
  rfl

theorem aw4 : parseD [49, 101, 50, 48, 48, 48] = (⟨0, false, [], 0⟩, 51) := by
  have h : parseT [49, 101, 50, 48, 48, 48] = some ⟨false, [49], [], 2000⟩ := by rfl
  unfold parseD
  rw [if_neg (by decide), if_neg (by decide), if_neg (by decide), h]
  refine tell_not (l := [49]) (d := ⟨0, false, [49], 2000⟩) (digB_of rfl) rfl rfl ?_
  rintro (⟨_, ⟨h1, _⟩ | ⟨_, _, _, h1, _⟩⟩ | ⟨h1, _⟩ | ⟨h1, _⟩)
  · cases h1
  · exact absurd h1 (by decide)
  · exact absurd h1 (by decide)
  · exact absurd h1 (by decide)

theorem itoa_m1 : Lib.itoa (-1) = [45, 49] := by
  unfold Lib.itoa
  rw [if_pos (by decide), show (-1 : Int).natAbs = 1 from rfl, Lib.decDigits_one (by decide)]
  rfl
theorem aw2 : printT dA = [49, 53, 101, 45, 49] := by
  show [49, 53] ++ [101] ++ Lib.itoa (-1) = _
  rw [itoa_m1]; rfl

theorem aw6 : sumT dA dA = (dX, 0) := by
  unfold sumT
  rw [if_pos ⟨rfl, rfl⟩]
  exact tell_of (l := [51, 48]) (digB_of rfl) rfl rfl finX.may
theorem aw7 : prodT dA dA = (dY, 0) := by
  unfold prodT
  rw [if_pos ⟨rfl, rfl⟩]
  exact tell_of (l := [50, 50, 53]) (digB_of rfl) rfl rfl finY.may

theorem aw9 : cmpI (wD dA) (wD dX) = -1 := by
  rw [← rank_or]
  rfl
where
  rank_or : amtI dA dX = cmpI (wD dA) (wD dX) := by
    have := same_cmp finA.may finX.may rfl
    exact this

theorem bysmk (a : Array UInt8) : bys ⟨a⟩ = a.toList := rfl

theorem aPars1 (w : World) : Calls Tryz.prog 18 #[.string ⟨#[49, 46, 53, 48]⟩] w fun e w' => e = .returned (.tuple #[.agg #[.int .i64 0, .bool false, .string ⟨#[49, 53]⟩, .int .i64 (-1)], .int .i64 0]) ∧ Below w.heap.size w w' := by
  have h := Parse_any ⟨#[49, 46, 53, 48]⟩ w (by decide)
  rw [bysmk, aw1] at h
  exact h
theorem aPars3 (w : World) : Calls Tryz.prog 18 #[.string ⟨#[]⟩] w fun e w' => e = .returned (.tuple #[.agg #[.int .i64 0, .bool false, .string ⟨#[]⟩, .int .i64 0], .int .i64 50]) ∧ Below w.heap.size w w' := by
  have h := Parse_any ⟨#[]⟩ w (by decide)
  rw [bysmk, aw3] at h
  exact h
theorem aPars4 (w : World) : Calls Tryz.prog 18 #[.string ⟨#[49, 101, 50, 48, 48, 48]⟩] w fun e w' => e = .returned (.tuple #[.agg #[.int .i64 0, .bool false, .string ⟨#[]⟩, .int .i64 0], .int .i64 51]) ∧ Below w.heap.size w w' := by
  have h := Parse_any ⟨#[49, 101, 50, 48, 48, 48]⟩ w (by decide)
  rw [bysmk, aw4] at h
  exact h
abbrev vA : Value := .agg #[.int .i64 0, .bool false, .string ⟨#[49, 53]⟩, .int .i64 (-1)]
theorem aPrint (w : World) (h : Tab w) : Calls Tryz.prog 20 #[vA] w fun e w' => e = .returned (.tuple #[.string ⟨#[49, 53, 101, 45, 49]⟩, .int .i64 0]) ∧ Below w.heap.size w w' := by
  have h := Print_d dA w finA.may h
  rw [aw2] at h
  exact h
theorem aPrint5 (w : World) : Calls Tryz.prog 20 #[.agg #[.int .i64 0, .bool false, .string ⟨#[]⟩, .int .i64 1]] w fun e w' => e = .returned (.tuple #[.string ⟨#[]⟩, .int .i64 52]) ∧ Below w.heap.size w w' :=
  Print_no 0 false ⟨#[]⟩ 1 w (by
    rintro (⟨_, ⟨_, h1⟩ | ⟨h1, _⟩⟩ | ⟨h1, _⟩ | ⟨h1, _⟩)
    · cases h1
    · exact h1 rfl
    · cases h1
    · cases h1)
theorem aAdd (w : World) (h : Tab w) : Calls Tryz.prog 28 #[vA, vA] w fun e w' => e = .returned (.tuple #[.agg #[.int .i64 0, .bool false, .string ⟨#[51]⟩, .int .i64 0], .int .i64 0]) ∧ Below w.heap.size w w' := by
  have h := Add_d dA dA finA.may finA.may w h
  rw [aw6] at h
  exact h
theorem aMul (w : World) (h : Tab w) : Calls Tryz.prog 30 #[vA, vA] w fun e w' => e = .returned (.tuple #[.agg #[.int .i64 0, .bool false, .string ⟨#[50, 50, 53]⟩, .int .i64 (-2)], .int .i64 0]) ∧ Below w.heap.size w w' := by
  have h := Mul_d dA dA finA.may finA.may w h
  rw [aw7] at h
  exact h
theorem aScale (w : World) : Calls Tryz.prog 26 #[vA, .int .i64 3] w fun e w' => e = .returned (.tuple #[.agg #[.int .i64 0, .bool false, .string ⟨#[49, 53]⟩, .int .i64 2], .int .i64 0]) ∧ Below w.heap.size w w' :=
  Scale_in 0 false ⟨#[49, 53]⟩ (-1) 3 w finA.may (by decide) (by decide) (by decide)
theorem aCmp (w : World) : Calls Tryz.prog 22 #[vA, .agg #[.int .i64 0, .bool false, .string ⟨#[51]⟩, .int .i64 0]] w fun e w' => e = .returned (.tuple #[.int .i64 (-1), .int .i64 0]) ∧ Below w.heap.size w w' := by
  have h := Cmp_d dA dX w finA.may finX.may
  rw [aw9] at h
  exact h
theorem aNeg (w : World) : Calls Tryz.prog 24 #[vA] w fun e w' => e = .returned (.tuple #[.agg #[.int .i64 0, .bool true, .string ⟨#[49, 53]⟩, .int .i64 (-1)], .int .i64 0]) ∧ Below w.heap.size w w' :=
  Neg_yes 0 false ⟨#[49, 53]⟩ (-1) w finA.may (by decide)
theorem aMay (w : World) : Calls Tryz.prog 14 #[vA] w fun e w' => e = .returned (.bool true) ∧ Below w.heap.size w w' := dmay_yes 0 false ⟨#[49, 53]⟩ (-1) w finA.may
theorem aPlace (w : World) : Calls Tryz.prog 16 #[vA] w fun e w' => e = .returned (.int .i64 1) ∧ Below w.heap.size w w' := Place_yes 0 false ⟨#[49, 53]⟩ (-1) w finA.may

set_option maxRecDepth 100000 in
set_option maxHeartbeats 4000000 in
theorem dawake_any (w : World) (htab : Tab w) : Calls Tryz.prog 13 #[] w fun e w' => e = .returned (.bool true) ∧ Below w.heap.size w w' := by
  have HT := hide htab
  clear htab
  have HB0 : Hid (Below w.heap.size w w) := Below.refl _ _
  go_enter Tryz.func13, Tryz.ntmps13
  go_wp2_with fail
  refine (aPars1 _).mono ?_
  rintro e w1 ⟨rfl, hb⟩
  have HB1 := hide (HB0.out.trans (hb.mono HB0.out.size))
  clear hb  HB0 
  go_wp2_with fail
  refine (aPrint _ ((HT.out.below HB1.out).alloc _)).mono ?_
  rintro e w2 ⟨rfl, hb⟩
  have Bd2 := hide ((Blk.newAt w1 (w1.heap.size) (rfl) #[.int .i64 0, .bool false, .string ⟨#[49, 53]⟩, .int .i64 (-1)] 23).below hb (Blk.newAt w1 (w1.heap.size) (rfl) #[.int .i64 0, .bool false, .string ⟨#[49, 53]⟩, .int .i64 (-1)] 23).lt)
  have HB2 := hide ((HB1.out.alloc HB1.out.size _).trans (hb.mono (HB1.out.alloc HB1.out.size _).size))
  clear hb  HB1 
  obtain ⟨yd0, yd1, yd2, yd3⟩ := Bd2.out.four
  go_wp2_with fail
  refine (aPars3 _).mono ?_
  rintro e w3 ⟨rfl, hb⟩
  have Bd3 := Blk.on Bd2 hb
  have HB3 := hide (HB2.out.trans (hb.mono HB2.out.size))
  clear hb Bd2 HB2 yd0 yd1 yd2 yd3
  obtain ⟨yd0, yd1, yd2, yd3⟩ := Bd3.out.four
  go_wp2_with fail
  refine (aPars4 _).mono ?_
  rintro e w4 ⟨rfl, hb⟩
  have Bd4 := hide ((Bd3.out.alloc (.cells #[.int .i64 0, .bool false, .string ⟨#[]⟩, .int .i64 0] 23)).below hb (Bd3.out.alloc (.cells #[.int .i64 0, .bool false, .string ⟨#[]⟩, .int .i64 0] 23)).lt)
  have Bu4 := hide ((Blk.newAt w3 (w3.heap.size) (rfl) #[.int .i64 0, .bool false, .string ⟨#[]⟩, .int .i64 0] 23).below hb (Blk.newAt w3 (w3.heap.size) (rfl) #[.int .i64 0, .bool false, .string ⟨#[]⟩, .int .i64 0] 23).lt)
  have HB4 := hide ((HB3.out.alloc HB3.out.size _).trans (hb.mono (HB3.out.alloc HB3.out.size _).size))
  clear hb Bd3 HB3 yd0 yd1 yd2 yd3
  obtain ⟨yd0, yd1, yd2, yd3⟩ := Bd4.out.four
  obtain ⟨yu0, yu1, yu2, yu3⟩ := Bu4.out.four
  go_wp2_with fail
  refine (aPrint5 _).mono ?_
  rintro e w5 ⟨rfl, hb⟩
  have Bd5 := hide ((Bd4.out.alloc (.cells #[.int .i64 0, .bool false, .string ⟨#[]⟩, .int .i64 0] 23)).below hb (Bd4.out.alloc (.cells #[.int .i64 0, .bool false, .string ⟨#[]⟩, .int .i64 0] 23)).lt)
  have Bu5 := hide ((Bu4.out.alloc (.cells #[.int .i64 0, .bool false, .string ⟨#[]⟩, .int .i64 0] 23)).below hb (Bu4.out.alloc (.cells #[.int .i64 0, .bool false, .string ⟨#[]⟩, .int .i64 0] 23)).lt)
  have Bv5 := hide ((Blk.newAt w4 (w4.heap.size) (rfl) #[.int .i64 0, .bool false, .string ⟨#[]⟩, .int .i64 0] 23).below hb (Blk.newAt w4 (w4.heap.size) (rfl) #[.int .i64 0, .bool false, .string ⟨#[]⟩, .int .i64 0] 23).lt)
  have HB5 := hide ((HB4.out.alloc HB4.out.size _).trans (hb.mono (HB4.out.alloc HB4.out.size _).size))
  clear hb Bd4 Bu4 HB4 yd0 yd1 yd2 yd3 yu0 yu1 yu2 yu3
  obtain ⟨yd0, yd1, yd2, yd3⟩ := Bd5.out.four
  obtain ⟨yu0, yu1, yu2, yu3⟩ := Bu5.out.four
  obtain ⟨yv0, yv1, yv2, yv3⟩ := Bv5.out.four
  go_wp2_with fail
  refine (aAdd _ (HT.out.below HB5.out)).mono ?_
  rintro e w6 ⟨rfl, hb⟩
  have Bd6 := Blk.on Bd5 hb
  have Bu6 := Blk.on Bu5 hb
  have Bv6 := Blk.on Bv5 hb
  have HB6 := hide (HB5.out.trans (hb.mono HB5.out.size))
  clear hb Bd5 Bu5 Bv5 HB5 yd0 yd1 yd2 yd3 yu0 yu1 yu2 yu3 yv0 yv1 yv2 yv3
  obtain ⟨yd0, yd1, yd2, yd3⟩ := Bd6.out.four
  obtain ⟨yu0, yu1, yu2, yu3⟩ := Bu6.out.four
  obtain ⟨yv0, yv1, yv2, yv3⟩ := Bv6.out.four
  have Bd7 := Blk.up Bd6 (.cells #[.int .i64 0, .bool false, .string ⟨#[51]⟩, .int .i64 0] 23)
  have Bu7 := Blk.up Bu6 (.cells #[.int .i64 0, .bool false, .string ⟨#[51]⟩, .int .i64 0] 23)
  have Bv7 := Blk.up Bv6 (.cells #[.int .i64 0, .bool false, .string ⟨#[51]⟩, .int .i64 0] 23)
  have Bx7 := hide ((Blk.newAt w6 (w6.heap.size) (rfl) #[.int .i64 0, .bool false, .string ⟨#[51]⟩, .int .i64 0] 23))
  have HB7 : Hid (Below w.heap.size w (w6.alloc (.cells #[.int .i64 0, .bool false, .string ⟨#[51]⟩, .int .i64 0] 23))) := (HB6.out.alloc HB6.out.size _)
  clear Bd6 Bu6 Bv6 HB6 yd0 yd1 yd2 yd3 yu0 yu1 yu2 yu3 yv0 yv1 yv2 yv3
  obtain ⟨yd0, yd1, yd2, yd3⟩ := Bd7.out.four
  obtain ⟨yu0, yu1, yu2, yu3⟩ := Bu7.out.four
  obtain ⟨yv0, yv1, yv2, yv3⟩ := Bv7.out.four
  obtain ⟨yx0, yx1, yx2, yx3⟩ := Bx7.out.four
  go_wp2_with fail
  refine (aMul _ (HT.out.below HB7.out)).mono ?_
  rintro e w8 ⟨rfl, hb⟩
  have Bd8 := Blk.on Bd7 hb
  have Bu8 := Blk.on Bu7 hb
  have Bv8 := Blk.on Bv7 hb
  have Bx8 := Blk.on Bx7 hb
  have HB8 := hide (HB7.out.trans (hb.mono HB7.out.size))
  clear hb Bd7 Bu7 Bv7 Bx7 HB7 yd0 yd1 yd2 yd3 yu0 yu1 yu2 yu3 yv0 yv1 yv2 yv3 yx0 yx1 yx2 yx3
  obtain ⟨yd0, yd1, yd2, yd3⟩ := Bd8.out.four
  obtain ⟨yu0, yu1, yu2, yu3⟩ := Bu8.out.four
  obtain ⟨yv0, yv1, yv2, yv3⟩ := Bv8.out.four
  obtain ⟨yx0, yx1, yx2, yx3⟩ := Bx8.out.four
  have Bd9 := Blk.up Bd8 (.cells #[.int .i64 0, .bool false, .string ⟨#[50, 50, 53]⟩, .int .i64 (-2)] 23)
  have Bu9 := Blk.up Bu8 (.cells #[.int .i64 0, .bool false, .string ⟨#[50, 50, 53]⟩, .int .i64 (-2)] 23)
  have Bv9 := Blk.up Bv8 (.cells #[.int .i64 0, .bool false, .string ⟨#[50, 50, 53]⟩, .int .i64 (-2)] 23)
  have Bx9 := Blk.up Bx8 (.cells #[.int .i64 0, .bool false, .string ⟨#[50, 50, 53]⟩, .int .i64 (-2)] 23)
  have By9 := hide ((Blk.newAt w8 (w8.heap.size) (rfl) #[.int .i64 0, .bool false, .string ⟨#[50, 50, 53]⟩, .int .i64 (-2)] 23))
  have HB9 : Hid (Below w.heap.size w (w8.alloc (.cells #[.int .i64 0, .bool false, .string ⟨#[50, 50, 53]⟩, .int .i64 (-2)] 23))) := (HB8.out.alloc HB8.out.size _)
  clear Bd8 Bu8 Bv8 Bx8 HB8 yd0 yd1 yd2 yd3 yu0 yu1 yu2 yu3 yv0 yv1 yv2 yv3 yx0 yx1 yx2 yx3
  obtain ⟨yd0, yd1, yd2, yd3⟩ := Bd9.out.four
  obtain ⟨yu0, yu1, yu2, yu3⟩ := Bu9.out.four
  obtain ⟨yv0, yv1, yv2, yv3⟩ := Bv9.out.four
  obtain ⟨yx0, yx1, yx2, yx3⟩ := Bx9.out.four
  obtain ⟨yy0, yy1, yy2, yy3⟩ := By9.out.four
  go_wp2_with fail
  refine (aScale _).mono ?_
  rintro e w10 ⟨rfl, hb⟩
  have Bd10 := Blk.on Bd9 hb
  have Bu10 := Blk.on Bu9 hb
  have Bv10 := Blk.on Bv9 hb
  have Bx10 := Blk.on Bx9 hb
  have By10 := Blk.on By9 hb
  have HB10 := hide (HB9.out.trans (hb.mono HB9.out.size))
  clear hb Bd9 Bu9 Bv9 Bx9 By9 HB9 yd0 yd1 yd2 yd3 yu0 yu1 yu2 yu3 yv0 yv1 yv2 yv3 yx0 yx1 yx2 yx3 yy0 yy1 yy2 yy3
  obtain ⟨yd0, yd1, yd2, yd3⟩ := Bd10.out.four
  obtain ⟨yu0, yu1, yu2, yu3⟩ := Bu10.out.four
  obtain ⟨yv0, yv1, yv2, yv3⟩ := Bv10.out.four
  obtain ⟨yx0, yx1, yx2, yx3⟩ := Bx10.out.four
  obtain ⟨yy0, yy1, yy2, yy3⟩ := By10.out.four
  have Bd11 := Blk.up Bd10 (.cells #[.int .i64 0, .bool false, .string ⟨#[49, 53]⟩, .int .i64 2] 23)
  have Bu11 := Blk.up Bu10 (.cells #[.int .i64 0, .bool false, .string ⟨#[49, 53]⟩, .int .i64 2] 23)
  have Bv11 := Blk.up Bv10 (.cells #[.int .i64 0, .bool false, .string ⟨#[49, 53]⟩, .int .i64 2] 23)
  have Bx11 := Blk.up Bx10 (.cells #[.int .i64 0, .bool false, .string ⟨#[49, 53]⟩, .int .i64 2] 23)
  have By11 := Blk.up By10 (.cells #[.int .i64 0, .bool false, .string ⟨#[49, 53]⟩, .int .i64 2] 23)
  have Bz11 := hide ((Blk.newAt w10 (w10.heap.size) (rfl) #[.int .i64 0, .bool false, .string ⟨#[49, 53]⟩, .int .i64 2] 23))
  have HB11 : Hid (Below w.heap.size w (w10.alloc (.cells #[.int .i64 0, .bool false, .string ⟨#[49, 53]⟩, .int .i64 2] 23))) := (HB10.out.alloc HB10.out.size _)
  clear Bd10 Bu10 Bv10 Bx10 By10 HB10 yd0 yd1 yd2 yd3 yu0 yu1 yu2 yu3 yv0 yv1 yv2 yv3 yx0 yx1 yx2 yx3 yy0 yy1 yy2 yy3
  obtain ⟨yd0, yd1, yd2, yd3⟩ := Bd11.out.four
  obtain ⟨yu0, yu1, yu2, yu3⟩ := Bu11.out.four
  obtain ⟨yv0, yv1, yv2, yv3⟩ := Bv11.out.four
  obtain ⟨yx0, yx1, yx2, yx3⟩ := Bx11.out.four
  obtain ⟨yy0, yy1, yy2, yy3⟩ := By11.out.four
  obtain ⟨yz0, yz1, yz2, yz3⟩ := Bz11.out.four
  go_wp2_with fail
  refine (aCmp _).mono ?_
  rintro e w12 ⟨rfl, hb⟩
  have Bd12 := Blk.on Bd11 hb
  have Bu12 := Blk.on Bu11 hb
  have Bv12 := Blk.on Bv11 hb
  have Bx12 := Blk.on Bx11 hb
  have By12 := Blk.on By11 hb
  have Bz12 := Blk.on Bz11 hb
  have HB12 := hide (HB11.out.trans (hb.mono HB11.out.size))
  clear hb Bd11 Bu11 Bv11 Bx11 By11 Bz11 HB11 yd0 yd1 yd2 yd3 yu0 yu1 yu2 yu3 yv0 yv1 yv2 yv3 yx0 yx1 yx2 yx3 yy0 yy1 yy2 yy3 yz0 yz1 yz2 yz3
  obtain ⟨yd0, yd1, yd2, yd3⟩ := Bd12.out.four
  obtain ⟨yu0, yu1, yu2, yu3⟩ := Bu12.out.four
  obtain ⟨yv0, yv1, yv2, yv3⟩ := Bv12.out.four
  obtain ⟨yx0, yx1, yx2, yx3⟩ := Bx12.out.four
  obtain ⟨yy0, yy1, yy2, yy3⟩ := By12.out.four
  obtain ⟨yz0, yz1, yz2, yz3⟩ := Bz12.out.four
  go_wp2_with fail
  refine (aNeg _).mono ?_
  rintro e w13 ⟨rfl, hb⟩
  have Bd13 := Blk.on Bd12 hb
  have Bu13 := Blk.on Bu12 hb
  have Bv13 := Blk.on Bv12 hb
  have Bx13 := Blk.on Bx12 hb
  have By13 := Blk.on By12 hb
  have Bz13 := Blk.on Bz12 hb
  have HB13 := hide (HB12.out.trans (hb.mono HB12.out.size))
  clear hb Bd12 Bu12 Bv12 Bx12 By12 Bz12 HB12 yd0 yd1 yd2 yd3 yu0 yu1 yu2 yu3 yv0 yv1 yv2 yv3 yx0 yx1 yx2 yx3 yy0 yy1 yy2 yy3 yz0 yz1 yz2 yz3
  obtain ⟨yd0, yd1, yd2, yd3⟩ := Bd13.out.four
  obtain ⟨yu0, yu1, yu2, yu3⟩ := Bu13.out.four
  obtain ⟨yv0, yv1, yv2, yv3⟩ := Bv13.out.four
  obtain ⟨yx0, yx1, yx2, yx3⟩ := Bx13.out.four
  obtain ⟨yy0, yy1, yy2, yy3⟩ := By13.out.four
  obtain ⟨yz0, yz1, yz2, yz3⟩ := Bz13.out.four
  have Bd14 := Blk.up Bd13 (.cells #[.int .i64 0, .bool true, .string ⟨#[49, 53]⟩, .int .i64 (-1)] 23)
  have Bu14 := Blk.up Bu13 (.cells #[.int .i64 0, .bool true, .string ⟨#[49, 53]⟩, .int .i64 (-1)] 23)
  have Bv14 := Blk.up Bv13 (.cells #[.int .i64 0, .bool true, .string ⟨#[49, 53]⟩, .int .i64 (-1)] 23)
  have Bx14 := Blk.up Bx13 (.cells #[.int .i64 0, .bool true, .string ⟨#[49, 53]⟩, .int .i64 (-1)] 23)
  have By14 := Blk.up By13 (.cells #[.int .i64 0, .bool true, .string ⟨#[49, 53]⟩, .int .i64 (-1)] 23)
  have Bz14 := Blk.up Bz13 (.cells #[.int .i64 0, .bool true, .string ⟨#[49, 53]⟩, .int .i64 (-1)] 23)
  have Bn14 := hide ((Blk.newAt w13 (w13.heap.size) (rfl) #[.int .i64 0, .bool true, .string ⟨#[49, 53]⟩, .int .i64 (-1)] 23))
  have HB14 : Hid (Below w.heap.size w (w13.alloc (.cells #[.int .i64 0, .bool true, .string ⟨#[49, 53]⟩, .int .i64 (-1)] 23))) := (HB13.out.alloc HB13.out.size _)
  clear Bd13 Bu13 Bv13 Bx13 By13 Bz13 HB13 yd0 yd1 yd2 yd3 yu0 yu1 yu2 yu3 yv0 yv1 yv2 yv3 yx0 yx1 yx2 yx3 yy0 yy1 yy2 yy3 yz0 yz1 yz2 yz3
  obtain ⟨yd0, yd1, yd2, yd3⟩ := Bd14.out.four
  obtain ⟨yu0, yu1, yu2, yu3⟩ := Bu14.out.four
  obtain ⟨yv0, yv1, yv2, yv3⟩ := Bv14.out.four
  obtain ⟨yx0, yx1, yx2, yx3⟩ := Bx14.out.four
  obtain ⟨yy0, yy1, yy2, yy3⟩ := By14.out.four
  obtain ⟨yz0, yz1, yz2, yz3⟩ := Bz14.out.four
  obtain ⟨yn0, yn1, yn2, yn3⟩ := Bn14.out.four
  go_wp2_with fail
  refine (aMay _).mono ?_
  rintro e w15 ⟨rfl, hb⟩
  have Bd15 := Blk.on Bd14 hb
  have Bu15 := Blk.on Bu14 hb
  have Bv15 := Blk.on Bv14 hb
  have Bx15 := Blk.on Bx14 hb
  have By15 := Blk.on By14 hb
  have Bz15 := Blk.on Bz14 hb
  have Bn15 := Blk.on Bn14 hb
  have HB15 := hide (HB14.out.trans (hb.mono HB14.out.size))
  clear hb Bd14 Bu14 Bv14 Bx14 By14 Bz14 Bn14 HB14 yd0 yd1 yd2 yd3 yu0 yu1 yu2 yu3 yv0 yv1 yv2 yv3 yx0 yx1 yx2 yx3 yy0 yy1 yy2 yy3 yz0 yz1 yz2 yz3 yn0 yn1 yn2 yn3
  obtain ⟨yd0, yd1, yd2, yd3⟩ := Bd15.out.four
  obtain ⟨yu0, yu1, yu2, yu3⟩ := Bu15.out.four
  obtain ⟨yv0, yv1, yv2, yv3⟩ := Bv15.out.four
  obtain ⟨yx0, yx1, yx2, yx3⟩ := Bx15.out.four
  obtain ⟨yy0, yy1, yy2, yy3⟩ := By15.out.four
  obtain ⟨yz0, yz1, yz2, yz3⟩ := Bz15.out.four
  obtain ⟨yn0, yn1, yn2, yn3⟩ := Bn15.out.four
  go_wp2_with fail
  refine (aPlace _).mono ?_
  rintro e w16 ⟨rfl, hb⟩
  have Bd16 := Blk.on Bd15 hb
  have Bu16 := Blk.on Bu15 hb
  have Bv16 := Blk.on Bv15 hb
  have Bx16 := Blk.on Bx15 hb
  have By16 := Blk.on By15 hb
  have Bz16 := Blk.on Bz15 hb
  have Bn16 := Blk.on Bn15 hb
  have HB16 := hide (HB15.out.trans (hb.mono HB15.out.size))
  clear hb Bd15 Bu15 Bv15 Bx15 By15 Bz15 Bn15 HB15 yd0 yd1 yd2 yd3 yu0 yu1 yu2 yu3 yv0 yv1 yv2 yv3 yx0 yx1 yx2 yx3 yy0 yy1 yy2 yy3 yz0 yz1 yz2 yz3 yn0 yn1 yn2 yn3
  obtain ⟨yd0, yd1, yd2, yd3⟩ := Bd16.out.four
  obtain ⟨yu0, yu1, yu2, yu3⟩ := Bu16.out.four
  obtain ⟨yv0, yv1, yv2, yv3⟩ := Bv16.out.four
  obtain ⟨yx0, yx1, yx2, yx3⟩ := Bx16.out.four
  obtain ⟨yy0, yy1, yy2, yy3⟩ := By16.out.four
  obtain ⟨yz0, yz1, yz2, yz3⟩ := Bz16.out.four
  obtain ⟨yn0, yn1, yn2, yn3⟩ := Bn16.out.four
  go_wp2
  go_ret
  exact ⟨rfl, HB16.out⟩

end Go.Proofs.YtafljhfamjabeaaGreatDoor
