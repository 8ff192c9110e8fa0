/-
  The walk of RoundNear, part 1.
  The walk of RoundNear, part 2.
  The walk of RoundNear, part 3.
  The walk of RoundNear, part 4.
  RoundNear: what a number is rounded to lies less than a unit away, on the side that the mode says.
-/
import Derived.Test.YtcclbcnmkaobpaaGreatDoorZB25
import Derived.Test.YtcclbcnmkaobpaaGreatDoorZB11
import Derived.Test.YtcclbcnmkaobpaaGreatDoorZB20
namespace Go.Proofs.YtcclbcnmkaobpaaGreatDoor
open Go.RowKit

set_option maxRecDepth 100000 in
set_option maxHeartbeats 4000000 in
theorem near_e (ca : Int) (na : Bool) (ta : ByteArray) (ea : Int) (cb : Int) (nb : Bool) (tb : ByteArray) (eb : Int) (m : Int) (w : World) (htab : Tab w) (re : Int) (he : ¬ re = 0) (g0 : ∀ W, Tab W → Calls Tryz.prog 16 #[.agg #[.int .i64 ca, .bool na, .string ta, .int .i64 ea], dcV cb nb tb eb, .int .i64 m] W fun e w' => e = .returned (.tuple #[.agg #[.int .i64 0, .bool false, .string ⟨#[]⟩, .int .i64 0], .int .i64 re]) ∧ Below W.heap.size W w') : Calls Tryz.prog 6 #[.agg #[.int .i64 ca, .bool na, .string ta, .int .i64 ea], dcV cb nb tb eb, .int .i64 m] w fun e w' => e = .returned (.bool true) ∧ Below w.heap.size w w' := by
  have H0 := hide g0
  have q0 : (re != 0) = true := by simpa using he
  clear he
  have HT := hide htab
  clear htab g0
  have Ba0 := hide ((Blk.newAt w (w.heap.size) (rfl) #[.int .i64 ca, .bool na, .string ta, .int .i64 ea] 23).alloc (.cells #[.int .i64 cb, .bool nb, .string tb, .int .i64 eb] 23))
  have Bb0 := hide (Blk.newAt (w.alloc (.cells #[.int .i64 ca, .bool na, .string ta, .int .i64 ea] 23)) (w.heap.size + 1) (by simp) #[.int .i64 cb, .bool nb, .string tb, .int .i64 eb] 23)
  have HB0 : Hid (Below w.heap.size w ((w.alloc (.cells #[.int .i64 ca, .bool na, .string ta, .int .i64 ea] 23)).alloc (.cells #[.int .i64 cb, .bool nb, .string tb, .int .i64 eb] 23))) := (((Below.refl _ _).alloc (Nat.le_refl _) _).alloc (by simp <;> omega) _)
  go_enter Tryz.func6, Tryz.ntmps6
  go_wp2_with fail
  refine (H0.out _ (HT.out.below HB0.out)).mono ?_
  rintro e w1 ⟨rfl, hb⟩
  have Ba1 := Blk.on Ba0 hb
  have Bb1 := Blk.on Bb0 hb
  have HB1 := hide (HB0.out.trans (hb.mono HB0.out.size))
  clear hb Ba0 Bb0 HB0 
  obtain ⟨ya0, ya1, ya2, ya3⟩ := Ba1.out.four
  obtain ⟨yb0, yb1, yb2, yb3⟩ := Bb1.out.four
  have Ba2 := Blk.up Ba1 (.cells #[.int .i64 0, .bool false, .string ⟨#[]⟩, .int .i64 0] 23)
  have Bb2 := Blk.up Bb1 (.cells #[.int .i64 0, .bool false, .string ⟨#[]⟩, .int .i64 0] 23)
  have Bx2 := hide ((Blk.newAt w1 (w1.heap.size) (rfl) #[.int .i64 0, .bool false, .string ⟨#[]⟩, .int .i64 0] 23))
  have HB2 : Hid (Below w.heap.size w (w1.alloc (.cells #[.int .i64 0, .bool false, .string ⟨#[]⟩, .int .i64 0] 23))) := (HB1.out.alloc HB1.out.size _)
  clear Ba1 Bb1 HB1 ya0 ya1 ya2 ya3 yb0 yb1 yb2 yb3
  obtain ⟨ya0, ya1, ya2, ya3⟩ := Ba2.out.four
  obtain ⟨yb0, yb1, yb2, yb3⟩ := Bb2.out.four
  obtain ⟨yx0, yx1, yx2, yx3⟩ := Bx2.out.four
  go_wp2_with fail
  refine (rawake_any _ (HT.out.below HB2.out)).mono ?_
  rintro e w3 ⟨rfl, hb⟩
  have Ba3 := Blk.on Ba2 hb
  have Bb3 := Blk.on Bb2 hb
  have Bx3 := Blk.on Bx2 hb
  have HB3 := hide (HB2.out.trans (hb.mono HB2.out.size))
  clear hb Ba2 Bb2 Bx2 HB2 ya0 ya1 ya2 ya3 yb0 yb1 yb2 yb3 yx0 yx1 yx2 yx3
  obtain ⟨ya0, ya1, ya2, ya3⟩ := Ba3.out.four
  obtain ⟨yb0, yb1, yb2, yb3⟩ := Bb3.out.four
  obtain ⟨yx0, yx1, yx2, yx3⟩ := Bx3.out.four
  go_wp2
  go_ret
  exact ⟨rfl, HB3.out⟩


set_option maxRecDepth 100000 in
set_option maxHeartbeats 4000000 in
theorem near_c (ca : Int) (na : Bool) (ta : ByteArray) (ea : Int) (cb : Int) (nb : Bool) (tb : ByteArray) (eb : Int) (m : Int) (w : World) (htab : Tab w) (hc : ¬ ca = 0) (g0 : ∀ W, Tab W → Calls Tryz.prog 16 #[.agg #[.int .i64 ca, .bool na, .string ta, .int .i64 ea], dcV cb nb tb eb, .int .i64 m] W fun e w' => e = .returned (.tuple #[.agg #[.int .i64 ca, .bool na, .string ta, .int .i64 ea], .int .i64 0]) ∧ Below W.heap.size W w') : Calls Tryz.prog 6 #[.agg #[.int .i64 ca, .bool na, .string ta, .int .i64 ea], dcV cb nb tb eb, .int .i64 m] w fun e w' => e = .returned (.bool true) ∧ Below w.heap.size w w' := by
  have H0 := hide g0
  have q0 : (ca != 0) = true := by simpa using hc
  clear hc
  have HT := hide htab
  clear htab g0
  have Ba0 := hide ((Blk.newAt w (w.heap.size) (rfl) #[.int .i64 ca, .bool na, .string ta, .int .i64 ea] 23).alloc (.cells #[.int .i64 cb, .bool nb, .string tb, .int .i64 eb] 23))
  have Bb0 := hide (Blk.newAt (w.alloc (.cells #[.int .i64 ca, .bool na, .string ta, .int .i64 ea] 23)) (w.heap.size + 1) (by simp) #[.int .i64 cb, .bool nb, .string tb, .int .i64 eb] 23)
  have HB0 : Hid (Below w.heap.size w ((w.alloc (.cells #[.int .i64 ca, .bool na, .string ta, .int .i64 ea] 23)).alloc (.cells #[.int .i64 cb, .bool nb, .string tb, .int .i64 eb] 23))) := (((Below.refl _ _).alloc (Nat.le_refl _) _).alloc (by simp <;> omega) _)
  go_enter Tryz.func6, Tryz.ntmps6
  go_wp2_with fail
  refine (H0.out _ (HT.out.below HB0.out)).mono ?_
  rintro e w1 ⟨rfl, hb⟩
  have Ba1 := Blk.on Ba0 hb
  have Bb1 := Blk.on Bb0 hb
  have HB1 := hide (HB0.out.trans (hb.mono HB0.out.size))
  clear hb Ba0 Bb0 HB0 
  obtain ⟨ya0, ya1, ya2, ya3⟩ := Ba1.out.four
  obtain ⟨yb0, yb1, yb2, yb3⟩ := Bb1.out.four
  have Ba2 := Blk.up Ba1 (.cells #[.int .i64 ca, .bool na, .string ta, .int .i64 ea] 23)
  have Bb2 := Blk.up Bb1 (.cells #[.int .i64 ca, .bool na, .string ta, .int .i64 ea] 23)
  have Bx2 := hide ((Blk.newAt w1 (w1.heap.size) (rfl) #[.int .i64 ca, .bool na, .string ta, .int .i64 ea] 23))
  have HB2 : Hid (Below w.heap.size w (w1.alloc (.cells #[.int .i64 ca, .bool na, .string ta, .int .i64 ea] 23))) := (HB1.out.alloc HB1.out.size _)
  clear Ba1 Bb1 HB1 ya0 ya1 ya2 ya3 yb0 yb1 yb2 yb3
  obtain ⟨ya0, ya1, ya2, ya3⟩ := Ba2.out.four
  obtain ⟨yb0, yb1, yb2, yb3⟩ := Bb2.out.four
  obtain ⟨yx0, yx1, yx2, yx3⟩ := Bx2.out.four
  go_wp2_with fail
  refine (rawake_any _ (HT.out.below HB2.out)).mono ?_
  rintro e w3 ⟨rfl, hb⟩
  have Ba3 := Blk.on Ba2 hb
  have Bb3 := Blk.on Bb2 hb
  have Bx3 := Blk.on Bx2 hb
  have HB3 := hide (HB2.out.trans (hb.mono HB2.out.size))
  clear hb Ba2 Bb2 Bx2 HB2 ya0 ya1 ya2 ya3 yb0 yb1 yb2 yb3 yx0 yx1 yx2 yx3
  obtain ⟨ya0, ya1, ya2, ya3⟩ := Ba3.out.four
  obtain ⟨yb0, yb1, yb2, yb3⟩ := Bb3.out.four
  obtain ⟨yx0, yx1, yx2, yx3⟩ := Bx3.out.four
  go_wp2
  go_ret
  exact ⟨rfl, HB3.out⟩


set_option maxRecDepth 100000 in
set_option maxHeartbeats 4000000 in
theorem near_n (na : Bool) (ta : ByteArray) (ea : Int) (cb : Int) (nb : Bool) (tb : ByteArray) (eb : Int) (tx : ByteArray) (ex : Int) (m : Int) (w : World) (htab : Tab w) (cg : Int) (ng : Bool) (tg : ByteArray) (eg : Int) (g0 : ∀ W, Tab W → Calls Tryz.prog 16 #[.agg #[.int .i64 0, .bool na, .string ta, .int .i64 ea], dcV cb nb tb eb, .int .i64 m] W fun e w' => e = .returned (.tuple #[.agg #[.int .i64 0, .bool na, .string tx, .int .i64 ex], .int .i64 0]) ∧ Below W.heap.size W w') (g1 : ∀ W, Tab W → Calls Tryz.prog 16 #[.agg #[.int .i64 0, .bool na, .string tx, .int .i64 ex], dcV cb nb tb eb, .int .i64 m] W fun e w' => e = .returned (.tuple #[.agg #[.int .i64 0, .bool na, .string tx, .int .i64 ex], .int .i64 0]) ∧ Below W.heap.size W w') (g2 : ∀ W, Tab W → Calls Tryz.prog 18 #[.agg #[.int .i64 0, .bool na, .string tx, .int .i64 ex], .agg #[.int .i64 0, .bool na, .string ta, .int .i64 ea]] W fun e w' => e = .returned (.tuple #[.agg #[.int .i64 cg, .bool ng, .string tg, .int .i64 eg], .bool false]) ∧ Below W.heap.size W w') : Calls Tryz.prog 6 #[.agg #[.int .i64 0, .bool na, .string ta, .int .i64 ea], dcV cb nb tb eb, .int .i64 m] w fun e w' => e = .returned (.bool true) ∧ Below w.heap.size w w' := by
  have H0 := hide g0
  have H1 := hide g1
  have H2 := hide g2
  have HT := hide htab
  clear htab g0 g1 g2
  have Ba0 := hide ((Blk.newAt w (w.heap.size) (rfl) #[.int .i64 0, .bool na, .string ta, .int .i64 ea] 23).alloc (.cells #[.int .i64 cb, .bool nb, .string tb, .int .i64 eb] 23))
  have Bb0 := hide (Blk.newAt (w.alloc (.cells #[.int .i64 0, .bool na, .string ta, .int .i64 ea] 23)) (w.heap.size + 1) (by simp) #[.int .i64 cb, .bool nb, .string tb, .int .i64 eb] 23)
  have HB0 : Hid (Below w.heap.size w ((w.alloc (.cells #[.int .i64 0, .bool na, .string ta, .int .i64 ea] 23)).alloc (.cells #[.int .i64 cb, .bool nb, .string tb, .int .i64 eb] 23))) := (((Below.refl _ _).alloc (Nat.le_refl _) _).alloc (by simp <;> omega) _)
  go_enter Tryz.func6, Tryz.ntmps6
  go_wp2_with fail
  refine (H0.out _ (HT.out.below HB0.out)).mono ?_
  rintro e w1 ⟨rfl, hb⟩
  have Ba1 := Blk.on Ba0 hb
  have Bb1 := Blk.on Bb0 hb
  have HB1 := hide (HB0.out.trans (hb.mono HB0.out.size))
  clear hb Ba0 Bb0 HB0 
  obtain ⟨ya0, ya1, ya2, ya3⟩ := Ba1.out.four
  obtain ⟨yb0, yb1, yb2, yb3⟩ := Bb1.out.four
  have Ba2 := Blk.up Ba1 (.cells #[.int .i64 0, .bool na, .string tx, .int .i64 ex] 23)
  have Bb2 := Blk.up Bb1 (.cells #[.int .i64 0, .bool na, .string tx, .int .i64 ex] 23)
  have Bx2 := hide ((Blk.newAt w1 (w1.heap.size) (rfl) #[.int .i64 0, .bool na, .string tx, .int .i64 ex] 23))
  have HB2 : Hid (Below w.heap.size w (w1.alloc (.cells #[.int .i64 0, .bool na, .string tx, .int .i64 ex] 23))) := (HB1.out.alloc HB1.out.size _)
  clear Ba1 Bb1 HB1 ya0 ya1 ya2 ya3 yb0 yb1 yb2 yb3
  obtain ⟨ya0, ya1, ya2, ya3⟩ := Ba2.out.four
  obtain ⟨yb0, yb1, yb2, yb3⟩ := Bb2.out.four
  obtain ⟨yx0, yx1, yx2, yx3⟩ := Bx2.out.four
  go_wp2_with fail
  refine (rawake_any _ (HT.out.below HB2.out)).mono ?_
  rintro e w3 ⟨rfl, hb⟩
  have Ba3 := Blk.on Ba2 hb
  have Bb3 := Blk.on Bb2 hb
  have Bx3 := Blk.on Bx2 hb
  have HB3 := hide (HB2.out.trans (hb.mono HB2.out.size))
  clear hb Ba2 Bb2 Bx2 HB2 ya0 ya1 ya2 ya3 yb0 yb1 yb2 yb3 yx0 yx1 yx2 yx3
  obtain ⟨ya0, ya1, ya2, ya3⟩ := Ba3.out.four
  obtain ⟨yb0, yb1, yb2, yb3⟩ := Bb3.out.four
  obtain ⟨yx0, yx1, yx2, yx3⟩ := Bx3.out.four
  go_wp2_with fail
  refine (H1.out _ (HT.out.below HB3.out)).mono ?_
  rintro e w4 ⟨rfl, hb⟩
  have Ba4 := Blk.on Ba3 hb
  have Bb4 := Blk.on Bb3 hb
  have Bx4 := Blk.on Bx3 hb
  have HB4 := hide (HB3.out.trans (hb.mono HB3.out.size))
  clear hb Ba3 Bb3 Bx3 HB3 ya0 ya1 ya2 ya3 yb0 yb1 yb2 yb3 yx0 yx1 yx2 yx3
  obtain ⟨ya0, ya1, ya2, ya3⟩ := Ba4.out.four
  obtain ⟨yb0, yb1, yb2, yb3⟩ := Bb4.out.four
  obtain ⟨yx0, yx1, yx2, yx3⟩ := Bx4.out.four
  have Ba5 := Blk.up Ba4 (.cells #[.int .i64 0, .bool na, .string tx, .int .i64 ex] 23)
  have Bb5 := Blk.up Bb4 (.cells #[.int .i64 0, .bool na, .string tx, .int .i64 ex] 23)
  have Bx5 := Blk.up Bx4 (.cells #[.int .i64 0, .bool na, .string tx, .int .i64 ex] 23)
  have By5 := hide ((Blk.newAt w4 (w4.heap.size) (rfl) #[.int .i64 0, .bool na, .string tx, .int .i64 ex] 23))
  have HB5 : Hid (Below w.heap.size w (w4.alloc (.cells #[.int .i64 0, .bool na, .string tx, .int .i64 ex] 23))) := (HB4.out.alloc HB4.out.size _)
  clear Ba4 Bb4 Bx4 HB4 ya0 ya1 ya2 ya3 yb0 yb1 yb2 yb3 yx0 yx1 yx2 yx3
  obtain ⟨ya0, ya1, ya2, ya3⟩ := Ba5.out.four
  obtain ⟨yb0, yb1, yb2, yb3⟩ := Bb5.out.four
  obtain ⟨yx0, yx1, yx2, yx3⟩ := Bx5.out.four
  obtain ⟨yy0, yy1, yy2, yy3⟩ := By5.out.four
  go_wp2_with fail
  refine (H2.out _ (HT.out.below HB5.out)).mono ?_
  rintro e w6 ⟨rfl, hb⟩
  have Ba6 := Blk.on Ba5 hb
  have Bb6 := Blk.on Bb5 hb
  have Bx6 := Blk.on Bx5 hb
  have By6 := Blk.on By5 hb
  have HB6 := hide (HB5.out.trans (hb.mono HB5.out.size))
  clear hb Ba5 Bb5 Bx5 By5 HB5 ya0 ya1 ya2 ya3 yb0 yb1 yb2 yb3 yx0 yx1 yx2 yx3 yy0 yy1 yy2 yy3
  obtain ⟨ya0, ya1, ya2, ya3⟩ := Ba6.out.four
  obtain ⟨yb0, yb1, yb2, yb3⟩ := Bb6.out.four
  obtain ⟨yx0, yx1, yx2, yx3⟩ := Bx6.out.four
  obtain ⟨yy0, yy1, yy2, yy3⟩ := By6.out.four
  have Ba7 := Blk.up Ba6 (.cells #[.int .i64 cg, .bool ng, .string tg, .int .i64 eg] 23)
  have Bb7 := Blk.up Bb6 (.cells #[.int .i64 cg, .bool ng, .string tg, .int .i64 eg] 23)
  have Bx7 := Blk.up Bx6 (.cells #[.int .i64 cg, .bool ng, .string tg, .int .i64 eg] 23)
  have By7 := Blk.up By6 (.cells #[.int .i64 cg, .bool ng, .string tg, .int .i64 eg] 23)
  have Bg7 := hide ((Blk.newAt w6 (w6.heap.size) (rfl) #[.int .i64 cg, .bool ng, .string tg, .int .i64 eg] 23))
  have HB7 : Hid (Below w.heap.size w (w6.alloc (.cells #[.int .i64 cg, .bool ng, .string tg, .int .i64 eg] 23))) := (HB6.out.alloc HB6.out.size _)
  clear Ba6 Bb6 Bx6 By6 HB6 ya0 ya1 ya2 ya3 yb0 yb1 yb2 yb3 yx0 yx1 yx2 yx3 yy0 yy1 yy2 yy3
  obtain ⟨ya0, ya1, ya2, ya3⟩ := Ba7.out.four
  obtain ⟨yb0, yb1, yb2, yb3⟩ := Bb7.out.four
  obtain ⟨yx0, yx1, yx2, yx3⟩ := Bx7.out.four
  obtain ⟨yy0, yy1, yy2, yy3⟩ := By7.out.four
  obtain ⟨yg0, yg1, yg2, yg3⟩ := Bg7.out.four
  go_wp2
  go_ret
  exact ⟨rfl, HB7.out⟩


set_option maxRecDepth 100000 in
set_option maxHeartbeats 4000000 in
theorem near_0z (na : Bool) (ta : ByteArray) (ea : Int) (cb : Int) (nb : Bool) (tb : ByteArray) (eb : Int) (tx : ByteArray) (ex : Int) (w : World) (htab : Tab w) (cg : Int) (ng : Bool) (tg : ByteArray) (eg : Int) (ct : Int) (nt : Bool) (tt : ByteArray) (et : Int) (bh : Bool) (g0 : ∀ W, Tab W → Calls Tryz.prog 16 #[.agg #[.int .i64 0, .bool na, .string ta, .int .i64 ea], dcV cb nb tb eb, .int .i64 0] W fun e w' => e = .returned (.tuple #[.agg #[.int .i64 0, .bool na, .string tx, .int .i64 ex], .int .i64 0]) ∧ Below W.heap.size W w') (g1 : ∀ W, Tab W → Calls Tryz.prog 16 #[.agg #[.int .i64 0, .bool na, .string tx, .int .i64 ex], dcV cb nb tb eb, .int .i64 0] W fun e w' => e = .returned (.tuple #[.agg #[.int .i64 0, .bool na, .string tx, .int .i64 ex], .int .i64 0]) ∧ Below W.heap.size W w') (g2 : ∀ W, Tab W → Calls Tryz.prog 18 #[.agg #[.int .i64 0, .bool na, .string tx, .int .i64 ex], .agg #[.int .i64 0, .bool na, .string ta, .int .i64 ea]] W fun e w' => e = .returned (.tuple #[.agg #[.int .i64 cg, .bool ng, .string tg, .int .i64 eg], .bool true]) ∧ Below W.heap.size W w') (g3 : ∀ W, Tab W → Calls Tryz.prog 19 #[.agg #[.int .i64 cg, .bool ng, .string tg, .int .i64 eg], .agg #[.int .i64 cg, .bool ng, .string tg, .int .i64 eg]] W fun e w' => e = .returned (.tuple #[.agg #[.int .i64 ct, .bool nt, .string tt, .int .i64 et], .int .i64 0]) ∧ Below W.heap.size W w') (g4 : ∀ W, Calls Tryz.prog 20 #[.agg #[.int .i64 cg, .bool ng, .string tg, .int .i64 eg], dcV cb nb tb eb] W fun e w' => e = .returned (.bool true) ∧ Below W.heap.size W w') (g5 : ∀ W, Calls Tryz.prog 20 #[.agg #[.int .i64 0, .bool na, .string tx, .int .i64 ex], .agg #[.int .i64 0, .bool na, .string ta, .int .i64 ea]] W fun e w' => e = .returned (.bool false) ∧ Below W.heap.size W w') (g6 : ∀ W, Calls Tryz.prog 20 #[.agg #[.int .i64 0, .bool na, .string ta, .int .i64 ea], .agg #[.int .i64 0, .bool na, .string tx, .int .i64 ex]] W fun e w' => e = .returned (.bool bh) ∧ Below W.heap.size W w') : Calls Tryz.prog 6 #[.agg #[.int .i64 0, .bool na, .string ta, .int .i64 ea], dcV cb nb tb eb, .int .i64 0] w fun e w' => e = .returned (.bool true) ∧ Below w.heap.size w w' := by
  have H0 := hide g0
  have H1 := hide g1
  have H2 := hide g2
  have H3 := hide g3
  have H4 := hide g4
  have H5 := hide g5
  have H6 := hide g6
  have HT := hide htab
  clear htab g0 g1 g2 g3 g4 g5 g6
  have Ba0 := hide ((Blk.newAt w (w.heap.size) (rfl) #[.int .i64 0, .bool na, .string ta, .int .i64 ea] 23).alloc (.cells #[.int .i64 cb, .bool nb, .string tb, .int .i64 eb] 23))
  have Bb0 := hide (Blk.newAt (w.alloc (.cells #[.int .i64 0, .bool na, .string ta, .int .i64 ea] 23)) (w.heap.size + 1) (by simp) #[.int .i64 cb, .bool nb, .string tb, .int .i64 eb] 23)
  have HB0 : Hid (Below w.heap.size w ((w.alloc (.cells #[.int .i64 0, .bool na, .string ta, .int .i64 ea] 23)).alloc (.cells #[.int .i64 cb, .bool nb, .string tb, .int .i64 eb] 23))) := (((Below.refl _ _).alloc (Nat.le_refl _) _).alloc (by simp <;> omega) _)
  go_enter Tryz.func6, Tryz.ntmps6
  go_wp2_with fail
  refine (H0.out _ (HT.out.below HB0.out)).mono ?_
  rintro e w1 ⟨rfl, hb⟩
  have Ba1 := Blk.on Ba0 hb
  have Bb1 := Blk.on Bb0 hb
  have HB1 := hide (HB0.out.trans (hb.mono HB0.out.size))
  clear hb Ba0 Bb0 HB0 
  obtain ⟨ya0, ya1, ya2, ya3⟩ := Ba1.out.four
  obtain ⟨yb0, yb1, yb2, yb3⟩ := Bb1.out.four
  have Ba2 := Blk.up Ba1 (.cells #[.int .i64 0, .bool na, .string tx, .int .i64 ex] 23)
  have Bb2 := Blk.up Bb1 (.cells #[.int .i64 0, .bool na, .string tx, .int .i64 ex] 23)
  have Bx2 := hide ((Blk.newAt w1 (w1.heap.size) (rfl) #[.int .i64 0, .bool na, .string tx, .int .i64 ex] 23))
  have HB2 : Hid (Below w.heap.size w (w1.alloc (.cells #[.int .i64 0, .bool na, .string tx, .int .i64 ex] 23))) := (HB1.out.alloc HB1.out.size _)
  clear Ba1 Bb1 HB1 ya0 ya1 ya2 ya3 yb0 yb1 yb2 yb3
  obtain ⟨ya0, ya1, ya2, ya3⟩ := Ba2.out.four
  obtain ⟨yb0, yb1, yb2, yb3⟩ := Bb2.out.four
  obtain ⟨yx0, yx1, yx2, yx3⟩ := Bx2.out.four
  go_wp2_with fail
  refine (rawake_any _ (HT.out.below HB2.out)).mono ?_
  rintro e w3 ⟨rfl, hb⟩
  have Ba3 := Blk.on Ba2 hb
  have Bb3 := Blk.on Bb2 hb
  have Bx3 := Blk.on Bx2 hb
  have HB3 := hide (HB2.out.trans (hb.mono HB2.out.size))
  clear hb Ba2 Bb2 Bx2 HB2 ya0 ya1 ya2 ya3 yb0 yb1 yb2 yb3 yx0 yx1 yx2 yx3
  obtain ⟨ya0, ya1, ya2, ya3⟩ := Ba3.out.four
  obtain ⟨yb0, yb1, yb2, yb3⟩ := Bb3.out.four
  obtain ⟨yx0, yx1, yx2, yx3⟩ := Bx3.out.four
  go_wp2_with fail
  refine (H1.out _ (HT.out.below HB3.out)).mono ?_
  rintro e w4 ⟨rfl, hb⟩
  have Ba4 := Blk.on Ba3 hb
  have Bb4 := Blk.on Bb3 hb
  have Bx4 := Blk.on Bx3 hb
  have HB4 := hide (HB3.out.trans (hb.mono HB3.out.size))
  clear hb Ba3 Bb3 Bx3 HB3 ya0 ya1 ya2 ya3 yb0 yb1 yb2 yb3 yx0 yx1 yx2 yx3
  obtain ⟨ya0, ya1, ya2, ya3⟩ := Ba4.out.four
  obtain ⟨yb0, yb1, yb2, yb3⟩ := Bb4.out.four
  obtain ⟨yx0, yx1, yx2, yx3⟩ := Bx4.out.four
  have Ba5 := Blk.up Ba4 (.cells #[.int .i64 0, .bool na, .string tx, .int .i64 ex] 23)
  have Bb5 := Blk.up Bb4 (.cells #[.int .i64 0, .bool na, .string tx, .int .i64 ex] 23)
  have Bx5 := Blk.up Bx4 (.cells #[.int .i64 0, .bool na, .string tx, .int .i64 ex] 23)
  have By5 := hide ((Blk.newAt w4 (w4.heap.size) (rfl) #[.int .i64 0, .bool na, .string tx, .int .i64 ex] 23))
  have HB5 : Hid (Below w.heap.size w (w4.alloc (.cells #[.int .i64 0, .bool na, .string tx, .int .i64 ex] 23))) := (HB4.out.alloc HB4.out.size _)
  clear Ba4 Bb4 Bx4 HB4 ya0 ya1 ya2 ya3 yb0 yb1 yb2 yb3 yx0 yx1 yx2 yx3
  obtain ⟨ya0, ya1, ya2, ya3⟩ := Ba5.out.four
  obtain ⟨yb0, yb1, yb2, yb3⟩ := Bb5.out.four
  obtain ⟨yx0, yx1, yx2, yx3⟩ := Bx5.out.four
  obtain ⟨yy0, yy1, yy2, yy3⟩ := By5.out.four
  go_wp2_with fail
  refine (H2.out _ (HT.out.below HB5.out)).mono ?_
  rintro e w6 ⟨rfl, hb⟩
  have Ba6 := Blk.on Ba5 hb
  have Bb6 := Blk.on Bb5 hb
  have Bx6 := Blk.on Bx5 hb
  have By6 := Blk.on By5 hb
  have HB6 := hide (HB5.out.trans (hb.mono HB5.out.size))
  clear hb Ba5 Bb5 Bx5 By5 HB5 ya0 ya1 ya2 ya3 yb0 yb1 yb2 yb3 yx0 yx1 yx2 yx3 yy0 yy1 yy2 yy3
  obtain ⟨ya0, ya1, ya2, ya3⟩ := Ba6.out.four
  obtain ⟨yb0, yb1, yb2, yb3⟩ := Bb6.out.four
  obtain ⟨yx0, yx1, yx2, yx3⟩ := Bx6.out.four
  obtain ⟨yy0, yy1, yy2, yy3⟩ := By6.out.four
  have Ba7 := Blk.up Ba6 (.cells #[.int .i64 cg, .bool ng, .string tg, .int .i64 eg] 23)
  have Bb7 := Blk.up Bb6 (.cells #[.int .i64 cg, .bool ng, .string tg, .int .i64 eg] 23)
  have Bx7 := Blk.up Bx6 (.cells #[.int .i64 cg, .bool ng, .string tg, .int .i64 eg] 23)
  have By7 := Blk.up By6 (.cells #[.int .i64 cg, .bool ng, .string tg, .int .i64 eg] 23)
  have Bg7 := hide ((Blk.newAt w6 (w6.heap.size) (rfl) #[.int .i64 cg, .bool ng, .string tg, .int .i64 eg] 23))
  have HB7 : Hid (Below w.heap.size w (w6.alloc (.cells #[.int .i64 cg, .bool ng, .string tg, .int .i64 eg] 23))) := (HB6.out.alloc HB6.out.size _)
  clear Ba6 Bb6 Bx6 By6 HB6 ya0 ya1 ya2 ya3 yb0 yb1 yb2 yb3 yx0 yx1 yx2 yx3 yy0 yy1 yy2 yy3
  obtain ⟨ya0, ya1, ya2, ya3⟩ := Ba7.out.four
  obtain ⟨yb0, yb1, yb2, yb3⟩ := Bb7.out.four
  obtain ⟨yx0, yx1, yx2, yx3⟩ := Bx7.out.four
  obtain ⟨yy0, yy1, yy2, yy3⟩ := By7.out.four
  obtain ⟨yg0, yg1, yg2, yg3⟩ := Bg7.out.four
  go_wp2_with fail
  refine (H3.out _ (HT.out.below HB7.out)).mono ?_
  rintro e w8 ⟨rfl, hb⟩
  have Ba8 := Blk.on Ba7 hb
  have Bb8 := Blk.on Bb7 hb
  have Bx8 := Blk.on Bx7 hb
  have By8 := Blk.on By7 hb
  have Bg8 := Blk.on Bg7 hb
  have HB8 := hide (HB7.out.trans (hb.mono HB7.out.size))
  clear hb Ba7 Bb7 Bx7 By7 Bg7 HB7 ya0 ya1 ya2 ya3 yb0 yb1 yb2 yb3 yx0 yx1 yx2 yx3 yy0 yy1 yy2 yy3 yg0 yg1 yg2 yg3
  obtain ⟨ya0, ya1, ya2, ya3⟩ := Ba8.out.four
  obtain ⟨yb0, yb1, yb2, yb3⟩ := Bb8.out.four
  obtain ⟨yx0, yx1, yx2, yx3⟩ := Bx8.out.four
  obtain ⟨yy0, yy1, yy2, yy3⟩ := By8.out.four
  obtain ⟨yg0, yg1, yg2, yg3⟩ := Bg8.out.four
  have Ba9 := Blk.up Ba8 (.cells #[.int .i64 ct, .bool nt, .string tt, .int .i64 et] 23)
  have Bb9 := Blk.up Bb8 (.cells #[.int .i64 ct, .bool nt, .string tt, .int .i64 et] 23)
  have Bx9 := Blk.up Bx8 (.cells #[.int .i64 ct, .bool nt, .string tt, .int .i64 et] 23)
  have By9 := Blk.up By8 (.cells #[.int .i64 ct, .bool nt, .string tt, .int .i64 et] 23)
  have Bg9 := Blk.up Bg8 (.cells #[.int .i64 ct, .bool nt, .string tt, .int .i64 et] 23)
  have Bt9 := hide ((Blk.newAt w8 (w8.heap.size) (rfl) #[.int .i64 ct, .bool nt, .string tt, .int .i64 et] 23))
  have HB9 : Hid (Below w.heap.size w (w8.alloc (.cells #[.int .i64 ct, .bool nt, .string tt, .int .i64 et] 23))) := (HB8.out.alloc HB8.out.size _)
  clear Ba8 Bb8 Bx8 By8 Bg8 HB8 ya0 ya1 ya2 ya3 yb0 yb1 yb2 yb3 yx0 yx1 yx2 yx3 yy0 yy1 yy2 yy3 yg0 yg1 yg2 yg3
  obtain ⟨ya0, ya1, ya2, ya3⟩ := Ba9.out.four
  obtain ⟨yb0, yb1, yb2, yb3⟩ := Bb9.out.four
  obtain ⟨yx0, yx1, yx2, yx3⟩ := Bx9.out.four
  obtain ⟨yy0, yy1, yy2, yy3⟩ := By9.out.four
  obtain ⟨yg0, yg1, yg2, yg3⟩ := Bg9.out.four
  obtain ⟨yt0, yt1, yt2, yt3⟩ := Bt9.out.four
  go_wp2_with fail
  refine (H4.out _).mono ?_
  rintro e w10 ⟨rfl, hb⟩
  have Ba10 := Blk.on Ba9 hb
  have Bb10 := Blk.on Bb9 hb
  have Bx10 := Blk.on Bx9 hb
  have By10 := Blk.on By9 hb
  have Bg10 := Blk.on Bg9 hb
  have Bt10 := Blk.on Bt9 hb
  have HB10 := hide (HB9.out.trans (hb.mono HB9.out.size))
  clear hb Ba9 Bb9 Bx9 By9 Bg9 Bt9 HB9 ya0 ya1 ya2 ya3 yb0 yb1 yb2 yb3 yx0 yx1 yx2 yx3 yy0 yy1 yy2 yy3 yg0 yg1 yg2 yg3 yt0 yt1 yt2 yt3
  obtain ⟨ya0, ya1, ya2, ya3⟩ := Ba10.out.four
  obtain ⟨yb0, yb1, yb2, yb3⟩ := Bb10.out.four
  obtain ⟨yx0, yx1, yx2, yx3⟩ := Bx10.out.four
  obtain ⟨yy0, yy1, yy2, yy3⟩ := By10.out.four
  obtain ⟨yg0, yg1, yg2, yg3⟩ := Bg10.out.four
  obtain ⟨yt0, yt1, yt2, yt3⟩ := Bt10.out.four
  have b0 : Hid (Below w10.heap.size w10 w10.drew) := bdrewD w10
  have C0 : Hid (∀ X, Hid (Below w10.heap.size w10 X) → Calls Tryz.prog 20 #[.agg #[.int .i64 0, .bool na, .string tx, .int .i64 ex], .agg #[.int .i64 0, .bool na, .string ta, .int .i64 ea]] X fun e w' => e = .returned (.bool false) ∧ Hid (Below w10.heap.size w10 w') ∧ w'.cell? ⟨w.heap.size, 0, none⟩ = some (.int .i64 0) ∧ w'.cell? ⟨w.heap.size, 1, none⟩ = some (.bool na) ∧ w'.cell? ⟨w.heap.size, 2, none⟩ = some (.string ta) ∧ w'.cell? ⟨w.heap.size, 3, none⟩ = some (.int .i64 ea) ∧ w'.cell? ⟨w1.heap.size, 0, none⟩ = some (.int .i64 0) ∧ w'.cell? ⟨w1.heap.size, 1, none⟩ = some (.bool na) ∧ w'.cell? ⟨w1.heap.size, 2, none⟩ = some (.string tx) ∧ w'.cell? ⟨w1.heap.size, 3, none⟩ = some (.int .i64 ex)) := by
    intro X bX
    refine (H5.out X).mono ?_
    rintro e w' ⟨rfl, hb⟩
    have bb := bX.out.trans (hb.mono bX.out.size)
    have Baq := Ba10.out.below bb Ba10.out.lt
    have Bxq := Bx10.out.below bb Bx10.out.lt
    exact ⟨rfl, bb, Baq.cell 0, Baq.cell 1, Baq.cell 2, Baq.cell 3, Bxq.cell 0, Bxq.cell 1, Bxq.cell 2, Bxq.cell 3⟩
  have C1 : Hid (∀ X, Hid (Below w10.heap.size w10 X) → Calls Tryz.prog 20 #[.agg #[.int .i64 0, .bool na, .string ta, .int .i64 ea], .agg #[.int .i64 0, .bool na, .string tx, .int .i64 ex]] X fun e w' => e = .returned (.bool bh) ∧ Hid (Below w10.heap.size w10 w') ∧ w'.cell? ⟨w.heap.size, 0, none⟩ = some (.int .i64 0) ∧ w'.cell? ⟨w.heap.size, 1, none⟩ = some (.bool na) ∧ w'.cell? ⟨w.heap.size, 2, none⟩ = some (.string ta) ∧ w'.cell? ⟨w.heap.size, 3, none⟩ = some (.int .i64 ea) ∧ w'.cell? ⟨w1.heap.size, 0, none⟩ = some (.int .i64 0) ∧ w'.cell? ⟨w1.heap.size, 1, none⟩ = some (.bool na) ∧ w'.cell? ⟨w1.heap.size, 2, none⟩ = some (.string tx) ∧ w'.cell? ⟨w1.heap.size, 3, none⟩ = some (.int .i64 ex)) := by
    intro X bX
    refine (H6.out X).mono ?_
    rintro e w' ⟨rfl, hb⟩
    have bb := bX.out.trans (hb.mono bX.out.size)
    have Baq := Ba10.out.below bb Ba10.out.lt
    have Bxq := Bx10.out.below bb Bx10.out.lt
    exact ⟨rfl, bb, Baq.cell 0, Baq.cell 1, Baq.cell 2, Baq.cell 3, Bxq.cell 0, Bxq.cell 1, Bxq.cell 2, Bxq.cell 3⟩
  go_wp2_with fail
  have mk0 : True := trivial
  go_region_held3 (fun w' => w'.cell? ⟨w.heap.size, 0, none⟩ = some (.int .i64 0) ∧ w'.cell? ⟨w.heap.size, 1, none⟩ = some (.bool na) ∧ w'.cell? ⟨w.heap.size, 2, none⟩ = some (.string ta) ∧ w'.cell? ⟨w.heap.size, 3, none⟩ = some (.int .i64 ea) ∧ w'.cell? ⟨w1.heap.size, 0, none⟩ = some (.int .i64 0) ∧ w'.cell? ⟨w1.heap.size, 1, none⟩ = some (.bool na) ∧ w'.cell? ⟨w1.heap.size, 2, none⟩ = some (.string tx) ∧ w'.cell? ⟨w1.heap.size, 3, none⟩ = some (.int .i64 ex)) (go_keep) (first
    | (clear mk0; go_at_call 20; refine (C0.out _ b0).mono ?_; rintro e w11 ⟨rfl, b1, q0_0, q0_1, q0_2, q0_3, q0_4, q0_5, q0_6, q0_7⟩; have mk1 : True := trivial)
    | (clear mk1; go_at_call 20; refine (C1.out _ b1).mono ?_; rintro e w12 ⟨rfl, b2, q1_0, q1_1, q1_2, q1_3, q1_4, q1_5, q1_6, q1_7⟩; have mk2 : True := trivial))
  have Ba12 := hide (Ba10.out.below b2.out Ba10.out.lt)
  have Bb12 := hide (Bb10.out.below b2.out Bb10.out.lt)
  have Bx12 := hide (Bx10.out.below b2.out Bx10.out.lt)
  have By12 := hide (By10.out.below b2.out By10.out.lt)
  have Bg12 := hide (Bg10.out.below b2.out Bg10.out.lt)
  have Bt12 := hide (Bt10.out.below b2.out Bt10.out.lt)
  have HB12 := hide (HB10.out.trans (b2.out.mono HB10.out.size))
  clear mk2 b0 b1 b2 C0 C1 q0_0 q0_1 q0_2 q0_3 q0_4 q0_5 q0_6 q0_7 q1_0 q1_1 q1_2 q1_3 q1_4 q1_5 q1_6 q1_7 Ba10 Bb10 Bx10 By10 Bg10 Bt10 HB10 ya0 ya1 ya2 ya3 yb0 yb1 yb2 yb3 yx0 yx1 yx2 yx3 yy0 yy1 yy2 yy3 yg0 yg1 yg2 yg3 yt0 yt1 yt2 yt3
  obtain ⟨ya0, ya1, ya2, ya3⟩ := Ba12.out.four
  obtain ⟨yb0, yb1, yb2, yb3⟩ := Bb12.out.four
  obtain ⟨yx0, yx1, yx2, yx3⟩ := Bx12.out.four
  obtain ⟨yy0, yy1, yy2, yy3⟩ := By12.out.four
  obtain ⟨yg0, yg1, yg2, yg3⟩ := Bg12.out.four
  obtain ⟨yt0, yt1, yt2, yt3⟩ := Bt12.out.four
  go_wp2
  go_ret
  exact ⟨rfl, HB12.out⟩


set_option maxRecDepth 100000 in
set_option maxHeartbeats 4000000 in
theorem near_1z (na : Bool) (ta : ByteArray) (ea : Int) (cb : Int) (nb : Bool) (tb : ByteArray) (eb : Int) (tx : ByteArray) (ex : Int) (w : World) (htab : Tab w) (cg : Int) (ng : Bool) (tg : ByteArray) (eg : Int) (ct : Int) (nt : Bool) (tt : ByteArray) (et : Int) (bl : Bool) (g0 : ∀ W, Tab W → Calls Tryz.prog 16 #[.agg #[.int .i64 0, .bool na, .string ta, .int .i64 ea], dcV cb nb tb eb, .int .i64 1] W fun e w' => e = .returned (.tuple #[.agg #[.int .i64 0, .bool na, .string tx, .int .i64 ex], .int .i64 0]) ∧ Below W.heap.size W w') (g1 : ∀ W, Tab W → Calls Tryz.prog 16 #[.agg #[.int .i64 0, .bool na, .string tx, .int .i64 ex], dcV cb nb tb eb, .int .i64 1] W fun e w' => e = .returned (.tuple #[.agg #[.int .i64 0, .bool na, .string tx, .int .i64 ex], .int .i64 0]) ∧ Below W.heap.size W w') (g2 : ∀ W, Tab W → Calls Tryz.prog 18 #[.agg #[.int .i64 0, .bool na, .string tx, .int .i64 ex], .agg #[.int .i64 0, .bool na, .string ta, .int .i64 ea]] W fun e w' => e = .returned (.tuple #[.agg #[.int .i64 cg, .bool ng, .string tg, .int .i64 eg], .bool true]) ∧ Below W.heap.size W w') (g3 : ∀ W, Tab W → Calls Tryz.prog 19 #[.agg #[.int .i64 cg, .bool ng, .string tg, .int .i64 eg], .agg #[.int .i64 cg, .bool ng, .string tg, .int .i64 eg]] W fun e w' => e = .returned (.tuple #[.agg #[.int .i64 ct, .bool nt, .string tt, .int .i64 et], .int .i64 0]) ∧ Below W.heap.size W w') (g4 : ∀ W, Calls Tryz.prog 20 #[.agg #[.int .i64 cg, .bool ng, .string tg, .int .i64 eg], dcV cb nb tb eb] W fun e w' => e = .returned (.bool true) ∧ Below W.heap.size W w') (g5 : ∀ W, Calls Tryz.prog 20 #[.agg #[.int .i64 0, .bool na, .string tx, .int .i64 ex], .agg #[.int .i64 0, .bool na, .string ta, .int .i64 ea]] W fun e w' => e = .returned (.bool bl) ∧ Below W.heap.size W w') (g6 : ∀ W, Calls Tryz.prog 20 #[.agg #[.int .i64 0, .bool na, .string ta, .int .i64 ea], .agg #[.int .i64 0, .bool na, .string tx, .int .i64 ex]] W fun e w' => e = .returned (.bool false) ∧ Below W.heap.size W w') : Calls Tryz.prog 6 #[.agg #[.int .i64 0, .bool na, .string ta, .int .i64 ea], dcV cb nb tb eb, .int .i64 1] w fun e w' => e = .returned (.bool true) ∧ Below w.heap.size w w' := by
  have H0 := hide g0
  have H1 := hide g1
  have H2 := hide g2
  have H3 := hide g3
  have H4 := hide g4
  have H5 := hide g5
  have H6 := hide g6
  have HT := hide htab
  clear htab g0 g1 g2 g3 g4 g5 g6
  have Ba0 := hide ((Blk.newAt w (w.heap.size) (rfl) #[.int .i64 0, .bool na, .string ta, .int .i64 ea] 23).alloc (.cells #[.int .i64 cb, .bool nb, .string tb, .int .i64 eb] 23))
  have Bb0 := hide (Blk.newAt (w.alloc (.cells #[.int .i64 0, .bool na, .string ta, .int .i64 ea] 23)) (w.heap.size + 1) (by simp) #[.int .i64 cb, .bool nb, .string tb, .int .i64 eb] 23)
  have HB0 : Hid (Below w.heap.size w ((w.alloc (.cells #[.int .i64 0, .bool na, .string ta, .int .i64 ea] 23)).alloc (.cells #[.int .i64 cb, .bool nb, .string tb, .int .i64 eb] 23))) := (((Below.refl _ _).alloc (Nat.le_refl _) _).alloc (by simp <;> omega) _)
  go_enter Tryz.func6, Tryz.ntmps6
  go_wp2_with fail
  refine (H0.out _ (HT.out.below HB0.out)).mono ?_
  rintro e w1 ⟨rfl, hb⟩
  have Ba1 := Blk.on Ba0 hb
  have Bb1 := Blk.on Bb0 hb
  have HB1 := hide (HB0.out.trans (hb.mono HB0.out.size))
  clear hb Ba0 Bb0 HB0 
  obtain ⟨ya0, ya1, ya2, ya3⟩ := Ba1.out.four
  obtain ⟨yb0, yb1, yb2, yb3⟩ := Bb1.out.four
  have Ba2 := Blk.up Ba1 (.cells #[.int .i64 0, .bool na, .string tx, .int .i64 ex] 23)
  have Bb2 := Blk.up Bb1 (.cells #[.int .i64 0, .bool na, .string tx, .int .i64 ex] 23)
  have Bx2 := hide ((Blk.newAt w1 (w1.heap.size) (rfl) #[.int .i64 0, .bool na, .string tx, .int .i64 ex] 23))
  have HB2 : Hid (Below w.heap.size w (w1.alloc (.cells #[.int .i64 0, .bool na, .string tx, .int .i64 ex] 23))) := (HB1.out.alloc HB1.out.size _)
  clear Ba1 Bb1 HB1 ya0 ya1 ya2 ya3 yb0 yb1 yb2 yb3
  obtain ⟨ya0, ya1, ya2, ya3⟩ := Ba2.out.four
  obtain ⟨yb0, yb1, yb2, yb3⟩ := Bb2.out.four
  obtain ⟨yx0, yx1, yx2, yx3⟩ := Bx2.out.four
  go_wp2_with fail
  refine (rawake_any _ (HT.out.below HB2.out)).mono ?_
  rintro e w3 ⟨rfl, hb⟩
  have Ba3 := Blk.on Ba2 hb
  have Bb3 := Blk.on Bb2 hb
  have Bx3 := Blk.on Bx2 hb
  have HB3 := hide (HB2.out.trans (hb.mono HB2.out.size))
  clear hb Ba2 Bb2 Bx2 HB2 ya0 ya1 ya2 ya3 yb0 yb1 yb2 yb3 yx0 yx1 yx2 yx3
  obtain ⟨ya0, ya1, ya2, ya3⟩ := Ba3.out.four
  obtain ⟨yb0, yb1, yb2, yb3⟩ := Bb3.out.four
  obtain ⟨yx0, yx1, yx2, yx3⟩ := Bx3.out.four
  go_wp2_with fail
  refine (H1.out _ (HT.out.below HB3.out)).mono ?_
  rintro e w4 ⟨rfl, hb⟩
  have Ba4 := Blk.on Ba3 hb
  have Bb4 := Blk.on Bb3 hb
  have Bx4 := Blk.on Bx3 hb
  have HB4 := hide (HB3.out.trans (hb.mono HB3.out.size))
  clear hb Ba3 Bb3 Bx3 HB3 ya0 ya1 ya2 ya3 yb0 yb1 yb2 yb3 yx0 yx1 yx2 yx3
  obtain ⟨ya0, ya1, ya2, ya3⟩ := Ba4.out.four
  obtain ⟨yb0, yb1, yb2, yb3⟩ := Bb4.out.four
  obtain ⟨yx0, yx1, yx2, yx3⟩ := Bx4.out.four
  have Ba5 := Blk.up Ba4 (.cells #[.int .i64 0, .bool na, .string tx, .int .i64 ex] 23)
  have Bb5 := Blk.up Bb4 (.cells #[.int .i64 0, .bool na, .string tx, .int .i64 ex] 23)
  have Bx5 := Blk.up Bx4 (.cells #[.int .i64 0, .bool na, .string tx, .int .i64 ex] 23)
  have By5 := hide ((Blk.newAt w4 (w4.heap.size) (rfl) #[.int .i64 0, .bool na, .string tx, .int .i64 ex] 23))
  have HB5 : Hid (Below w.heap.size w (w4.alloc (.cells #[.int .i64 0, .bool na, .string tx, .int .i64 ex] 23))) := (HB4.out.alloc HB4.out.size _)
  clear Ba4 Bb4 Bx4 HB4 ya0 ya1 ya2 ya3 yb0 yb1 yb2 yb3 yx0 yx1 yx2 yx3
  obtain ⟨ya0, ya1, ya2, ya3⟩ := Ba5.out.four
  obtain ⟨yb0, yb1, yb2, yb3⟩ := Bb5.out.four
  obtain ⟨yx0, yx1, yx2, yx3⟩ := Bx5.out.four
  obtain ⟨yy0, yy1, yy2, yy3⟩ := By5.out.four
  go_wp2_with fail
  refine (H2.out _ (HT.out.below HB5.out)).mono ?_
  rintro e w6 ⟨rfl, hb⟩
  have Ba6 := Blk.on Ba5 hb
  have Bb6 := Blk.on Bb5 hb
  have Bx6 := Blk.on Bx5 hb
  have By6 := Blk.on By5 hb
  have HB6 := hide (HB5.out.trans (hb.mono HB5.out.size))
  clear hb Ba5 Bb5 Bx5 By5 HB5 ya0 ya1 ya2 ya3 yb0 yb1 yb2 yb3 yx0 yx1 yx2 yx3 yy0 yy1 yy2 yy3
  obtain ⟨ya0, ya1, ya2, ya3⟩ := Ba6.out.four
  obtain ⟨yb0, yb1, yb2, yb3⟩ := Bb6.out.four
  obtain ⟨yx0, yx1, yx2, yx3⟩ := Bx6.out.four
  obtain ⟨yy0, yy1, yy2, yy3⟩ := By6.out.four
  have Ba7 := Blk.up Ba6 (.cells #[.int .i64 cg, .bool ng, .string tg, .int .i64 eg] 23)
  have Bb7 := Blk.up Bb6 (.cells #[.int .i64 cg, .bool ng, .string tg, .int .i64 eg] 23)
  have Bx7 := Blk.up Bx6 (.cells #[.int .i64 cg, .bool ng, .string tg, .int .i64 eg] 23)
  have By7 := Blk.up By6 (.cells #[.int .i64 cg, .bool ng, .string tg, .int .i64 eg] 23)
  have Bg7 := hide ((Blk.newAt w6 (w6.heap.size) (rfl) #[.int .i64 cg, .bool ng, .string tg, .int .i64 eg] 23))
  have HB7 : Hid (Below w.heap.size w (w6.alloc (.cells #[.int .i64 cg, .bool ng, .string tg, .int .i64 eg] 23))) := (HB6.out.alloc HB6.out.size _)
  clear Ba6 Bb6 Bx6 By6 HB6 ya0 ya1 ya2 ya3 yb0 yb1 yb2 yb3 yx0 yx1 yx2 yx3 yy0 yy1 yy2 yy3
  obtain ⟨ya0, ya1, ya2, ya3⟩ := Ba7.out.four
  obtain ⟨yb0, yb1, yb2, yb3⟩ := Bb7.out.four
  obtain ⟨yx0, yx1, yx2, yx3⟩ := Bx7.out.four
  obtain ⟨yy0, yy1, yy2, yy3⟩ := By7.out.four
  obtain ⟨yg0, yg1, yg2, yg3⟩ := Bg7.out.four
  go_wp2_with fail
  refine (H3.out _ (HT.out.below HB7.out)).mono ?_
  rintro e w8 ⟨rfl, hb⟩
  have Ba8 := Blk.on Ba7 hb
  have Bb8 := Blk.on Bb7 hb
  have Bx8 := Blk.on Bx7 hb
  have By8 := Blk.on By7 hb
  have Bg8 := Blk.on Bg7 hb
  have HB8 := hide (HB7.out.trans (hb.mono HB7.out.size))
  clear hb Ba7 Bb7 Bx7 By7 Bg7 HB7 ya0 ya1 ya2 ya3 yb0 yb1 yb2 yb3 yx0 yx1 yx2 yx3 yy0 yy1 yy2 yy3 yg0 yg1 yg2 yg3
  obtain ⟨ya0, ya1, ya2, ya3⟩ := Ba8.out.four
  obtain ⟨yb0, yb1, yb2, yb3⟩ := Bb8.out.four
  obtain ⟨yx0, yx1, yx2, yx3⟩ := Bx8.out.four
  obtain ⟨yy0, yy1, yy2, yy3⟩ := By8.out.four
  obtain ⟨yg0, yg1, yg2, yg3⟩ := Bg8.out.four
  have Ba9 := Blk.up Ba8 (.cells #[.int .i64 ct, .bool nt, .string tt, .int .i64 et] 23)
  have Bb9 := Blk.up Bb8 (.cells #[.int .i64 ct, .bool nt, .string tt, .int .i64 et] 23)
  have Bx9 := Blk.up Bx8 (.cells #[.int .i64 ct, .bool nt, .string tt, .int .i64 et] 23)
  have By9 := Blk.up By8 (.cells #[.int .i64 ct, .bool nt, .string tt, .int .i64 et] 23)
  have Bg9 := Blk.up Bg8 (.cells #[.int .i64 ct, .bool nt, .string tt, .int .i64 et] 23)
  have Bt9 := hide ((Blk.newAt w8 (w8.heap.size) (rfl) #[.int .i64 ct, .bool nt, .string tt, .int .i64 et] 23))
  have HB9 : Hid (Below w.heap.size w (w8.alloc (.cells #[.int .i64 ct, .bool nt, .string tt, .int .i64 et] 23))) := (HB8.out.alloc HB8.out.size _)
  clear Ba8 Bb8 Bx8 By8 Bg8 HB8 ya0 ya1 ya2 ya3 yb0 yb1 yb2 yb3 yx0 yx1 yx2 yx3 yy0 yy1 yy2 yy3 yg0 yg1 yg2 yg3
  obtain ⟨ya0, ya1, ya2, ya3⟩ := Ba9.out.four
  obtain ⟨yb0, yb1, yb2, yb3⟩ := Bb9.out.four
  obtain ⟨yx0, yx1, yx2, yx3⟩ := Bx9.out.four
  obtain ⟨yy0, yy1, yy2, yy3⟩ := By9.out.four
  obtain ⟨yg0, yg1, yg2, yg3⟩ := Bg9.out.four
  obtain ⟨yt0, yt1, yt2, yt3⟩ := Bt9.out.four
  go_wp2_with fail
  refine (H4.out _).mono ?_
  rintro e w10 ⟨rfl, hb⟩
  have Ba10 := Blk.on Ba9 hb
  have Bb10 := Blk.on Bb9 hb
  have Bx10 := Blk.on Bx9 hb
  have By10 := Blk.on By9 hb
  have Bg10 := Blk.on Bg9 hb
  have Bt10 := Blk.on Bt9 hb
  have HB10 := hide (HB9.out.trans (hb.mono HB9.out.size))
  clear hb Ba9 Bb9 Bx9 By9 Bg9 Bt9 HB9 ya0 ya1 ya2 ya3 yb0 yb1 yb2 yb3 yx0 yx1 yx2 yx3 yy0 yy1 yy2 yy3 yg0 yg1 yg2 yg3 yt0 yt1 yt2 yt3
  obtain ⟨ya0, ya1, ya2, ya3⟩ := Ba10.out.four
  obtain ⟨yb0, yb1, yb2, yb3⟩ := Bb10.out.four
  obtain ⟨yx0, yx1, yx2, yx3⟩ := Bx10.out.four
  obtain ⟨yy0, yy1, yy2, yy3⟩ := By10.out.four
  obtain ⟨yg0, yg1, yg2, yg3⟩ := Bg10.out.four
  obtain ⟨yt0, yt1, yt2, yt3⟩ := Bt10.out.four
  have b0 : Hid (Below w10.heap.size w10 w10.drew) := bdrewD w10
  have C0 : Hid (∀ X, Hid (Below w10.heap.size w10 X) → Calls Tryz.prog 20 #[.agg #[.int .i64 0, .bool na, .string tx, .int .i64 ex], .agg #[.int .i64 0, .bool na, .string ta, .int .i64 ea]] X fun e w' => e = .returned (.bool bl) ∧ Hid (Below w10.heap.size w10 w') ∧ w'.cell? ⟨w.heap.size, 0, none⟩ = some (.int .i64 0) ∧ w'.cell? ⟨w.heap.size, 1, none⟩ = some (.bool na) ∧ w'.cell? ⟨w.heap.size, 2, none⟩ = some (.string ta) ∧ w'.cell? ⟨w.heap.size, 3, none⟩ = some (.int .i64 ea) ∧ w'.cell? ⟨w1.heap.size, 0, none⟩ = some (.int .i64 0) ∧ w'.cell? ⟨w1.heap.size, 1, none⟩ = some (.bool na) ∧ w'.cell? ⟨w1.heap.size, 2, none⟩ = some (.string tx) ∧ w'.cell? ⟨w1.heap.size, 3, none⟩ = some (.int .i64 ex)) := by
    intro X bX
    refine (H5.out X).mono ?_
    rintro e w' ⟨rfl, hb⟩
    have bb := bX.out.trans (hb.mono bX.out.size)
    have Baq := Ba10.out.below bb Ba10.out.lt
    have Bxq := Bx10.out.below bb Bx10.out.lt
    exact ⟨rfl, bb, Baq.cell 0, Baq.cell 1, Baq.cell 2, Baq.cell 3, Bxq.cell 0, Bxq.cell 1, Bxq.cell 2, Bxq.cell 3⟩
  have C1 : Hid (∀ X, Hid (Below w10.heap.size w10 X) → Calls Tryz.prog 20 #[.agg #[.int .i64 0, .bool na, .string ta, .int .i64 ea], .agg #[.int .i64 0, .bool na, .string tx, .int .i64 ex]] X fun e w' => e = .returned (.bool false) ∧ Hid (Below w10.heap.size w10 w') ∧ w'.cell? ⟨w.heap.size, 0, none⟩ = some (.int .i64 0) ∧ w'.cell? ⟨w.heap.size, 1, none⟩ = some (.bool na) ∧ w'.cell? ⟨w.heap.size, 2, none⟩ = some (.string ta) ∧ w'.cell? ⟨w.heap.size, 3, none⟩ = some (.int .i64 ea) ∧ w'.cell? ⟨w1.heap.size, 0, none⟩ = some (.int .i64 0) ∧ w'.cell? ⟨w1.heap.size, 1, none⟩ = some (.bool na) ∧ w'.cell? ⟨w1.heap.size, 2, none⟩ = some (.string tx) ∧ w'.cell? ⟨w1.heap.size, 3, none⟩ = some (.int .i64 ex)) := by
    intro X bX
    refine (H6.out X).mono ?_
    rintro e w' ⟨rfl, hb⟩
    have bb := bX.out.trans (hb.mono bX.out.size)
    have Baq := Ba10.out.below bb Ba10.out.lt
    have Bxq := Bx10.out.below bb Bx10.out.lt
    exact ⟨rfl, bb, Baq.cell 0, Baq.cell 1, Baq.cell 2, Baq.cell 3, Bxq.cell 0, Bxq.cell 1, Bxq.cell 2, Bxq.cell 3⟩
  go_wp2_with fail
  have mk0 : True := trivial
  go_region_held3 (fun w' => w'.cell? ⟨w.heap.size, 0, none⟩ = some (.int .i64 0) ∧ w'.cell? ⟨w.heap.size, 1, none⟩ = some (.bool na) ∧ w'.cell? ⟨w.heap.size, 2, none⟩ = some (.string ta) ∧ w'.cell? ⟨w.heap.size, 3, none⟩ = some (.int .i64 ea) ∧ w'.cell? ⟨w1.heap.size, 0, none⟩ = some (.int .i64 0) ∧ w'.cell? ⟨w1.heap.size, 1, none⟩ = some (.bool na) ∧ w'.cell? ⟨w1.heap.size, 2, none⟩ = some (.string tx) ∧ w'.cell? ⟨w1.heap.size, 3, none⟩ = some (.int .i64 ex)) (go_keep) (first
    | (clear mk0; go_at_call 20; refine (C0.out _ b0).mono ?_; rintro e w11 ⟨rfl, b1, q0_0, q0_1, q0_2, q0_3, q0_4, q0_5, q0_6, q0_7⟩; have mk1 : True := trivial)
    | (clear mk1; go_at_call 20; refine (C1.out _ b1).mono ?_; rintro e w12 ⟨rfl, b2, q1_0, q1_1, q1_2, q1_3, q1_4, q1_5, q1_6, q1_7⟩; have mk2 : True := trivial))
  have Ba12 := hide (Ba10.out.below b2.out Ba10.out.lt)
  have Bb12 := hide (Bb10.out.below b2.out Bb10.out.lt)
  have Bx12 := hide (Bx10.out.below b2.out Bx10.out.lt)
  have By12 := hide (By10.out.below b2.out By10.out.lt)
  have Bg12 := hide (Bg10.out.below b2.out Bg10.out.lt)
  have Bt12 := hide (Bt10.out.below b2.out Bt10.out.lt)
  have HB12 := hide (HB10.out.trans (b2.out.mono HB10.out.size))
  clear mk2 b0 b1 b2 C0 C1 q0_0 q0_1 q0_2 q0_3 q0_4 q0_5 q0_6 q0_7 q1_0 q1_1 q1_2 q1_3 q1_4 q1_5 q1_6 q1_7 Ba10 Bb10 Bx10 By10 Bg10 Bt10 HB10 ya0 ya1 ya2 ya3 yb0 yb1 yb2 yb3 yx0 yx1 yx2 yx3 yy0 yy1 yy2 yy3 yg0 yg1 yg2 yg3 yt0 yt1 yt2 yt3
  obtain ⟨ya0, ya1, ya2, ya3⟩ := Ba12.out.four
  obtain ⟨yb0, yb1, yb2, yb3⟩ := Bb12.out.four
  obtain ⟨yx0, yx1, yx2, yx3⟩ := Bx12.out.four
  obtain ⟨yy0, yy1, yy2, yy3⟩ := By12.out.four
  obtain ⟨yg0, yg1, yg2, yg3⟩ := Bg12.out.four
  obtain ⟨yt0, yt1, yt2, yt3⟩ := Bt12.out.four
  go_wp2
  go_ret
  exact ⟨rfl, HB12.out⟩

end Go.Proofs.YtcclbcnmkaobpaaGreatDoor

namespace Go.Proofs.YtcclbcnmkaobpaaGreatDoor
open Go.RowKit

set_option maxRecDepth 100000 in
set_option maxHeartbeats 4000000 in
theorem near_2tz (ta : ByteArray) (ea : Int) (cb : Int) (nb : Bool) (tb : ByteArray) (eb : Int) (tx : ByteArray) (ex : Int) (w : World) (htab : Tab w) (cg : Int) (ng : Bool) (tg : ByteArray) (eg : Int) (ct : Int) (nt : Bool) (tt : ByteArray) (et : Int) (bh : Bool) (g0 : ∀ W, Tab W → Calls Tryz.prog 16 #[.agg #[.int .i64 0, .bool true, .string ta, .int .i64 ea], dcV cb nb tb eb, .int .i64 2] W fun e w' => e = .returned (.tuple #[.agg #[.int .i64 0, .bool true, .string tx, .int .i64 ex], .int .i64 0]) ∧ Below W.heap.size W w') (g1 : ∀ W, Tab W → Calls Tryz.prog 16 #[.agg #[.int .i64 0, .bool true, .string tx, .int .i64 ex], dcV cb nb tb eb, .int .i64 2] W fun e w' => e = .returned (.tuple #[.agg #[.int .i64 0, .bool true, .string tx, .int .i64 ex], .int .i64 0]) ∧ Below W.heap.size W w') (g2 : ∀ W, Tab W → Calls Tryz.prog 18 #[.agg #[.int .i64 0, .bool true, .string tx, .int .i64 ex], .agg #[.int .i64 0, .bool true, .string ta, .int .i64 ea]] W fun e w' => e = .returned (.tuple #[.agg #[.int .i64 cg, .bool ng, .string tg, .int .i64 eg], .bool true]) ∧ Below W.heap.size W w') (g3 : ∀ W, Tab W → Calls Tryz.prog 19 #[.agg #[.int .i64 cg, .bool ng, .string tg, .int .i64 eg], .agg #[.int .i64 cg, .bool ng, .string tg, .int .i64 eg]] W fun e w' => e = .returned (.tuple #[.agg #[.int .i64 ct, .bool nt, .string tt, .int .i64 et], .int .i64 0]) ∧ Below W.heap.size W w') (g4 : ∀ W, Calls Tryz.prog 20 #[.agg #[.int .i64 cg, .bool ng, .string tg, .int .i64 eg], dcV cb nb tb eb] W fun e w' => e = .returned (.bool true) ∧ Below W.heap.size W w') (g5 : ∀ W, Calls Tryz.prog 20 #[.agg #[.int .i64 0, .bool true, .string tx, .int .i64 ex], .agg #[.int .i64 0, .bool true, .string ta, .int .i64 ea]] W fun e w' => e = .returned (.bool false) ∧ Below W.heap.size W w') (g6 : ∀ W, Calls Tryz.prog 20 #[.agg #[.int .i64 0, .bool true, .string ta, .int .i64 ea], .agg #[.int .i64 0, .bool true, .string tx, .int .i64 ex]] W fun e w' => e = .returned (.bool bh) ∧ Below W.heap.size W w') : Calls Tryz.prog 6 #[.agg #[.int .i64 0, .bool true, .string ta, .int .i64 ea], dcV cb nb tb eb, .int .i64 2] w fun e w' => e = .returned (.bool true) ∧ Below w.heap.size w w' := by
  have H0 := hide g0
  have H1 := hide g1
  have H2 := hide g2
  have H3 := hide g3
  have H4 := hide g4
  have H5 := hide g5
  have H6 := hide g6
  have HT := hide htab
  clear htab g0 g1 g2 g3 g4 g5 g6
  have Ba0 := hide ((Blk.newAt w (w.heap.size) (rfl) #[.int .i64 0, .bool true, .string ta, .int .i64 ea] 23).alloc (.cells #[.int .i64 cb, .bool nb, .string tb, .int .i64 eb] 23))
  have Bb0 := hide (Blk.newAt (w.alloc (.cells #[.int .i64 0, .bool true, .string ta, .int .i64 ea] 23)) (w.heap.size + 1) (by simp) #[.int .i64 cb, .bool nb, .string tb, .int .i64 eb] 23)
  have HB0 : Hid (Below w.heap.size w ((w.alloc (.cells #[.int .i64 0, .bool true, .string ta, .int .i64 ea] 23)).alloc (.cells #[.int .i64 cb, .bool nb, .string tb, .int .i64 eb] 23))) := (((Below.refl _ _).alloc (Nat.le_refl _) _).alloc (by simp <;> omega) _)
  go_enter Tryz.func6, Tryz.ntmps6
  go_wp2_with fail
  refine (H0.out _ (HT.out.below HB0.out)).mono ?_
  rintro e w1 ⟨rfl, hb⟩
  have Ba1 := Blk.on Ba0 hb
  have Bb1 := Blk.on Bb0 hb
  have HB1 := hide (HB0.out.trans (hb.mono HB0.out.size))
  clear hb Ba0 Bb0 HB0 
  obtain ⟨ya0, ya1, ya2, ya3⟩ := Ba1.out.four
  obtain ⟨yb0, yb1, yb2, yb3⟩ := Bb1.out.four
  have Ba2 := Blk.up Ba1 (.cells #[.int .i64 0, .bool true, .string tx, .int .i64 ex] 23)
  have Bb2 := Blk.up Bb1 (.cells #[.int .i64 0, .bool true, .string tx, .int .i64 ex] 23)
  have Bx2 := hide ((Blk.newAt w1 (w1.heap.size) (rfl) #[.int .i64 0, .bool true, .string tx, .int .i64 ex] 23))
  have HB2 : Hid (Below w.heap.size w (w1.alloc (.cells #[.int .i64 0, .bool true, .string tx, .int .i64 ex] 23))) := (HB1.out.alloc HB1.out.size _)
  clear Ba1 Bb1 HB1 ya0 ya1 ya2 ya3 yb0 yb1 yb2 yb3
  obtain ⟨ya0, ya1, ya2, ya3⟩ := Ba2.out.four
  obtain ⟨yb0, yb1, yb2, yb3⟩ := Bb2.out.four
  obtain ⟨yx0, yx1, yx2, yx3⟩ := Bx2.out.four
  go_wp2_with fail
  refine (rawake_any _ (HT.out.below HB2.out)).mono ?_
  rintro e w3 ⟨rfl, hb⟩
  have Ba3 := Blk.on Ba2 hb
  have Bb3 := Blk.on Bb2 hb
  have Bx3 := Blk.on Bx2 hb
  have HB3 := hide (HB2.out.trans (hb.mono HB2.out.size))
  clear hb Ba2 Bb2 Bx2 HB2 ya0 ya1 ya2 ya3 yb0 yb1 yb2 yb3 yx0 yx1 yx2 yx3
  obtain ⟨ya0, ya1, ya2, ya3⟩ := Ba3.out.four
  obtain ⟨yb0, yb1, yb2, yb3⟩ := Bb3.out.four
  obtain ⟨yx0, yx1, yx2, yx3⟩ := Bx3.out.four
  go_wp2_with fail
  refine (H1.out _ (HT.out.below HB3.out)).mono ?_
  rintro e w4 ⟨rfl, hb⟩
  have Ba4 := Blk.on Ba3 hb
  have Bb4 := Blk.on Bb3 hb
  have Bx4 := Blk.on Bx3 hb
  have HB4 := hide (HB3.out.trans (hb.mono HB3.out.size))
  clear hb Ba3 Bb3 Bx3 HB3 ya0 ya1 ya2 ya3 yb0 yb1 yb2 yb3 yx0 yx1 yx2 yx3
  obtain ⟨ya0, ya1, ya2, ya3⟩ := Ba4.out.four
  obtain ⟨yb0, yb1, yb2, yb3⟩ := Bb4.out.four
  obtain ⟨yx0, yx1, yx2, yx3⟩ := Bx4.out.four
  have Ba5 := Blk.up Ba4 (.cells #[.int .i64 0, .bool true, .string tx, .int .i64 ex] 23)
  have Bb5 := Blk.up Bb4 (.cells #[.int .i64 0, .bool true, .string tx, .int .i64 ex] 23)
  have Bx5 := Blk.up Bx4 (.cells #[.int .i64 0, .bool true, .string tx, .int .i64 ex] 23)
  have By5 := hide ((Blk.newAt w4 (w4.heap.size) (rfl) #[.int .i64 0, .bool true, .string tx, .int .i64 ex] 23))
  have HB5 : Hid (Below w.heap.size w (w4.alloc (.cells #[.int .i64 0, .bool true, .string tx, .int .i64 ex] 23))) := (HB4.out.alloc HB4.out.size _)
  clear Ba4 Bb4 Bx4 HB4 ya0 ya1 ya2 ya3 yb0 yb1 yb2 yb3 yx0 yx1 yx2 yx3
  obtain ⟨ya0, ya1, ya2, ya3⟩ := Ba5.out.four
  obtain ⟨yb0, yb1, yb2, yb3⟩ := Bb5.out.four
  obtain ⟨yx0, yx1, yx2, yx3⟩ := Bx5.out.four
  obtain ⟨yy0, yy1, yy2, yy3⟩ := By5.out.four
  go_wp2_with fail
  refine (H2.out _ (HT.out.below HB5.out)).mono ?_
  rintro e w6 ⟨rfl, hb⟩
  have Ba6 := Blk.on Ba5 hb
  have Bb6 := Blk.on Bb5 hb
  have Bx6 := Blk.on Bx5 hb
  have By6 := Blk.on By5 hb
  have HB6 := hide (HB5.out.trans (hb.mono HB5.out.size))
  clear hb Ba5 Bb5 Bx5 By5 HB5 ya0 ya1 ya2 ya3 yb0 yb1 yb2 yb3 yx0 yx1 yx2 yx3 yy0 yy1 yy2 yy3
  obtain ⟨ya0, ya1, ya2, ya3⟩ := Ba6.out.four
  obtain ⟨yb0, yb1, yb2, yb3⟩ := Bb6.out.four
  obtain ⟨yx0, yx1, yx2, yx3⟩ := Bx6.out.four
  obtain ⟨yy0, yy1, yy2, yy3⟩ := By6.out.four
  have Ba7 := Blk.up Ba6 (.cells #[.int .i64 cg, .bool ng, .string tg, .int .i64 eg] 23)
  have Bb7 := Blk.up Bb6 (.cells #[.int .i64 cg, .bool ng, .string tg, .int .i64 eg] 23)
  have Bx7 := Blk.up Bx6 (.cells #[.int .i64 cg, .bool ng, .string tg, .int .i64 eg] 23)
  have By7 := Blk.up By6 (.cells #[.int .i64 cg, .bool ng, .string tg, .int .i64 eg] 23)
  have Bg7 := hide ((Blk.newAt w6 (w6.heap.size) (rfl) #[.int .i64 cg, .bool ng, .string tg, .int .i64 eg] 23))
  have HB7 : Hid (Below w.heap.size w (w6.alloc (.cells #[.int .i64 cg, .bool ng, .string tg, .int .i64 eg] 23))) := (HB6.out.alloc HB6.out.size _)
  clear Ba6 Bb6 Bx6 By6 HB6 ya0 ya1 ya2 ya3 yb0 yb1 yb2 yb3 yx0 yx1 yx2 yx3 yy0 yy1 yy2 yy3
  obtain ⟨ya0, ya1, ya2, ya3⟩ := Ba7.out.four
  obtain ⟨yb0, yb1, yb2, yb3⟩ := Bb7.out.four
  obtain ⟨yx0, yx1, yx2, yx3⟩ := Bx7.out.four
  obtain ⟨yy0, yy1, yy2, yy3⟩ := By7.out.four
  obtain ⟨yg0, yg1, yg2, yg3⟩ := Bg7.out.four
  go_wp2_with fail
  refine (H3.out _ (HT.out.below HB7.out)).mono ?_
  rintro e w8 ⟨rfl, hb⟩
  have Ba8 := Blk.on Ba7 hb
  have Bb8 := Blk.on Bb7 hb
  have Bx8 := Blk.on Bx7 hb
  have By8 := Blk.on By7 hb
  have Bg8 := Blk.on Bg7 hb
  have HB8 := hide (HB7.out.trans (hb.mono HB7.out.size))
  clear hb Ba7 Bb7 Bx7 By7 Bg7 HB7 ya0 ya1 ya2 ya3 yb0 yb1 yb2 yb3 yx0 yx1 yx2 yx3 yy0 yy1 yy2 yy3 yg0 yg1 yg2 yg3
  obtain ⟨ya0, ya1, ya2, ya3⟩ := Ba8.out.four
  obtain ⟨yb0, yb1, yb2, yb3⟩ := Bb8.out.four
  obtain ⟨yx0, yx1, yx2, yx3⟩ := Bx8.out.four
  obtain ⟨yy0, yy1, yy2, yy3⟩ := By8.out.four
  obtain ⟨yg0, yg1, yg2, yg3⟩ := Bg8.out.four
  have Ba9 := Blk.up Ba8 (.cells #[.int .i64 ct, .bool nt, .string tt, .int .i64 et] 23)
  have Bb9 := Blk.up Bb8 (.cells #[.int .i64 ct, .bool nt, .string tt, .int .i64 et] 23)
  have Bx9 := Blk.up Bx8 (.cells #[.int .i64 ct, .bool nt, .string tt, .int .i64 et] 23)
  have By9 := Blk.up By8 (.cells #[.int .i64 ct, .bool nt, .string tt, .int .i64 et] 23)
  have Bg9 := Blk.up Bg8 (.cells #[.int .i64 ct, .bool nt, .string tt, .int .i64 et] 23)
  have Bt9 := hide ((Blk.newAt w8 (w8.heap.size) (rfl) #[.int .i64 ct, .bool nt, .string tt, .int .i64 et] 23))
  have HB9 : Hid (Below w.heap.size w (w8.alloc (.cells #[.int .i64 ct, .bool nt, .string tt, .int .i64 et] 23))) := (HB8.out.alloc HB8.out.size _)
  clear Ba8 Bb8 Bx8 By8 Bg8 HB8 ya0 ya1 ya2 ya3 yb0 yb1 yb2 yb3 yx0 yx1 yx2 yx3 yy0 yy1 yy2 yy3 yg0 yg1 yg2 yg3
  obtain ⟨ya0, ya1, ya2, ya3⟩ := Ba9.out.four
  obtain ⟨yb0, yb1, yb2, yb3⟩ := Bb9.out.four
  obtain ⟨yx0, yx1, yx2, yx3⟩ := Bx9.out.four
  obtain ⟨yy0, yy1, yy2, yy3⟩ := By9.out.four
  obtain ⟨yg0, yg1, yg2, yg3⟩ := Bg9.out.four
  obtain ⟨yt0, yt1, yt2, yt3⟩ := Bt9.out.four
  go_wp2_with fail
  refine (H4.out _).mono ?_
  rintro e w10 ⟨rfl, hb⟩
  have Ba10 := Blk.on Ba9 hb
  have Bb10 := Blk.on Bb9 hb
  have Bx10 := Blk.on Bx9 hb
  have By10 := Blk.on By9 hb
  have Bg10 := Blk.on Bg9 hb
  have Bt10 := Blk.on Bt9 hb
  have HB10 := hide (HB9.out.trans (hb.mono HB9.out.size))
  clear hb Ba9 Bb9 Bx9 By9 Bg9 Bt9 HB9 ya0 ya1 ya2 ya3 yb0 yb1 yb2 yb3 yx0 yx1 yx2 yx3 yy0 yy1 yy2 yy3 yg0 yg1 yg2 yg3 yt0 yt1 yt2 yt3
  obtain ⟨ya0, ya1, ya2, ya3⟩ := Ba10.out.four
  obtain ⟨yb0, yb1, yb2, yb3⟩ := Bb10.out.four
  obtain ⟨yx0, yx1, yx2, yx3⟩ := Bx10.out.four
  obtain ⟨yy0, yy1, yy2, yy3⟩ := By10.out.four
  obtain ⟨yg0, yg1, yg2, yg3⟩ := Bg10.out.four
  obtain ⟨yt0, yt1, yt2, yt3⟩ := Bt10.out.four
  have b0 : Hid (Below w10.heap.size w10 w10.drew) := bdrewD w10
  have C0 : Hid (∀ X, Hid (Below w10.heap.size w10 X) → Calls Tryz.prog 20 #[.agg #[.int .i64 0, .bool true, .string tx, .int .i64 ex], .agg #[.int .i64 0, .bool true, .string ta, .int .i64 ea]] X fun e w' => e = .returned (.bool false) ∧ Hid (Below w10.heap.size w10 w') ∧ w'.cell? ⟨w.heap.size, 0, none⟩ = some (.int .i64 0) ∧ w'.cell? ⟨w.heap.size, 1, none⟩ = some (.bool true) ∧ w'.cell? ⟨w.heap.size, 2, none⟩ = some (.string ta) ∧ w'.cell? ⟨w.heap.size, 3, none⟩ = some (.int .i64 ea) ∧ w'.cell? ⟨w1.heap.size, 0, none⟩ = some (.int .i64 0) ∧ w'.cell? ⟨w1.heap.size, 1, none⟩ = some (.bool true) ∧ w'.cell? ⟨w1.heap.size, 2, none⟩ = some (.string tx) ∧ w'.cell? ⟨w1.heap.size, 3, none⟩ = some (.int .i64 ex)) := by
    intro X bX
    refine (H5.out X).mono ?_
    rintro e w' ⟨rfl, hb⟩
    have bb := bX.out.trans (hb.mono bX.out.size)
    have Baq := Ba10.out.below bb Ba10.out.lt
    have Bxq := Bx10.out.below bb Bx10.out.lt
    exact ⟨rfl, bb, Baq.cell 0, Baq.cell 1, Baq.cell 2, Baq.cell 3, Bxq.cell 0, Bxq.cell 1, Bxq.cell 2, Bxq.cell 3⟩
  have C1 : Hid (∀ X, Hid (Below w10.heap.size w10 X) → Calls Tryz.prog 20 #[.agg #[.int .i64 0, .bool true, .string ta, .int .i64 ea], .agg #[.int .i64 0, .bool true, .string tx, .int .i64 ex]] X fun e w' => e = .returned (.bool bh) ∧ Hid (Below w10.heap.size w10 w') ∧ w'.cell? ⟨w.heap.size, 0, none⟩ = some (.int .i64 0) ∧ w'.cell? ⟨w.heap.size, 1, none⟩ = some (.bool true) ∧ w'.cell? ⟨w.heap.size, 2, none⟩ = some (.string ta) ∧ w'.cell? ⟨w.heap.size, 3, none⟩ = some (.int .i64 ea) ∧ w'.cell? ⟨w1.heap.size, 0, none⟩ = some (.int .i64 0) ∧ w'.cell? ⟨w1.heap.size, 1, none⟩ = some (.bool true) ∧ w'.cell? ⟨w1.heap.size, 2, none⟩ = some (.string tx) ∧ w'.cell? ⟨w1.heap.size, 3, none⟩ = some (.int .i64 ex)) := by
    intro X bX
    refine (H6.out X).mono ?_
    rintro e w' ⟨rfl, hb⟩
    have bb := bX.out.trans (hb.mono bX.out.size)
    have Baq := Ba10.out.below bb Ba10.out.lt
    have Bxq := Bx10.out.below bb Bx10.out.lt
    exact ⟨rfl, bb, Baq.cell 0, Baq.cell 1, Baq.cell 2, Baq.cell 3, Bxq.cell 0, Bxq.cell 1, Bxq.cell 2, Bxq.cell 3⟩
  go_wp2_with fail
  have mk0 : True := trivial
  go_region_held3 (fun w' => w'.cell? ⟨w.heap.size, 0, none⟩ = some (.int .i64 0) ∧ w'.cell? ⟨w.heap.size, 1, none⟩ = some (.bool true) ∧ w'.cell? ⟨w.heap.size, 2, none⟩ = some (.string ta) ∧ w'.cell? ⟨w.heap.size, 3, none⟩ = some (.int .i64 ea) ∧ w'.cell? ⟨w1.heap.size, 0, none⟩ = some (.int .i64 0) ∧ w'.cell? ⟨w1.heap.size, 1, none⟩ = some (.bool true) ∧ w'.cell? ⟨w1.heap.size, 2, none⟩ = some (.string tx) ∧ w'.cell? ⟨w1.heap.size, 3, none⟩ = some (.int .i64 ex)) (go_keep) (first
    | (clear mk0; go_at_call 20; refine (C0.out _ b0).mono ?_; rintro e w11 ⟨rfl, b1, q0_0, q0_1, q0_2, q0_3, q0_4, q0_5, q0_6, q0_7⟩; have mk1 : True := trivial)
    | (clear mk1; go_at_call 20; refine (C1.out _ b1).mono ?_; rintro e w12 ⟨rfl, b2, q1_0, q1_1, q1_2, q1_3, q1_4, q1_5, q1_6, q1_7⟩; have mk2 : True := trivial))
  have Ba12 := hide (Ba10.out.below b2.out Ba10.out.lt)
  have Bb12 := hide (Bb10.out.below b2.out Bb10.out.lt)
  have Bx12 := hide (Bx10.out.below b2.out Bx10.out.lt)
  have By12 := hide (By10.out.below b2.out By10.out.lt)
  have Bg12 := hide (Bg10.out.below b2.out Bg10.out.lt)
  have Bt12 := hide (Bt10.out.below b2.out Bt10.out.lt)
  have HB12 := hide (HB10.out.trans (b2.out.mono HB10.out.size))
  clear mk2 b0 b1 b2 C0 C1 q0_0 q0_1 q0_2 q0_3 q0_4 q0_5 q0_6 q0_7 q1_0 q1_1 q1_2 q1_3 q1_4 q1_5 q1_6 q1_7 Ba10 Bb10 Bx10 By10 Bg10 Bt10 HB10 ya0 ya1 ya2 ya3 yb0 yb1 yb2 yb3 yx0 yx1 yx2 yx3 yy0 yy1 yy2 yy3 yg0 yg1 yg2 yg3 yt0 yt1 yt2 yt3
  obtain ⟨ya0, ya1, ya2, ya3⟩ := Ba12.out.four
  obtain ⟨yb0, yb1, yb2, yb3⟩ := Bb12.out.four
  obtain ⟨yx0, yx1, yx2, yx3⟩ := Bx12.out.four
  obtain ⟨yy0, yy1, yy2, yy3⟩ := By12.out.four
  obtain ⟨yg0, yg1, yg2, yg3⟩ := Bg12.out.four
  obtain ⟨yt0, yt1, yt2, yt3⟩ := Bt12.out.four
  go_wp2
  go_ret
  exact ⟨rfl, HB12.out⟩


set_option maxRecDepth 100000 in
set_option maxHeartbeats 4000000 in
theorem near_2fz (ta : ByteArray) (ea : Int) (cb : Int) (nb : Bool) (tb : ByteArray) (eb : Int) (tx : ByteArray) (ex : Int) (w : World) (htab : Tab w) (cg : Int) (ng : Bool) (tg : ByteArray) (eg : Int) (ct : Int) (nt : Bool) (tt : ByteArray) (et : Int) (bl : Bool) (g0 : ∀ W, Tab W → Calls Tryz.prog 16 #[.agg #[.int .i64 0, .bool false, .string ta, .int .i64 ea], dcV cb nb tb eb, .int .i64 2] W fun e w' => e = .returned (.tuple #[.agg #[.int .i64 0, .bool false, .string tx, .int .i64 ex], .int .i64 0]) ∧ Below W.heap.size W w') (g1 : ∀ W, Tab W → Calls Tryz.prog 16 #[.agg #[.int .i64 0, .bool false, .string tx, .int .i64 ex], dcV cb nb tb eb, .int .i64 2] W fun e w' => e = .returned (.tuple #[.agg #[.int .i64 0, .bool false, .string tx, .int .i64 ex], .int .i64 0]) ∧ Below W.heap.size W w') (g2 : ∀ W, Tab W → Calls Tryz.prog 18 #[.agg #[.int .i64 0, .bool false, .string tx, .int .i64 ex], .agg #[.int .i64 0, .bool false, .string ta, .int .i64 ea]] W fun e w' => e = .returned (.tuple #[.agg #[.int .i64 cg, .bool ng, .string tg, .int .i64 eg], .bool true]) ∧ Below W.heap.size W w') (g3 : ∀ W, Tab W → Calls Tryz.prog 19 #[.agg #[.int .i64 cg, .bool ng, .string tg, .int .i64 eg], .agg #[.int .i64 cg, .bool ng, .string tg, .int .i64 eg]] W fun e w' => e = .returned (.tuple #[.agg #[.int .i64 ct, .bool nt, .string tt, .int .i64 et], .int .i64 0]) ∧ Below W.heap.size W w') (g4 : ∀ W, Calls Tryz.prog 20 #[.agg #[.int .i64 cg, .bool ng, .string tg, .int .i64 eg], dcV cb nb tb eb] W fun e w' => e = .returned (.bool true) ∧ Below W.heap.size W w') (g5 : ∀ W, Calls Tryz.prog 20 #[.agg #[.int .i64 0, .bool false, .string tx, .int .i64 ex], .agg #[.int .i64 0, .bool false, .string ta, .int .i64 ea]] W fun e w' => e = .returned (.bool bl) ∧ Below W.heap.size W w') (g6 : ∀ W, Calls Tryz.prog 20 #[.agg #[.int .i64 0, .bool false, .string ta, .int .i64 ea], .agg #[.int .i64 0, .bool false, .string tx, .int .i64 ex]] W fun e w' => e = .returned (.bool false) ∧ Below W.heap.size W w') : Calls Tryz.prog 6 #[.agg #[.int .i64 0, .bool false, .string ta, .int .i64 ea], dcV cb nb tb eb, .int .i64 2] w fun e w' => e = .returned (.bool true) ∧ Below w.heap.size w w' := by
  have H0 := hide g0
  have H1 := hide g1
  have H2 := hide g2
  have H3 := hide g3
  have H4 := hide g4
  have H5 := hide g5
  have H6 := hide g6
  have HT := hide htab
  clear htab g0 g1 g2 g3 g4 g5 g6
  have Ba0 := hide ((Blk.newAt w (w.heap.size) (rfl) #[.int .i64 0, .bool false, .string ta, .int .i64 ea] 23).alloc (.cells #[.int .i64 cb, .bool nb, .string tb, .int .i64 eb] 23))
  have Bb0 := hide (Blk.newAt (w.alloc (.cells #[.int .i64 0, .bool false, .string ta, .int .i64 ea] 23)) (w.heap.size + 1) (by simp) #[.int .i64 cb, .bool nb, .string tb, .int .i64 eb] 23)
  have HB0 : Hid (Below w.heap.size w ((w.alloc (.cells #[.int .i64 0, .bool false, .string ta, .int .i64 ea] 23)).alloc (.cells #[.int .i64 cb, .bool nb, .string tb, .int .i64 eb] 23))) := (((Below.refl _ _).alloc (Nat.le_refl _) _).alloc (by simp <;> omega) _)
  go_enter Tryz.func6, Tryz.ntmps6
  go_wp2_with fail
  refine (H0.out _ (HT.out.below HB0.out)).mono ?_
  rintro e w1 ⟨rfl, hb⟩
  have Ba1 := Blk.on Ba0 hb
  have Bb1 := Blk.on Bb0 hb
  have HB1 := hide (HB0.out.trans (hb.mono HB0.out.size))
  clear hb Ba0 Bb0 HB0 
  obtain ⟨ya0, ya1, ya2, ya3⟩ := Ba1.out.four
  obtain ⟨yb0, yb1, yb2, yb3⟩ := Bb1.out.four
  have Ba2 := Blk.up Ba1 (.cells #[.int .i64 0, .bool false, .string tx, .int .i64 ex] 23)
  have Bb2 := Blk.up Bb1 (.cells #[.int .i64 0, .bool false, .string tx, .int .i64 ex] 23)
  have Bx2 := hide ((Blk.newAt w1 (w1.heap.size) (rfl) #[.int .i64 0, .bool false, .string tx, .int .i64 ex] 23))
  have HB2 : Hid (Below w.heap.size w (w1.alloc (.cells #[.int .i64 0, .bool false, .string tx, .int .i64 ex] 23))) := (HB1.out.alloc HB1.out.size _)
  clear Ba1 Bb1 HB1 ya0 ya1 ya2 ya3 yb0 yb1 yb2 yb3
  obtain ⟨ya0, ya1, ya2, ya3⟩ := Ba2.out.four
  obtain ⟨yb0, yb1, yb2, yb3⟩ := Bb2.out.four
  obtain ⟨yx0, yx1, yx2, yx3⟩ := Bx2.out.four
  go_wp2_with fail
  refine (rawake_any _ (HT.out.below HB2.out)).mono ?_
  rintro e w3 ⟨rfl, hb⟩
  have Ba3 := Blk.on Ba2 hb
  have Bb3 := Blk.on Bb2 hb
  have Bx3 := Blk.on Bx2 hb
  have HB3 := hide (HB2.out.trans (hb.mono HB2.out.size))
  clear hb Ba2 Bb2 Bx2 HB2 ya0 ya1 ya2 ya3 yb0 yb1 yb2 yb3 yx0 yx1 yx2 yx3
  obtain ⟨ya0, ya1, ya2, ya3⟩ := Ba3.out.four
  obtain ⟨yb0, yb1, yb2, yb3⟩ := Bb3.out.four
  obtain ⟨yx0, yx1, yx2, yx3⟩ := Bx3.out.four
  go_wp2_with fail
  refine (H1.out _ (HT.out.below HB3.out)).mono ?_
  rintro e w4 ⟨rfl, hb⟩
  have Ba4 := Blk.on Ba3 hb
  have Bb4 := Blk.on Bb3 hb
  have Bx4 := Blk.on Bx3 hb
  have HB4 := hide (HB3.out.trans (hb.mono HB3.out.size))
  clear hb Ba3 Bb3 Bx3 HB3 ya0 ya1 ya2 ya3 yb0 yb1 yb2 yb3 yx0 yx1 yx2 yx3
  obtain ⟨ya0, ya1, ya2, ya3⟩ := Ba4.out.four
  obtain ⟨yb0, yb1, yb2, yb3⟩ := Bb4.out.four
  obtain ⟨yx0, yx1, yx2, yx3⟩ := Bx4.out.four
  have Ba5 := Blk.up Ba4 (.cells #[.int .i64 0, .bool false, .string tx, .int .i64 ex] 23)
  have Bb5 := Blk.up Bb4 (.cells #[.int .i64 0, .bool false, .string tx, .int .i64 ex] 23)
  have Bx5 := Blk.up Bx4 (.cells #[.int .i64 0, .bool false, .string tx, .int .i64 ex] 23)
  have By5 := hide ((Blk.newAt w4 (w4.heap.size) (rfl) #[.int .i64 0, .bool false, .string tx, .int .i64 ex] 23))
  have HB5 : Hid (Below w.heap.size w (w4.alloc (.cells #[.int .i64 0, .bool false, .string tx, .int .i64 ex] 23))) := (HB4.out.alloc HB4.out.size _)
  clear Ba4 Bb4 Bx4 HB4 ya0 ya1 ya2 ya3 yb0 yb1 yb2 yb3 yx0 yx1 yx2 yx3
  obtain ⟨ya0, ya1, ya2, ya3⟩ := Ba5.out.four
  obtain ⟨yb0, yb1, yb2, yb3⟩ := Bb5.out.four
  obtain ⟨yx0, yx1, yx2, yx3⟩ := Bx5.out.four
  obtain ⟨yy0, yy1, yy2, yy3⟩ := By5.out.four
  go_wp2_with fail
  refine (H2.out _ (HT.out.below HB5.out)).mono ?_
  rintro e w6 ⟨rfl, hb⟩
  have Ba6 := Blk.on Ba5 hb
  have Bb6 := Blk.on Bb5 hb
  have Bx6 := Blk.on Bx5 hb
  have By6 := Blk.on By5 hb
  have HB6 := hide (HB5.out.trans (hb.mono HB5.out.size))
  clear hb Ba5 Bb5 Bx5 By5 HB5 ya0 ya1 ya2 ya3 yb0 yb1 yb2 yb3 yx0 yx1 yx2 yx3 yy0 yy1 yy2 yy3
  obtain ⟨ya0, ya1, ya2, ya3⟩ := Ba6.out.four
  obtain ⟨yb0, yb1, yb2, yb3⟩ := Bb6.out.four
  obtain ⟨yx0, yx1, yx2, yx3⟩ := Bx6.out.four
  obtain ⟨yy0, yy1, yy2, yy3⟩ := By6.out.four
  have Ba7 := Blk.up Ba6 (.cells #[.int .i64 cg, .bool ng, .string tg, .int .i64 eg] 23)
  have Bb7 := Blk.up Bb6 (.cells #[.int .i64 cg, .bool ng, .string tg, .int .i64 eg] 23)
  have Bx7 := Blk.up Bx6 (.cells #[.int .i64 cg, .bool ng, .string tg, .int .i64 eg] 23)
  have By7 := Blk.up By6 (.cells #[.int .i64 cg, .bool ng, .string tg, .int .i64 eg] 23)
  have Bg7 := hide ((Blk.newAt w6 (w6.heap.size) (rfl) #[.int .i64 cg, .bool ng, .string tg, .int .i64 eg] 23))
  have HB7 : Hid (Below w.heap.size w (w6.alloc (.cells #[.int .i64 cg, .bool ng, .string tg, .int .i64 eg] 23))) := (HB6.out.alloc HB6.out.size _)
  clear Ba6 Bb6 Bx6 By6 HB6 ya0 ya1 ya2 ya3 yb0 yb1 yb2 yb3 yx0 yx1 yx2 yx3 yy0 yy1 yy2 yy3
  obtain ⟨ya0, ya1, ya2, ya3⟩ := Ba7.out.four
  obtain ⟨yb0, yb1, yb2, yb3⟩ := Bb7.out.four
  obtain ⟨yx0, yx1, yx2, yx3⟩ := Bx7.out.four
  obtain ⟨yy0, yy1, yy2, yy3⟩ := By7.out.four
  obtain ⟨yg0, yg1, yg2, yg3⟩ := Bg7.out.four
  go_wp2_with fail
  refine (H3.out _ (HT.out.below HB7.out)).mono ?_
  rintro e w8 ⟨rfl, hb⟩
  have Ba8 := Blk.on Ba7 hb
  have Bb8 := Blk.on Bb7 hb
  have Bx8 := Blk.on Bx7 hb
  have By8 := Blk.on By7 hb
  have Bg8 := Blk.on Bg7 hb
  have HB8 := hide (HB7.out.trans (hb.mono HB7.out.size))
  clear hb Ba7 Bb7 Bx7 By7 Bg7 HB7 ya0 ya1 ya2 ya3 yb0 yb1 yb2 yb3 yx0 yx1 yx2 yx3 yy0 yy1 yy2 yy3 yg0 yg1 yg2 yg3
  obtain ⟨ya0, ya1, ya2, ya3⟩ := Ba8.out.four
  obtain ⟨yb0, yb1, yb2, yb3⟩ := Bb8.out.four
  obtain ⟨yx0, yx1, yx2, yx3⟩ := Bx8.out.four
  obtain ⟨yy0, yy1, yy2, yy3⟩ := By8.out.four
  obtain ⟨yg0, yg1, yg2, yg3⟩ := Bg8.out.four
  have Ba9 := Blk.up Ba8 (.cells #[.int .i64 ct, .bool nt, .string tt, .int .i64 et] 23)
  have Bb9 := Blk.up Bb8 (.cells #[.int .i64 ct, .bool nt, .string tt, .int .i64 et] 23)
  have Bx9 := Blk.up Bx8 (.cells #[.int .i64 ct, .bool nt, .string tt, .int .i64 et] 23)
  have By9 := Blk.up By8 (.cells #[.int .i64 ct, .bool nt, .string tt, .int .i64 et] 23)
  have Bg9 := Blk.up Bg8 (.cells #[.int .i64 ct, .bool nt, .string tt, .int .i64 et] 23)
  have Bt9 := hide ((Blk.newAt w8 (w8.heap.size) (rfl) #[.int .i64 ct, .bool nt, .string tt, .int .i64 et] 23))
  have HB9 : Hid (Below w.heap.size w (w8.alloc (.cells #[.int .i64 ct, .bool nt, .string tt, .int .i64 et] 23))) := (HB8.out.alloc HB8.out.size _)
  clear Ba8 Bb8 Bx8 By8 Bg8 HB8 ya0 ya1 ya2 ya3 yb0 yb1 yb2 yb3 yx0 yx1 yx2 yx3 yy0 yy1 yy2 yy3 yg0 yg1 yg2 yg3
  obtain ⟨ya0, ya1, ya2, ya3⟩ := Ba9.out.four
  obtain ⟨yb0, yb1, yb2, yb3⟩ := Bb9.out.four
  obtain ⟨yx0, yx1, yx2, yx3⟩ := Bx9.out.four
  obtain ⟨yy0, yy1, yy2, yy3⟩ := By9.out.four
  obtain ⟨yg0, yg1, yg2, yg3⟩ := Bg9.out.four
  obtain ⟨yt0, yt1, yt2, yt3⟩ := Bt9.out.four
  go_wp2_with fail
  refine (H4.out _).mono ?_
  rintro e w10 ⟨rfl, hb⟩
  have Ba10 := Blk.on Ba9 hb
  have Bb10 := Blk.on Bb9 hb
  have Bx10 := Blk.on Bx9 hb
  have By10 := Blk.on By9 hb
  have Bg10 := Blk.on Bg9 hb
  have Bt10 := Blk.on Bt9 hb
  have HB10 := hide (HB9.out.trans (hb.mono HB9.out.size))
  clear hb Ba9 Bb9 Bx9 By9 Bg9 Bt9 HB9 ya0 ya1 ya2 ya3 yb0 yb1 yb2 yb3 yx0 yx1 yx2 yx3 yy0 yy1 yy2 yy3 yg0 yg1 yg2 yg3 yt0 yt1 yt2 yt3
  obtain ⟨ya0, ya1, ya2, ya3⟩ := Ba10.out.four
  obtain ⟨yb0, yb1, yb2, yb3⟩ := Bb10.out.four
  obtain ⟨yx0, yx1, yx2, yx3⟩ := Bx10.out.four
  obtain ⟨yy0, yy1, yy2, yy3⟩ := By10.out.four
  obtain ⟨yg0, yg1, yg2, yg3⟩ := Bg10.out.four
  obtain ⟨yt0, yt1, yt2, yt3⟩ := Bt10.out.four
  have b0 : Hid (Below w10.heap.size w10 w10.drew) := bdrewD w10
  have C0 : Hid (∀ X, Hid (Below w10.heap.size w10 X) → Calls Tryz.prog 20 #[.agg #[.int .i64 0, .bool false, .string tx, .int .i64 ex], .agg #[.int .i64 0, .bool false, .string ta, .int .i64 ea]] X fun e w' => e = .returned (.bool bl) ∧ Hid (Below w10.heap.size w10 w') ∧ w'.cell? ⟨w.heap.size, 0, none⟩ = some (.int .i64 0) ∧ w'.cell? ⟨w.heap.size, 1, none⟩ = some (.bool false) ∧ w'.cell? ⟨w.heap.size, 2, none⟩ = some (.string ta) ∧ w'.cell? ⟨w.heap.size, 3, none⟩ = some (.int .i64 ea) ∧ w'.cell? ⟨w1.heap.size, 0, none⟩ = some (.int .i64 0) ∧ w'.cell? ⟨w1.heap.size, 1, none⟩ = some (.bool false) ∧ w'.cell? ⟨w1.heap.size, 2, none⟩ = some (.string tx) ∧ w'.cell? ⟨w1.heap.size, 3, none⟩ = some (.int .i64 ex)) := by
    intro X bX
    refine (H5.out X).mono ?_
    rintro e w' ⟨rfl, hb⟩
    have bb := bX.out.trans (hb.mono bX.out.size)
    have Baq := Ba10.out.below bb Ba10.out.lt
    have Bxq := Bx10.out.below bb Bx10.out.lt
    exact ⟨rfl, bb, Baq.cell 0, Baq.cell 1, Baq.cell 2, Baq.cell 3, Bxq.cell 0, Bxq.cell 1, Bxq.cell 2, Bxq.cell 3⟩
  have C1 : Hid (∀ X, Hid (Below w10.heap.size w10 X) → Calls Tryz.prog 20 #[.agg #[.int .i64 0, .bool false, .string ta, .int .i64 ea], .agg #[.int .i64 0, .bool false, .string tx, .int .i64 ex]] X fun e w' => e = .returned (.bool false) ∧ Hid (Below w10.heap.size w10 w') ∧ w'.cell? ⟨w.heap.size, 0, none⟩ = some (.int .i64 0) ∧ w'.cell? ⟨w.heap.size, 1, none⟩ = some (.bool false) ∧ w'.cell? ⟨w.heap.size, 2, none⟩ = some (.string ta) ∧ w'.cell? ⟨w.heap.size, 3, none⟩ = some (.int .i64 ea) ∧ w'.cell? ⟨w1.heap.size, 0, none⟩ = some (.int .i64 0) ∧ w'.cell? ⟨w1.heap.size, 1, none⟩ = some (.bool false) ∧ w'.cell? ⟨w1.heap.size, 2, none⟩ = some (.string tx) ∧ w'.cell? ⟨w1.heap.size, 3, none⟩ = some (.int .i64 ex)) := by
    intro X bX
    refine (H6.out X).mono ?_
    rintro e w' ⟨rfl, hb⟩
    have bb := bX.out.trans (hb.mono bX.out.size)
    have Baq := Ba10.out.below bb Ba10.out.lt
    have Bxq := Bx10.out.below bb Bx10.out.lt
    exact ⟨rfl, bb, Baq.cell 0, Baq.cell 1, Baq.cell 2, Baq.cell 3, Bxq.cell 0, Bxq.cell 1, Bxq.cell 2, Bxq.cell 3⟩
  go_wp2_with fail
  have mk0 : True := trivial
  go_region_held3 (fun w' => w'.cell? ⟨w.heap.size, 0, none⟩ = some (.int .i64 0) ∧ w'.cell? ⟨w.heap.size, 1, none⟩ = some (.bool false) ∧ w'.cell? ⟨w.heap.size, 2, none⟩ = some (.string ta) ∧ w'.cell? ⟨w.heap.size, 3, none⟩ = some (.int .i64 ea) ∧ w'.cell? ⟨w1.heap.size, 0, none⟩ = some (.int .i64 0) ∧ w'.cell? ⟨w1.heap.size, 1, none⟩ = some (.bool false) ∧ w'.cell? ⟨w1.heap.size, 2, none⟩ = some (.string tx) ∧ w'.cell? ⟨w1.heap.size, 3, none⟩ = some (.int .i64 ex)) (go_keep) (first
    | (clear mk0; go_at_call 20; refine (C0.out _ b0).mono ?_; rintro e w11 ⟨rfl, b1, q0_0, q0_1, q0_2, q0_3, q0_4, q0_5, q0_6, q0_7⟩; have mk1 : True := trivial)
    | (clear mk1; go_at_call 20; refine (C1.out _ b1).mono ?_; rintro e w12 ⟨rfl, b2, q1_0, q1_1, q1_2, q1_3, q1_4, q1_5, q1_6, q1_7⟩; have mk2 : True := trivial))
  have Ba12 := hide (Ba10.out.below b2.out Ba10.out.lt)
  have Bb12 := hide (Bb10.out.below b2.out Bb10.out.lt)
  have Bx12 := hide (Bx10.out.below b2.out Bx10.out.lt)
  have By12 := hide (By10.out.below b2.out By10.out.lt)
  have Bg12 := hide (Bg10.out.below b2.out Bg10.out.lt)
  have Bt12 := hide (Bt10.out.below b2.out Bt10.out.lt)
  have HB12 := hide (HB10.out.trans (b2.out.mono HB10.out.size))
  clear mk2 b0 b1 b2 C0 C1 q0_0 q0_1 q0_2 q0_3 q0_4 q0_5 q0_6 q0_7 q1_0 q1_1 q1_2 q1_3 q1_4 q1_5 q1_6 q1_7 Ba10 Bb10 Bx10 By10 Bg10 Bt10 HB10 ya0 ya1 ya2 ya3 yb0 yb1 yb2 yb3 yx0 yx1 yx2 yx3 yy0 yy1 yy2 yy3 yg0 yg1 yg2 yg3 yt0 yt1 yt2 yt3
  obtain ⟨ya0, ya1, ya2, ya3⟩ := Ba12.out.four
  obtain ⟨yb0, yb1, yb2, yb3⟩ := Bb12.out.four
  obtain ⟨yx0, yx1, yx2, yx3⟩ := Bx12.out.four
  obtain ⟨yy0, yy1, yy2, yy3⟩ := By12.out.four
  obtain ⟨yg0, yg1, yg2, yg3⟩ := Bg12.out.four
  obtain ⟨yt0, yt1, yt2, yt3⟩ := Bt12.out.four
  go_wp2
  go_ret
  exact ⟨rfl, HB12.out⟩


set_option maxRecDepth 100000 in
set_option maxHeartbeats 4000000 in
theorem near_3tz (ta : ByteArray) (ea : Int) (cb : Int) (nb : Bool) (tb : ByteArray) (eb : Int) (tx : ByteArray) (ex : Int) (w : World) (htab : Tab w) (cg : Int) (ng : Bool) (tg : ByteArray) (eg : Int) (ct : Int) (nt : Bool) (tt : ByteArray) (et : Int) (bl : Bool) (g0 : ∀ W, Tab W → Calls Tryz.prog 16 #[.agg #[.int .i64 0, .bool true, .string ta, .int .i64 ea], dcV cb nb tb eb, .int .i64 3] W fun e w' => e = .returned (.tuple #[.agg #[.int .i64 0, .bool true, .string tx, .int .i64 ex], .int .i64 0]) ∧ Below W.heap.size W w') (g1 : ∀ W, Tab W → Calls Tryz.prog 16 #[.agg #[.int .i64 0, .bool true, .string tx, .int .i64 ex], dcV cb nb tb eb, .int .i64 3] W fun e w' => e = .returned (.tuple #[.agg #[.int .i64 0, .bool true, .string tx, .int .i64 ex], .int .i64 0]) ∧ Below W.heap.size W w') (g2 : ∀ W, Tab W → Calls Tryz.prog 18 #[.agg #[.int .i64 0, .bool true, .string tx, .int .i64 ex], .agg #[.int .i64 0, .bool true, .string ta, .int .i64 ea]] W fun e w' => e = .returned (.tuple #[.agg #[.int .i64 cg, .bool ng, .string tg, .int .i64 eg], .bool true]) ∧ Below W.heap.size W w') (g3 : ∀ W, Tab W → Calls Tryz.prog 19 #[.agg #[.int .i64 cg, .bool ng, .string tg, .int .i64 eg], .agg #[.int .i64 cg, .bool ng, .string tg, .int .i64 eg]] W fun e w' => e = .returned (.tuple #[.agg #[.int .i64 ct, .bool nt, .string tt, .int .i64 et], .int .i64 0]) ∧ Below W.heap.size W w') (g4 : ∀ W, Calls Tryz.prog 20 #[.agg #[.int .i64 cg, .bool ng, .string tg, .int .i64 eg], dcV cb nb tb eb] W fun e w' => e = .returned (.bool true) ∧ Below W.heap.size W w') (g5 : ∀ W, Calls Tryz.prog 20 #[.agg #[.int .i64 0, .bool true, .string tx, .int .i64 ex], .agg #[.int .i64 0, .bool true, .string ta, .int .i64 ea]] W fun e w' => e = .returned (.bool bl) ∧ Below W.heap.size W w') (g6 : ∀ W, Calls Tryz.prog 20 #[.agg #[.int .i64 0, .bool true, .string ta, .int .i64 ea], .agg #[.int .i64 0, .bool true, .string tx, .int .i64 ex]] W fun e w' => e = .returned (.bool false) ∧ Below W.heap.size W w') : Calls Tryz.prog 6 #[.agg #[.int .i64 0, .bool true, .string ta, .int .i64 ea], dcV cb nb tb eb, .int .i64 3] w fun e w' => e = .returned (.bool true) ∧ Below w.heap.size w w' := by
  have H0 := hide g0
  have H1 := hide g1
  have H2 := hide g2
  have H3 := hide g3
  have H4 := hide g4
  have H5 := hide g5
  have H6 := hide g6
  have HT := hide htab
  clear htab g0 g1 g2 g3 g4 g5 g6
  have Ba0 := hide ((Blk.newAt w (w.heap.size) (rfl) #[.int .i64 0, .bool true, .string ta, .int .i64 ea] 23).alloc (.cells #[.int .i64 cb, .bool nb, .string tb, .int .i64 eb] 23))
  have Bb0 := hide (Blk.newAt (w.alloc (.cells #[.int .i64 0, .bool true, .string ta, .int .i64 ea] 23)) (w.heap.size + 1) (by simp) #[.int .i64 cb, .bool nb, .string tb, .int .i64 eb] 23)
  have HB0 : Hid (Below w.heap.size w ((w.alloc (.cells #[.int .i64 0, .bool true, .string ta, .int .i64 ea] 23)).alloc (.cells #[.int .i64 cb, .bool nb, .string tb, .int .i64 eb] 23))) := (((Below.refl _ _).alloc (Nat.le_refl _) _).alloc (by simp <;> omega) _)
  go_enter Tryz.func6, Tryz.ntmps6
  go_wp2_with fail
  refine (H0.out _ (HT.out.below HB0.out)).mono ?_
  rintro e w1 ⟨rfl, hb⟩
  have Ba1 := Blk.on Ba0 hb
  have Bb1 := Blk.on Bb0 hb
  have HB1 := hide (HB0.out.trans (hb.mono HB0.out.size))
  clear hb Ba0 Bb0 HB0 
  obtain ⟨ya0, ya1, ya2, ya3⟩ := Ba1.out.four
  obtain ⟨yb0, yb1, yb2, yb3⟩ := Bb1.out.four
  have Ba2 := Blk.up Ba1 (.cells #[.int .i64 0, .bool true, .string tx, .int .i64 ex] 23)
  have Bb2 := Blk.up Bb1 (.cells #[.int .i64 0, .bool true, .string tx, .int .i64 ex] 23)
  have Bx2 := hide ((Blk.newAt w1 (w1.heap.size) (rfl) #[.int .i64 0, .bool true, .string tx, .int .i64 ex] 23))
  have HB2 : Hid (Below w.heap.size w (w1.alloc (.cells #[.int .i64 0, .bool true, .string tx, .int .i64 ex] 23))) := (HB1.out.alloc HB1.out.size _)
  clear Ba1 Bb1 HB1 ya0 ya1 ya2 ya3 yb0 yb1 yb2 yb3
  obtain ⟨ya0, ya1, ya2, ya3⟩ := Ba2.out.four
  obtain ⟨yb0, yb1, yb2, yb3⟩ := Bb2.out.four
  obtain ⟨yx0, yx1, yx2, yx3⟩ := Bx2.out.four
  go_wp2_with fail
  refine (rawake_any _ (HT.out.below HB2.out)).mono ?_
  rintro e w3 ⟨rfl, hb⟩
  have Ba3 := Blk.on Ba2 hb
  have Bb3 := Blk.on Bb2 hb
  have Bx3 := Blk.on Bx2 hb
  have HB3 := hide (HB2.out.trans (hb.mono HB2.out.size))
  clear hb Ba2 Bb2 Bx2 HB2 ya0 ya1 ya2 ya3 yb0 yb1 yb2 yb3 yx0 yx1 yx2 yx3
  obtain ⟨ya0, ya1, ya2, ya3⟩ := Ba3.out.four
  obtain ⟨yb0, yb1, yb2, yb3⟩ := Bb3.out.four
  obtain ⟨yx0, yx1, yx2, yx3⟩ := Bx3.out.four
  go_wp2_with fail
  refine (H1.out _ (HT.out.below HB3.out)).mono ?_
  rintro e w4 ⟨rfl, hb⟩
  have Ba4 := Blk.on Ba3 hb
  have Bb4 := Blk.on Bb3 hb
  have Bx4 := Blk.on Bx3 hb
  have HB4 := hide (HB3.out.trans (hb.mono HB3.out.size))
  clear hb Ba3 Bb3 Bx3 HB3 ya0 ya1 ya2 ya3 yb0 yb1 yb2 yb3 yx0 yx1 yx2 yx3
  obtain ⟨ya0, ya1, ya2, ya3⟩ := Ba4.out.four
  obtain ⟨yb0, yb1, yb2, yb3⟩ := Bb4.out.four
  obtain ⟨yx0, yx1, yx2, yx3⟩ := Bx4.out.four
  have Ba5 := Blk.up Ba4 (.cells #[.int .i64 0, .bool true, .string tx, .int .i64 ex] 23)
  have Bb5 := Blk.up Bb4 (.cells #[.int .i64 0, .bool true, .string tx, .int .i64 ex] 23)
  have Bx5 := Blk.up Bx4 (.cells #[.int .i64 0, .bool true, .string tx, .int .i64 ex] 23)
  have By5 := hide ((Blk.newAt w4 (w4.heap.size) (rfl) #[.int .i64 0, .bool true, .string tx, .int .i64 ex] 23))
  have HB5 : Hid (Below w.heap.size w (w4.alloc (.cells #[.int .i64 0, .bool true, .string tx, .int .i64 ex] 23))) := (HB4.out.alloc HB4.out.size _)
  clear Ba4 Bb4 Bx4 HB4 ya0 ya1 ya2 ya3 yb0 yb1 yb2 yb3 yx0 yx1 yx2 yx3
  obtain ⟨ya0, ya1, ya2, ya3⟩ := Ba5.out.four
  obtain ⟨yb0, yb1, yb2, yb3⟩ := Bb5.out.four
  obtain ⟨yx0, yx1, yx2, yx3⟩ := Bx5.out.four
  obtain ⟨yy0, yy1, yy2, yy3⟩ := By5.out.four
  go_wp2_with fail
  refine (H2.out _ (HT.out.below HB5.out)).mono ?_
  rintro e w6 ⟨rfl, hb⟩
  have Ba6 := Blk.on Ba5 hb
  have Bb6 := Blk.on Bb5 hb
  have Bx6 := Blk.on Bx5 hb
  have By6 := Blk.on By5 hb
  have HB6 := hide (HB5.out.trans (hb.mono HB5.out.size))
  clear hb Ba5 Bb5 Bx5 By5 HB5 ya0 ya1 ya2 ya3 yb0 yb1 yb2 yb3 yx0 yx1 yx2 yx3 yy0 yy1 yy2 yy3
  obtain ⟨ya0, ya1, ya2, ya3⟩ := Ba6.out.four
  obtain ⟨yb0, yb1, yb2, yb3⟩ := Bb6.out.four
  obtain ⟨yx0, yx1, yx2, yx3⟩ := Bx6.out.four
  obtain ⟨yy0, yy1, yy2, yy3⟩ := By6.out.four
  have Ba7 := Blk.up Ba6 (.cells #[.int .i64 cg, .bool ng, .string tg, .int .i64 eg] 23)
  have Bb7 := Blk.up Bb6 (.cells #[.int .i64 cg, .bool ng, .string tg, .int .i64 eg] 23)
  have Bx7 := Blk.up Bx6 (.cells #[.int .i64 cg, .bool ng, .string tg, .int .i64 eg] 23)
  have By7 := Blk.up By6 (.cells #[.int .i64 cg, .bool ng, .string tg, .int .i64 eg] 23)
  have Bg7 := hide ((Blk.newAt w6 (w6.heap.size) (rfl) #[.int .i64 cg, .bool ng, .string tg, .int .i64 eg] 23))
  have HB7 : Hid (Below w.heap.size w (w6.alloc (.cells #[.int .i64 cg, .bool ng, .string tg, .int .i64 eg] 23))) := (HB6.out.alloc HB6.out.size _)
  clear Ba6 Bb6 Bx6 By6 HB6 ya0 ya1 ya2 ya3 yb0 yb1 yb2 yb3 yx0 yx1 yx2 yx3 yy0 yy1 yy2 yy3
  obtain ⟨ya0, ya1, ya2, ya3⟩ := Ba7.out.four
  obtain ⟨yb0, yb1, yb2, yb3⟩ := Bb7.out.four
  obtain ⟨yx0, yx1, yx2, yx3⟩ := Bx7.out.four
  obtain ⟨yy0, yy1, yy2, yy3⟩ := By7.out.four
  obtain ⟨yg0, yg1, yg2, yg3⟩ := Bg7.out.four
  go_wp2_with fail
  refine (H3.out _ (HT.out.below HB7.out)).mono ?_
  rintro e w8 ⟨rfl, hb⟩
  have Ba8 := Blk.on Ba7 hb
  have Bb8 := Blk.on Bb7 hb
  have Bx8 := Blk.on Bx7 hb
  have By8 := Blk.on By7 hb
  have Bg8 := Blk.on Bg7 hb
  have HB8 := hide (HB7.out.trans (hb.mono HB7.out.size))
  clear hb Ba7 Bb7 Bx7 By7 Bg7 HB7 ya0 ya1 ya2 ya3 yb0 yb1 yb2 yb3 yx0 yx1 yx2 yx3 yy0 yy1 yy2 yy3 yg0 yg1 yg2 yg3
  obtain ⟨ya0, ya1, ya2, ya3⟩ := Ba8.out.four
  obtain ⟨yb0, yb1, yb2, yb3⟩ := Bb8.out.four
  obtain ⟨yx0, yx1, yx2, yx3⟩ := Bx8.out.four
  obtain ⟨yy0, yy1, yy2, yy3⟩ := By8.out.four
  obtain ⟨yg0, yg1, yg2, yg3⟩ := Bg8.out.four
  have Ba9 := Blk.up Ba8 (.cells #[.int .i64 ct, .bool nt, .string tt, .int .i64 et] 23)
  have Bb9 := Blk.up Bb8 (.cells #[.int .i64 ct, .bool nt, .string tt, .int .i64 et] 23)
  have Bx9 := Blk.up Bx8 (.cells #[.int .i64 ct, .bool nt, .string tt, .int .i64 et] 23)
  have By9 := Blk.up By8 (.cells #[.int .i64 ct, .bool nt, .string tt, .int .i64 et] 23)
  have Bg9 := Blk.up Bg8 (.cells #[.int .i64 ct, .bool nt, .string tt, .int .i64 et] 23)
  have Bt9 := hide ((Blk.newAt w8 (w8.heap.size) (rfl) #[.int .i64 ct, .bool nt, .string tt, .int .i64 et] 23))
  have HB9 : Hid (Below w.heap.size w (w8.alloc (.cells #[.int .i64 ct, .bool nt, .string tt, .int .i64 et] 23))) := (HB8.out.alloc HB8.out.size _)
  clear Ba8 Bb8 Bx8 By8 Bg8 HB8 ya0 ya1 ya2 ya3 yb0 yb1 yb2 yb3 yx0 yx1 yx2 yx3 yy0 yy1 yy2 yy3 yg0 yg1 yg2 yg3
  obtain ⟨ya0, ya1, ya2, ya3⟩ := Ba9.out.four
  obtain ⟨yb0, yb1, yb2, yb3⟩ := Bb9.out.four
  obtain ⟨yx0, yx1, yx2, yx3⟩ := Bx9.out.four
  obtain ⟨yy0, yy1, yy2, yy3⟩ := By9.out.four
  obtain ⟨yg0, yg1, yg2, yg3⟩ := Bg9.out.four
  obtain ⟨yt0, yt1, yt2, yt3⟩ := Bt9.out.four
  go_wp2_with fail
  refine (H4.out _).mono ?_
  rintro e w10 ⟨rfl, hb⟩
  have Ba10 := Blk.on Ba9 hb
  have Bb10 := Blk.on Bb9 hb
  have Bx10 := Blk.on Bx9 hb
  have By10 := Blk.on By9 hb
  have Bg10 := Blk.on Bg9 hb
  have Bt10 := Blk.on Bt9 hb
  have HB10 := hide (HB9.out.trans (hb.mono HB9.out.size))
  clear hb Ba9 Bb9 Bx9 By9 Bg9 Bt9 HB9 ya0 ya1 ya2 ya3 yb0 yb1 yb2 yb3 yx0 yx1 yx2 yx3 yy0 yy1 yy2 yy3 yg0 yg1 yg2 yg3 yt0 yt1 yt2 yt3
  obtain ⟨ya0, ya1, ya2, ya3⟩ := Ba10.out.four
  obtain ⟨yb0, yb1, yb2, yb3⟩ := Bb10.out.four
  obtain ⟨yx0, yx1, yx2, yx3⟩ := Bx10.out.four
  obtain ⟨yy0, yy1, yy2, yy3⟩ := By10.out.four
  obtain ⟨yg0, yg1, yg2, yg3⟩ := Bg10.out.four
  obtain ⟨yt0, yt1, yt2, yt3⟩ := Bt10.out.four
  have b0 : Hid (Below w10.heap.size w10 w10.drew) := bdrewD w10
  have C0 : Hid (∀ X, Hid (Below w10.heap.size w10 X) → Calls Tryz.prog 20 #[.agg #[.int .i64 0, .bool true, .string tx, .int .i64 ex], .agg #[.int .i64 0, .bool true, .string ta, .int .i64 ea]] X fun e w' => e = .returned (.bool bl) ∧ Hid (Below w10.heap.size w10 w') ∧ w'.cell? ⟨w.heap.size, 0, none⟩ = some (.int .i64 0) ∧ w'.cell? ⟨w.heap.size, 1, none⟩ = some (.bool true) ∧ w'.cell? ⟨w.heap.size, 2, none⟩ = some (.string ta) ∧ w'.cell? ⟨w.heap.size, 3, none⟩ = some (.int .i64 ea) ∧ w'.cell? ⟨w1.heap.size, 0, none⟩ = some (.int .i64 0) ∧ w'.cell? ⟨w1.heap.size, 1, none⟩ = some (.bool true) ∧ w'.cell? ⟨w1.heap.size, 2, none⟩ = some (.string tx) ∧ w'.cell? ⟨w1.heap.size, 3, none⟩ = some (.int .i64 ex)) := by
    intro X bX
    refine (H5.out X).mono ?_
    rintro e w' ⟨rfl, hb⟩
    have bb := bX.out.trans (hb.mono bX.out.size)
    have Baq := Ba10.out.below bb Ba10.out.lt
    have Bxq := Bx10.out.below bb Bx10.out.lt
    exact ⟨rfl, bb, Baq.cell 0, Baq.cell 1, Baq.cell 2, Baq.cell 3, Bxq.cell 0, Bxq.cell 1, Bxq.cell 2, Bxq.cell 3⟩
  have C1 : Hid (∀ X, Hid (Below w10.heap.size w10 X) → Calls Tryz.prog 20 #[.agg #[.int .i64 0, .bool true, .string ta, .int .i64 ea], .agg #[.int .i64 0, .bool true, .string tx, .int .i64 ex]] X fun e w' => e = .returned (.bool false) ∧ Hid (Below w10.heap.size w10 w') ∧ w'.cell? ⟨w.heap.size, 0, none⟩ = some (.int .i64 0) ∧ w'.cell? ⟨w.heap.size, 1, none⟩ = some (.bool true) ∧ w'.cell? ⟨w.heap.size, 2, none⟩ = some (.string ta) ∧ w'.cell? ⟨w.heap.size, 3, none⟩ = some (.int .i64 ea) ∧ w'.cell? ⟨w1.heap.size, 0, none⟩ = some (.int .i64 0) ∧ w'.cell? ⟨w1.heap.size, 1, none⟩ = some (.bool true) ∧ w'.cell? ⟨w1.heap.size, 2, none⟩ = some (.string tx) ∧ w'.cell? ⟨w1.heap.size, 3, none⟩ = some (.int .i64 ex)) := by
    intro X bX
    refine (H6.out X).mono ?_
    rintro e w' ⟨rfl, hb⟩
    have bb := bX.out.trans (hb.mono bX.out.size)
    have Baq := Ba10.out.below bb Ba10.out.lt
    have Bxq := Bx10.out.below bb Bx10.out.lt
    exact ⟨rfl, bb, Baq.cell 0, Baq.cell 1, Baq.cell 2, Baq.cell 3, Bxq.cell 0, Bxq.cell 1, Bxq.cell 2, Bxq.cell 3⟩
  go_wp2_with fail
  have mk0 : True := trivial
  go_region_held3 (fun w' => w'.cell? ⟨w.heap.size, 0, none⟩ = some (.int .i64 0) ∧ w'.cell? ⟨w.heap.size, 1, none⟩ = some (.bool true) ∧ w'.cell? ⟨w.heap.size, 2, none⟩ = some (.string ta) ∧ w'.cell? ⟨w.heap.size, 3, none⟩ = some (.int .i64 ea) ∧ w'.cell? ⟨w1.heap.size, 0, none⟩ = some (.int .i64 0) ∧ w'.cell? ⟨w1.heap.size, 1, none⟩ = some (.bool true) ∧ w'.cell? ⟨w1.heap.size, 2, none⟩ = some (.string tx) ∧ w'.cell? ⟨w1.heap.size, 3, none⟩ = some (.int .i64 ex)) (go_keep) (first
    | (clear mk0; go_at_call 20; refine (C0.out _ b0).mono ?_; rintro e w11 ⟨rfl, b1, q0_0, q0_1, q0_2, q0_3, q0_4, q0_5, q0_6, q0_7⟩; have mk1 : True := trivial)
    | (clear mk1; go_at_call 20; refine (C1.out _ b1).mono ?_; rintro e w12 ⟨rfl, b2, q1_0, q1_1, q1_2, q1_3, q1_4, q1_5, q1_6, q1_7⟩; have mk2 : True := trivial))
  have Ba12 := hide (Ba10.out.below b2.out Ba10.out.lt)
  have Bb12 := hide (Bb10.out.below b2.out Bb10.out.lt)
  have Bx12 := hide (Bx10.out.below b2.out Bx10.out.lt)
  have By12 := hide (By10.out.below b2.out By10.out.lt)
  have Bg12 := hide (Bg10.out.below b2.out Bg10.out.lt)
  have Bt12 := hide (Bt10.out.below b2.out Bt10.out.lt)
  have HB12 := hide (HB10.out.trans (b2.out.mono HB10.out.size))
  clear mk2 b0 b1 b2 C0 C1 q0_0 q0_1 q0_2 q0_3 q0_4 q0_5 q0_6 q0_7 q1_0 q1_1 q1_2 q1_3 q1_4 q1_5 q1_6 q1_7 Ba10 Bb10 Bx10 By10 Bg10 Bt10 HB10 ya0 ya1 ya2 ya3 yb0 yb1 yb2 yb3 yx0 yx1 yx2 yx3 yy0 yy1 yy2 yy3 yg0 yg1 yg2 yg3 yt0 yt1 yt2 yt3
  obtain ⟨ya0, ya1, ya2, ya3⟩ := Ba12.out.four
  obtain ⟨yb0, yb1, yb2, yb3⟩ := Bb12.out.four
  obtain ⟨yx0, yx1, yx2, yx3⟩ := Bx12.out.four
  obtain ⟨yy0, yy1, yy2, yy3⟩ := By12.out.four
  obtain ⟨yg0, yg1, yg2, yg3⟩ := Bg12.out.four
  obtain ⟨yt0, yt1, yt2, yt3⟩ := Bt12.out.four
  go_wp2
  go_ret
  exact ⟨rfl, HB12.out⟩


set_option maxRecDepth 100000 in
set_option maxHeartbeats 4000000 in
theorem near_3fz (ta : ByteArray) (ea : Int) (cb : Int) (nb : Bool) (tb : ByteArray) (eb : Int) (tx : ByteArray) (ex : Int) (w : World) (htab : Tab w) (cg : Int) (ng : Bool) (tg : ByteArray) (eg : Int) (ct : Int) (nt : Bool) (tt : ByteArray) (et : Int) (bh : Bool) (g0 : ∀ W, Tab W → Calls Tryz.prog 16 #[.agg #[.int .i64 0, .bool false, .string ta, .int .i64 ea], dcV cb nb tb eb, .int .i64 3] W fun e w' => e = .returned (.tuple #[.agg #[.int .i64 0, .bool false, .string tx, .int .i64 ex], .int .i64 0]) ∧ Below W.heap.size W w') (g1 : ∀ W, Tab W → Calls Tryz.prog 16 #[.agg #[.int .i64 0, .bool false, .string tx, .int .i64 ex], dcV cb nb tb eb, .int .i64 3] W fun e w' => e = .returned (.tuple #[.agg #[.int .i64 0, .bool false, .string tx, .int .i64 ex], .int .i64 0]) ∧ Below W.heap.size W w') (g2 : ∀ W, Tab W → Calls Tryz.prog 18 #[.agg #[.int .i64 0, .bool false, .string tx, .int .i64 ex], .agg #[.int .i64 0, .bool false, .string ta, .int .i64 ea]] W fun e w' => e = .returned (.tuple #[.agg #[.int .i64 cg, .bool ng, .string tg, .int .i64 eg], .bool true]) ∧ Below W.heap.size W w') (g3 : ∀ W, Tab W → Calls Tryz.prog 19 #[.agg #[.int .i64 cg, .bool ng, .string tg, .int .i64 eg], .agg #[.int .i64 cg, .bool ng, .string tg, .int .i64 eg]] W fun e w' => e = .returned (.tuple #[.agg #[.int .i64 ct, .bool nt, .string tt, .int .i64 et], .int .i64 0]) ∧ Below W.heap.size W w') (g4 : ∀ W, Calls Tryz.prog 20 #[.agg #[.int .i64 cg, .bool ng, .string tg, .int .i64 eg], dcV cb nb tb eb] W fun e w' => e = .returned (.bool true) ∧ Below W.heap.size W w') (g5 : ∀ W, Calls Tryz.prog 20 #[.agg #[.int .i64 0, .bool false, .string tx, .int .i64 ex], .agg #[.int .i64 0, .bool false, .string ta, .int .i64 ea]] W fun e w' => e = .returned (.bool false) ∧ Below W.heap.size W w') (g6 : ∀ W, Calls Tryz.prog 20 #[.agg #[.int .i64 0, .bool false, .string ta, .int .i64 ea], .agg #[.int .i64 0, .bool false, .string tx, .int .i64 ex]] W fun e w' => e = .returned (.bool bh) ∧ Below W.heap.size W w') : Calls Tryz.prog 6 #[.agg #[.int .i64 0, .bool false, .string ta, .int .i64 ea], dcV cb nb tb eb, .int .i64 3] w fun e w' => e = .returned (.bool true) ∧ Below w.heap.size w w' := by
  have H0 := hide g0
  have H1 := hide g1
  have H2 := hide g2
  have H3 := hide g3
  have H4 := hide g4
  have H5 := hide g5
  have H6 := hide g6
  have HT := hide htab
  clear htab g0 g1 g2 g3 g4 g5 g6
  have Ba0 := hide ((Blk.newAt w (w.heap.size) (rfl) #[.int .i64 0, .bool false, .string ta, .int .i64 ea] 23).alloc (.cells #[.int .i64 cb, .bool nb, .string tb, .int .i64 eb] 23))
  have Bb0 := hide (Blk.newAt (w.alloc (.cells #[.int .i64 0, .bool false, .string ta, .int .i64 ea] 23)) (w.heap.size + 1) (by simp) #[.int .i64 cb, .bool nb, .string tb, .int .i64 eb] 23)
  have HB0 : Hid (Below w.heap.size w ((w.alloc (.cells #[.int .i64 0, .bool false, .string ta, .int .i64 ea] 23)).alloc (.cells #[.int .i64 cb, .bool nb, .string tb, .int .i64 eb] 23))) := (((Below.refl _ _).alloc (Nat.le_refl _) _).alloc (by simp <;> omega) _)
  go_enter Tryz.func6, Tryz.ntmps6
  go_wp2_with fail
  refine (H0.out _ (HT.out.below HB0.out)).mono ?_
  rintro e w1 ⟨rfl, hb⟩
  have Ba1 := Blk.on Ba0 hb
  have Bb1 := Blk.on Bb0 hb
  have HB1 := hide (HB0.out.trans (hb.mono HB0.out.size))
  clear hb Ba0 Bb0 HB0 
  obtain ⟨ya0, ya1, ya2, ya3⟩ := Ba1.out.four
  obtain ⟨yb0, yb1, yb2, yb3⟩ := Bb1.out.four
  have Ba2 := Blk.up Ba1 (.cells #[.int .i64 0, .bool false, .string tx, .int .i64 ex] 23)
  have Bb2 := Blk.up Bb1 (.cells #[.int .i64 0, .bool false, .string tx, .int .i64 ex] 23)
  have Bx2 := hide ((Blk.newAt w1 (w1.heap.size) (rfl) #[.int .i64 0, .bool false, .string tx, .int .i64 ex] 23))
  have HB2 : Hid (Below w.heap.size w (w1.alloc (.cells #[.int .i64 0, .bool false, .string tx, .int .i64 ex] 23))) := (HB1.out.alloc HB1.out.size _)
  clear Ba1 Bb1 HB1 ya0 ya1 ya2 ya3 yb0 yb1 yb2 yb3
  obtain ⟨ya0, ya1, ya2, ya3⟩ := Ba2.out.four
  obtain ⟨yb0, yb1, yb2, yb3⟩ := Bb2.out.four
  obtain ⟨yx0, yx1, yx2, yx3⟩ := Bx2.out.four
  go_wp2_with fail
  refine (rawake_any _ (HT.out.below HB2.out)).mono ?_
  rintro e w3 ⟨rfl, hb⟩
  have Ba3 := Blk.on Ba2 hb
  have Bb3 := Blk.on Bb2 hb
  have Bx3 := Blk.on Bx2 hb
  have HB3 := hide (HB2.out.trans (hb.mono HB2.out.size))
  clear hb Ba2 Bb2 Bx2 HB2 ya0 ya1 ya2 ya3 yb0 yb1 yb2 yb3 yx0 yx1 yx2 yx3
  obtain ⟨ya0, ya1, ya2, ya3⟩ := Ba3.out.four
  obtain ⟨yb0, yb1, yb2, yb3⟩ := Bb3.out.four
  obtain ⟨yx0, yx1, yx2, yx3⟩ := Bx3.out.four
  go_wp2_with fail
  refine (H1.out _ (HT.out.below HB3.out)).mono ?_
  rintro e w4 ⟨rfl, hb⟩
  have Ba4 := Blk.on Ba3 hb
  have Bb4 := Blk.on Bb3 hb
  have Bx4 := Blk.on Bx3 hb
  have HB4 := hide (HB3.out.trans (hb.mono HB3.out.size))
  clear hb Ba3 Bb3 Bx3 HB3 ya0 ya1 ya2 ya3 yb0 yb1 yb2 yb3 yx0 yx1 yx2 yx3
  obtain ⟨ya0, ya1, ya2, ya3⟩ := Ba4.out.four
  obtain ⟨yb0, yb1, yb2, yb3⟩ := Bb4.out.four
  obtain ⟨yx0, yx1, yx2, yx3⟩ := Bx4.out.four
  have Ba5 := Blk.up Ba4 (.cells #[.int .i64 0, .bool false, .string tx, .int .i64 ex] 23)
  have Bb5 := Blk.up Bb4 (.cells #[.int .i64 0, .bool false, .string tx, .int .i64 ex] 23)
  have Bx5 := Blk.up Bx4 (.cells #[.int .i64 0, .bool false, .string tx, .int .i64 ex] 23)
  have By5 := hide ((Blk.newAt w4 (w4.heap.size) (rfl) #[.int .i64 0, .bool false, .string tx, .int .i64 ex] 23))
  have HB5 : Hid (Below w.heap.size w (w4.alloc (.cells #[.int .i64 0, .bool false, .string tx, .int .i64 ex] 23))) := (HB4.out.alloc HB4.out.size _)
  clear Ba4 Bb4 Bx4 HB4 ya0 ya1 ya2 ya3 yb0 yb1 yb2 yb3 yx0 yx1 yx2 yx3
  obtain ⟨ya0, ya1, ya2, ya3⟩ := Ba5.out.four
  obtain ⟨yb0, yb1, yb2, yb3⟩ := Bb5.out.four
  obtain ⟨yx0, yx1, yx2, yx3⟩ := Bx5.out.four
  obtain ⟨yy0, yy1, yy2, yy3⟩ := By5.out.four
  go_wp2_with fail
  refine (H2.out _ (HT.out.below HB5.out)).mono ?_
  rintro e w6 ⟨rfl, hb⟩
  have Ba6 := Blk.on Ba5 hb
  have Bb6 := Blk.on Bb5 hb
  have Bx6 := Blk.on Bx5 hb
  have By6 := Blk.on By5 hb
  have HB6 := hide (HB5.out.trans (hb.mono HB5.out.size))
  clear hb Ba5 Bb5 Bx5 By5 HB5 ya0 ya1 ya2 ya3 yb0 yb1 yb2 yb3 yx0 yx1 yx2 yx3 yy0 yy1 yy2 yy3
  obtain ⟨ya0, ya1, ya2, ya3⟩ := Ba6.out.four
  obtain ⟨yb0, yb1, yb2, yb3⟩ := Bb6.out.four
  obtain ⟨yx0, yx1, yx2, yx3⟩ := Bx6.out.four
  obtain ⟨yy0, yy1, yy2, yy3⟩ := By6.out.four
  have Ba7 := Blk.up Ba6 (.cells #[.int .i64 cg, .bool ng, .string tg, .int .i64 eg] 23)
  have Bb7 := Blk.up Bb6 (.cells #[.int .i64 cg, .bool ng, .string tg, .int .i64 eg] 23)
  have Bx7 := Blk.up Bx6 (.cells #[.int .i64 cg, .bool ng, .string tg, .int .i64 eg] 23)
  have By7 := Blk.up By6 (.cells #[.int .i64 cg, .bool ng, .string tg, .int .i64 eg] 23)
  have Bg7 := hide ((Blk.newAt w6 (w6.heap.size) (rfl) #[.int .i64 cg, .bool ng, .string tg, .int .i64 eg] 23))
  have HB7 : Hid (Below w.heap.size w (w6.alloc (.cells #[.int .i64 cg, .bool ng, .string tg, .int .i64 eg] 23))) := (HB6.out.alloc HB6.out.size _)
  clear Ba6 Bb6 Bx6 By6 HB6 ya0 ya1 ya2 ya3 yb0 yb1 yb2 yb3 yx0 yx1 yx2 yx3 yy0 yy1 yy2 yy3
  obtain ⟨ya0, ya1, ya2, ya3⟩ := Ba7.out.four
  obtain ⟨yb0, yb1, yb2, yb3⟩ := Bb7.out.four
  obtain ⟨yx0, yx1, yx2, yx3⟩ := Bx7.out.four
  obtain ⟨yy0, yy1, yy2, yy3⟩ := By7.out.four
  obtain ⟨yg0, yg1, yg2, yg3⟩ := Bg7.out.four
  go_wp2_with fail
  refine (H3.out _ (HT.out.below HB7.out)).mono ?_
  rintro e w8 ⟨rfl, hb⟩
  have Ba8 := Blk.on Ba7 hb
  have Bb8 := Blk.on Bb7 hb
  have Bx8 := Blk.on Bx7 hb
  have By8 := Blk.on By7 hb
  have Bg8 := Blk.on Bg7 hb
  have HB8 := hide (HB7.out.trans (hb.mono HB7.out.size))
  clear hb Ba7 Bb7 Bx7 By7 Bg7 HB7 ya0 ya1 ya2 ya3 yb0 yb1 yb2 yb3 yx0 yx1 yx2 yx3 yy0 yy1 yy2 yy3 yg0 yg1 yg2 yg3
  obtain ⟨ya0, ya1, ya2, ya3⟩ := Ba8.out.four
  obtain ⟨yb0, yb1, yb2, yb3⟩ := Bb8.out.four
  obtain ⟨yx0, yx1, yx2, yx3⟩ := Bx8.out.four
  obtain ⟨yy0, yy1, yy2, yy3⟩ := By8.out.four
  obtain ⟨yg0, yg1, yg2, yg3⟩ := Bg8.out.four
  have Ba9 := Blk.up Ba8 (.cells #[.int .i64 ct, .bool nt, .string tt, .int .i64 et] 23)
  have Bb9 := Blk.up Bb8 (.cells #[.int .i64 ct, .bool nt, .string tt, .int .i64 et] 23)
  have Bx9 := Blk.up Bx8 (.cells #[.int .i64 ct, .bool nt, .string tt, .int .i64 et] 23)
  have By9 := Blk.up By8 (.cells #[.int .i64 ct, .bool nt, .string tt, .int .i64 et] 23)
  have Bg9 := Blk.up Bg8 (.cells #[.int .i64 ct, .bool nt, .string tt, .int .i64 et] 23)
  have Bt9 := hide ((Blk.newAt w8 (w8.heap.size) (rfl) #[.int .i64 ct, .bool nt, .string tt, .int .i64 et] 23))
  have HB9 : Hid (Below w.heap.size w (w8.alloc (.cells #[.int .i64 ct, .bool nt, .string tt, .int .i64 et] 23))) := (HB8.out.alloc HB8.out.size _)
  clear Ba8 Bb8 Bx8 By8 Bg8 HB8 ya0 ya1 ya2 ya3 yb0 yb1 yb2 yb3 yx0 yx1 yx2 yx3 yy0 yy1 yy2 yy3 yg0 yg1 yg2 yg3
  obtain ⟨ya0, ya1, ya2, ya3⟩ := Ba9.out.four
  obtain ⟨yb0, yb1, yb2, yb3⟩ := Bb9.out.four
  obtain ⟨yx0, yx1, yx2, yx3⟩ := Bx9.out.four
  obtain ⟨yy0, yy1, yy2, yy3⟩ := By9.out.four
  obtain ⟨yg0, yg1, yg2, yg3⟩ := Bg9.out.four
  obtain ⟨yt0, yt1, yt2, yt3⟩ := Bt9.out.four
  go_wp2_with fail
  refine (H4.out _).mono ?_
  rintro e w10 ⟨rfl, hb⟩
  have Ba10 := Blk.on Ba9 hb
  have Bb10 := Blk.on Bb9 hb
  have Bx10 := Blk.on Bx9 hb
  have By10 := Blk.on By9 hb
  have Bg10 := Blk.on Bg9 hb
  have Bt10 := Blk.on Bt9 hb
  have HB10 := hide (HB9.out.trans (hb.mono HB9.out.size))
  clear hb Ba9 Bb9 Bx9 By9 Bg9 Bt9 HB9 ya0 ya1 ya2 ya3 yb0 yb1 yb2 yb3 yx0 yx1 yx2 yx3 yy0 yy1 yy2 yy3 yg0 yg1 yg2 yg3 yt0 yt1 yt2 yt3
  obtain ⟨ya0, ya1, ya2, ya3⟩ := Ba10.out.four
  obtain ⟨yb0, yb1, yb2, yb3⟩ := Bb10.out.four
  obtain ⟨yx0, yx1, yx2, yx3⟩ := Bx10.out.four
  obtain ⟨yy0, yy1, yy2, yy3⟩ := By10.out.four
  obtain ⟨yg0, yg1, yg2, yg3⟩ := Bg10.out.four
  obtain ⟨yt0, yt1, yt2, yt3⟩ := Bt10.out.four
  have b0 : Hid (Below w10.heap.size w10 w10.drew) := bdrewD w10
  have C0 : Hid (∀ X, Hid (Below w10.heap.size w10 X) → Calls Tryz.prog 20 #[.agg #[.int .i64 0, .bool false, .string tx, .int .i64 ex], .agg #[.int .i64 0, .bool false, .string ta, .int .i64 ea]] X fun e w' => e = .returned (.bool false) ∧ Hid (Below w10.heap.size w10 w') ∧ w'.cell? ⟨w.heap.size, 0, none⟩ = some (.int .i64 0) ∧ w'.cell? ⟨w.heap.size, 1, none⟩ = some (.bool false) ∧ w'.cell? ⟨w.heap.size, 2, none⟩ = some (.string ta) ∧ w'.cell? ⟨w.heap.size, 3, none⟩ = some (.int .i64 ea) ∧ w'.cell? ⟨w1.heap.size, 0, none⟩ = some (.int .i64 0) ∧ w'.cell? ⟨w1.heap.size, 1, none⟩ = some (.bool false) ∧ w'.cell? ⟨w1.heap.size, 2, none⟩ = some (.string tx) ∧ w'.cell? ⟨w1.heap.size, 3, none⟩ = some (.int .i64 ex)) := by
    intro X bX
    refine (H5.out X).mono ?_
    rintro e w' ⟨rfl, hb⟩
    have bb := bX.out.trans (hb.mono bX.out.size)
    have Baq := Ba10.out.below bb Ba10.out.lt
    have Bxq := Bx10.out.below bb Bx10.out.lt
    exact ⟨rfl, bb, Baq.cell 0, Baq.cell 1, Baq.cell 2, Baq.cell 3, Bxq.cell 0, Bxq.cell 1, Bxq.cell 2, Bxq.cell 3⟩
  have C1 : Hid (∀ X, Hid (Below w10.heap.size w10 X) → Calls Tryz.prog 20 #[.agg #[.int .i64 0, .bool false, .string ta, .int .i64 ea], .agg #[.int .i64 0, .bool false, .string tx, .int .i64 ex]] X fun e w' => e = .returned (.bool bh) ∧ Hid (Below w10.heap.size w10 w') ∧ w'.cell? ⟨w.heap.size, 0, none⟩ = some (.int .i64 0) ∧ w'.cell? ⟨w.heap.size, 1, none⟩ = some (.bool false) ∧ w'.cell? ⟨w.heap.size, 2, none⟩ = some (.string ta) ∧ w'.cell? ⟨w.heap.size, 3, none⟩ = some (.int .i64 ea) ∧ w'.cell? ⟨w1.heap.size, 0, none⟩ = some (.int .i64 0) ∧ w'.cell? ⟨w1.heap.size, 1, none⟩ = some (.bool false) ∧ w'.cell? ⟨w1.heap.size, 2, none⟩ = some (.string tx) ∧ w'.cell? ⟨w1.heap.size, 3, none⟩ = some (.int .i64 ex)) := by
    intro X bX
    refine (H6.out X).mono ?_
    rintro e w' ⟨rfl, hb⟩
    have bb := bX.out.trans (hb.mono bX.out.size)
    have Baq := Ba10.out.below bb Ba10.out.lt
    have Bxq := Bx10.out.below bb Bx10.out.lt
    exact ⟨rfl, bb, Baq.cell 0, Baq.cell 1, Baq.cell 2, Baq.cell 3, Bxq.cell 0, Bxq.cell 1, Bxq.cell 2, Bxq.cell 3⟩
  go_wp2_with fail
  have mk0 : True := trivial
  go_region_held3 (fun w' => w'.cell? ⟨w.heap.size, 0, none⟩ = some (.int .i64 0) ∧ w'.cell? ⟨w.heap.size, 1, none⟩ = some (.bool false) ∧ w'.cell? ⟨w.heap.size, 2, none⟩ = some (.string ta) ∧ w'.cell? ⟨w.heap.size, 3, none⟩ = some (.int .i64 ea) ∧ w'.cell? ⟨w1.heap.size, 0, none⟩ = some (.int .i64 0) ∧ w'.cell? ⟨w1.heap.size, 1, none⟩ = some (.bool false) ∧ w'.cell? ⟨w1.heap.size, 2, none⟩ = some (.string tx) ∧ w'.cell? ⟨w1.heap.size, 3, none⟩ = some (.int .i64 ex)) (go_keep) (first
    | (clear mk0; go_at_call 20; refine (C0.out _ b0).mono ?_; rintro e w11 ⟨rfl, b1, q0_0, q0_1, q0_2, q0_3, q0_4, q0_5, q0_6, q0_7⟩; have mk1 : True := trivial)
    | (clear mk1; go_at_call 20; refine (C1.out _ b1).mono ?_; rintro e w12 ⟨rfl, b2, q1_0, q1_1, q1_2, q1_3, q1_4, q1_5, q1_6, q1_7⟩; have mk2 : True := trivial))
  have Ba12 := hide (Ba10.out.below b2.out Ba10.out.lt)
  have Bb12 := hide (Bb10.out.below b2.out Bb10.out.lt)
  have Bx12 := hide (Bx10.out.below b2.out Bx10.out.lt)
  have By12 := hide (By10.out.below b2.out By10.out.lt)
  have Bg12 := hide (Bg10.out.below b2.out Bg10.out.lt)
  have Bt12 := hide (Bt10.out.below b2.out Bt10.out.lt)
  have HB12 := hide (HB10.out.trans (b2.out.mono HB10.out.size))
  clear mk2 b0 b1 b2 C0 C1 q0_0 q0_1 q0_2 q0_3 q0_4 q0_5 q0_6 q0_7 q1_0 q1_1 q1_2 q1_3 q1_4 q1_5 q1_6 q1_7 Ba10 Bb10 Bx10 By10 Bg10 Bt10 HB10 ya0 ya1 ya2 ya3 yb0 yb1 yb2 yb3 yx0 yx1 yx2 yx3 yy0 yy1 yy2 yy3 yg0 yg1 yg2 yg3 yt0 yt1 yt2 yt3
  obtain ⟨ya0, ya1, ya2, ya3⟩ := Ba12.out.four
  obtain ⟨yb0, yb1, yb2, yb3⟩ := Bb12.out.four
  obtain ⟨yx0, yx1, yx2, yx3⟩ := Bx12.out.four
  obtain ⟨yy0, yy1, yy2, yy3⟩ := By12.out.four
  obtain ⟨yg0, yg1, yg2, yg3⟩ := Bg12.out.four
  obtain ⟨yt0, yt1, yt2, yt3⟩ := Bt12.out.four
  go_wp2
  go_ret
  exact ⟨rfl, HB12.out⟩

end Go.Proofs.YtcclbcnmkaobpaaGreatDoor

namespace Go.Proofs.YtcclbcnmkaobpaaGreatDoor
open Go.RowKit

set_option maxRecDepth 100000 in
set_option maxHeartbeats 4000000 in
theorem near_mz (na : Bool) (ta : ByteArray) (ea : Int) (cb : Int) (nb : Bool) (tb : ByteArray) (eb : Int) (tx : ByteArray) (ex : Int) (m : Int) (w : World) (htab : Tab w) (cg : Int) (ng : Bool) (tg : ByteArray) (eg : Int) (ct : Int) (nt : Bool) (tt : ByteArray) (et : Int) (bl : Bool) (bh : Bool) (m1 : 4 ≤ m) (g0 : ∀ W, Tab W → Calls Tryz.prog 16 #[.agg #[.int .i64 0, .bool na, .string ta, .int .i64 ea], dcV cb nb tb eb, .int .i64 m] W fun e w' => e = .returned (.tuple #[.agg #[.int .i64 0, .bool na, .string tx, .int .i64 ex], .int .i64 0]) ∧ Below W.heap.size W w') (g1 : ∀ W, Tab W → Calls Tryz.prog 16 #[.agg #[.int .i64 0, .bool na, .string tx, .int .i64 ex], dcV cb nb tb eb, .int .i64 m] W fun e w' => e = .returned (.tuple #[.agg #[.int .i64 0, .bool na, .string tx, .int .i64 ex], .int .i64 0]) ∧ Below W.heap.size W w') (g2 : ∀ W, Tab W → Calls Tryz.prog 18 #[.agg #[.int .i64 0, .bool na, .string tx, .int .i64 ex], .agg #[.int .i64 0, .bool na, .string ta, .int .i64 ea]] W fun e w' => e = .returned (.tuple #[.agg #[.int .i64 cg, .bool ng, .string tg, .int .i64 eg], .bool true]) ∧ Below W.heap.size W w') (g3 : ∀ W, Tab W → Calls Tryz.prog 19 #[.agg #[.int .i64 cg, .bool ng, .string tg, .int .i64 eg], .agg #[.int .i64 cg, .bool ng, .string tg, .int .i64 eg]] W fun e w' => e = .returned (.tuple #[.agg #[.int .i64 ct, .bool nt, .string tt, .int .i64 et], .int .i64 0]) ∧ Below W.heap.size W w') (g4 : ∀ W, Calls Tryz.prog 20 #[.agg #[.int .i64 cg, .bool ng, .string tg, .int .i64 eg], dcV cb nb tb eb] W fun e w' => e = .returned (.bool true) ∧ Below W.heap.size W w') (g5 : ∀ W, Calls Tryz.prog 20 #[dcV cb nb tb eb, .agg #[.int .i64 ct, .bool nt, .string tt, .int .i64 et]] W fun e w' => e = .returned (.bool false) ∧ Below W.heap.size W w') (g6 : ∀ W, Calls Tryz.prog 20 #[.agg #[.int .i64 0, .bool na, .string tx, .int .i64 ex], .agg #[.int .i64 0, .bool na, .string ta, .int .i64 ea]] W fun e w' => e = .returned (.bool bl) ∧ Below W.heap.size W w') (g7 : ∀ W, Calls Tryz.prog 20 #[.agg #[.int .i64 0, .bool na, .string ta, .int .i64 ea], .agg #[.int .i64 0, .bool na, .string tx, .int .i64 ex]] W fun e w' => e = .returned (.bool bh) ∧ Below W.heap.size W w') : Calls Tryz.prog 6 #[.agg #[.int .i64 0, .bool na, .string ta, .int .i64 ea], dcV cb nb tb eb, .int .i64 m] w fun e w' => e = .returned (.bool true) ∧ Below w.heap.size w w' := by
  have H0 := hide g0
  have H1 := hide g1
  have H2 := hide g2
  have H3 := hide g3
  have H4 := hide g4
  have H5 := hide g5
  have H6 := hide g6
  have H7 := hide g7
  have z0 : (m == 0) = false := beq_false_of_ne (by omega)
  have z1 : (m == 1) = false := beq_false_of_ne (by omega)
  have z2 : (m == 2) = false := beq_false_of_ne (by omega)
  have z3 : (m == 3) = false := beq_false_of_ne (by omega)
  have HT := hide htab
  clear htab g0 g1 g2 g3 g4 g5 g6 g7
  have Ba0 := hide ((Blk.newAt w (w.heap.size) (rfl) #[.int .i64 0, .bool na, .string ta, .int .i64 ea] 23).alloc (.cells #[.int .i64 cb, .bool nb, .string tb, .int .i64 eb] 23))
  have Bb0 := hide (Blk.newAt (w.alloc (.cells #[.int .i64 0, .bool na, .string ta, .int .i64 ea] 23)) (w.heap.size + 1) (by simp) #[.int .i64 cb, .bool nb, .string tb, .int .i64 eb] 23)
  have HB0 : Hid (Below w.heap.size w ((w.alloc (.cells #[.int .i64 0, .bool na, .string ta, .int .i64 ea] 23)).alloc (.cells #[.int .i64 cb, .bool nb, .string tb, .int .i64 eb] 23))) := (((Below.refl _ _).alloc (Nat.le_refl _) _).alloc (by simp <;> omega) _)
  go_enter Tryz.func6, Tryz.ntmps6
  go_wp2_with fail
  refine (H0.out _ (HT.out.below HB0.out)).mono ?_
  rintro e w1 ⟨rfl, hb⟩
  have Ba1 := Blk.on Ba0 hb
  have Bb1 := Blk.on Bb0 hb
  have HB1 := hide (HB0.out.trans (hb.mono HB0.out.size))
  clear hb Ba0 Bb0 HB0 
  obtain ⟨ya0, ya1, ya2, ya3⟩ := Ba1.out.four
  obtain ⟨yb0, yb1, yb2, yb3⟩ := Bb1.out.four
  have Ba2 := Blk.up Ba1 (.cells #[.int .i64 0, .bool na, .string tx, .int .i64 ex] 23)
  have Bb2 := Blk.up Bb1 (.cells #[.int .i64 0, .bool na, .string tx, .int .i64 ex] 23)
  have Bx2 := hide ((Blk.newAt w1 (w1.heap.size) (rfl) #[.int .i64 0, .bool na, .string tx, .int .i64 ex] 23))
  have HB2 : Hid (Below w.heap.size w (w1.alloc (.cells #[.int .i64 0, .bool na, .string tx, .int .i64 ex] 23))) := (HB1.out.alloc HB1.out.size _)
  clear Ba1 Bb1 HB1 ya0 ya1 ya2 ya3 yb0 yb1 yb2 yb3
  obtain ⟨ya0, ya1, ya2, ya3⟩ := Ba2.out.four
  obtain ⟨yb0, yb1, yb2, yb3⟩ := Bb2.out.four
  obtain ⟨yx0, yx1, yx2, yx3⟩ := Bx2.out.four
  go_wp2_with fail
  refine (rawake_any _ (HT.out.below HB2.out)).mono ?_
  rintro e w3 ⟨rfl, hb⟩
  have Ba3 := Blk.on Ba2 hb
  have Bb3 := Blk.on Bb2 hb
  have Bx3 := Blk.on Bx2 hb
  have HB3 := hide (HB2.out.trans (hb.mono HB2.out.size))
  clear hb Ba2 Bb2 Bx2 HB2 ya0 ya1 ya2 ya3 yb0 yb1 yb2 yb3 yx0 yx1 yx2 yx3
  obtain ⟨ya0, ya1, ya2, ya3⟩ := Ba3.out.four
  obtain ⟨yb0, yb1, yb2, yb3⟩ := Bb3.out.four
  obtain ⟨yx0, yx1, yx2, yx3⟩ := Bx3.out.four
  go_wp2_with fail
  refine (H1.out _ (HT.out.below HB3.out)).mono ?_
  rintro e w4 ⟨rfl, hb⟩
  have Ba4 := Blk.on Ba3 hb
  have Bb4 := Blk.on Bb3 hb
  have Bx4 := Blk.on Bx3 hb
  have HB4 := hide (HB3.out.trans (hb.mono HB3.out.size))
  clear hb Ba3 Bb3 Bx3 HB3 ya0 ya1 ya2 ya3 yb0 yb1 yb2 yb3 yx0 yx1 yx2 yx3
  obtain ⟨ya0, ya1, ya2, ya3⟩ := Ba4.out.four
  obtain ⟨yb0, yb1, yb2, yb3⟩ := Bb4.out.four
  obtain ⟨yx0, yx1, yx2, yx3⟩ := Bx4.out.four
  have Ba5 := Blk.up Ba4 (.cells #[.int .i64 0, .bool na, .string tx, .int .i64 ex] 23)
  have Bb5 := Blk.up Bb4 (.cells #[.int .i64 0, .bool na, .string tx, .int .i64 ex] 23)
  have Bx5 := Blk.up Bx4 (.cells #[.int .i64 0, .bool na, .string tx, .int .i64 ex] 23)
  have By5 := hide ((Blk.newAt w4 (w4.heap.size) (rfl) #[.int .i64 0, .bool na, .string tx, .int .i64 ex] 23))
  have HB5 : Hid (Below w.heap.size w (w4.alloc (.cells #[.int .i64 0, .bool na, .string tx, .int .i64 ex] 23))) := (HB4.out.alloc HB4.out.size _)
  clear Ba4 Bb4 Bx4 HB4 ya0 ya1 ya2 ya3 yb0 yb1 yb2 yb3 yx0 yx1 yx2 yx3
  obtain ⟨ya0, ya1, ya2, ya3⟩ := Ba5.out.four
  obtain ⟨yb0, yb1, yb2, yb3⟩ := Bb5.out.four
  obtain ⟨yx0, yx1, yx2, yx3⟩ := Bx5.out.four
  obtain ⟨yy0, yy1, yy2, yy3⟩ := By5.out.four
  go_wp2_with fail
  refine (H2.out _ (HT.out.below HB5.out)).mono ?_
  rintro e w6 ⟨rfl, hb⟩
  have Ba6 := Blk.on Ba5 hb
  have Bb6 := Blk.on Bb5 hb
  have Bx6 := Blk.on Bx5 hb
  have By6 := Blk.on By5 hb
  have HB6 := hide (HB5.out.trans (hb.mono HB5.out.size))
  clear hb Ba5 Bb5 Bx5 By5 HB5 ya0 ya1 ya2 ya3 yb0 yb1 yb2 yb3 yx0 yx1 yx2 yx3 yy0 yy1 yy2 yy3
  obtain ⟨ya0, ya1, ya2, ya3⟩ := Ba6.out.four
  obtain ⟨yb0, yb1, yb2, yb3⟩ := Bb6.out.four
  obtain ⟨yx0, yx1, yx2, yx3⟩ := Bx6.out.four
  obtain ⟨yy0, yy1, yy2, yy3⟩ := By6.out.four
  have Ba7 := Blk.up Ba6 (.cells #[.int .i64 cg, .bool ng, .string tg, .int .i64 eg] 23)
  have Bb7 := Blk.up Bb6 (.cells #[.int .i64 cg, .bool ng, .string tg, .int .i64 eg] 23)
  have Bx7 := Blk.up Bx6 (.cells #[.int .i64 cg, .bool ng, .string tg, .int .i64 eg] 23)
  have By7 := Blk.up By6 (.cells #[.int .i64 cg, .bool ng, .string tg, .int .i64 eg] 23)
  have Bg7 := hide ((Blk.newAt w6 (w6.heap.size) (rfl) #[.int .i64 cg, .bool ng, .string tg, .int .i64 eg] 23))
  have HB7 : Hid (Below w.heap.size w (w6.alloc (.cells #[.int .i64 cg, .bool ng, .string tg, .int .i64 eg] 23))) := (HB6.out.alloc HB6.out.size _)
  clear Ba6 Bb6 Bx6 By6 HB6 ya0 ya1 ya2 ya3 yb0 yb1 yb2 yb3 yx0 yx1 yx2 yx3 yy0 yy1 yy2 yy3
  obtain ⟨ya0, ya1, ya2, ya3⟩ := Ba7.out.four
  obtain ⟨yb0, yb1, yb2, yb3⟩ := Bb7.out.four
  obtain ⟨yx0, yx1, yx2, yx3⟩ := Bx7.out.four
  obtain ⟨yy0, yy1, yy2, yy3⟩ := By7.out.four
  obtain ⟨yg0, yg1, yg2, yg3⟩ := Bg7.out.four
  go_wp2_with fail
  refine (H3.out _ (HT.out.below HB7.out)).mono ?_
  rintro e w8 ⟨rfl, hb⟩
  have Ba8 := Blk.on Ba7 hb
  have Bb8 := Blk.on Bb7 hb
  have Bx8 := Blk.on Bx7 hb
  have By8 := Blk.on By7 hb
  have Bg8 := Blk.on Bg7 hb
  have HB8 := hide (HB7.out.trans (hb.mono HB7.out.size))
  clear hb Ba7 Bb7 Bx7 By7 Bg7 HB7 ya0 ya1 ya2 ya3 yb0 yb1 yb2 yb3 yx0 yx1 yx2 yx3 yy0 yy1 yy2 yy3 yg0 yg1 yg2 yg3
  obtain ⟨ya0, ya1, ya2, ya3⟩ := Ba8.out.four
  obtain ⟨yb0, yb1, yb2, yb3⟩ := Bb8.out.four
  obtain ⟨yx0, yx1, yx2, yx3⟩ := Bx8.out.four
  obtain ⟨yy0, yy1, yy2, yy3⟩ := By8.out.four
  obtain ⟨yg0, yg1, yg2, yg3⟩ := Bg8.out.four
  have Ba9 := Blk.up Ba8 (.cells #[.int .i64 ct, .bool nt, .string tt, .int .i64 et] 23)
  have Bb9 := Blk.up Bb8 (.cells #[.int .i64 ct, .bool nt, .string tt, .int .i64 et] 23)
  have Bx9 := Blk.up Bx8 (.cells #[.int .i64 ct, .bool nt, .string tt, .int .i64 et] 23)
  have By9 := Blk.up By8 (.cells #[.int .i64 ct, .bool nt, .string tt, .int .i64 et] 23)
  have Bg9 := Blk.up Bg8 (.cells #[.int .i64 ct, .bool nt, .string tt, .int .i64 et] 23)
  have Bt9 := hide ((Blk.newAt w8 (w8.heap.size) (rfl) #[.int .i64 ct, .bool nt, .string tt, .int .i64 et] 23))
  have HB9 : Hid (Below w.heap.size w (w8.alloc (.cells #[.int .i64 ct, .bool nt, .string tt, .int .i64 et] 23))) := (HB8.out.alloc HB8.out.size _)
  clear Ba8 Bb8 Bx8 By8 Bg8 HB8 ya0 ya1 ya2 ya3 yb0 yb1 yb2 yb3 yx0 yx1 yx2 yx3 yy0 yy1 yy2 yy3 yg0 yg1 yg2 yg3
  obtain ⟨ya0, ya1, ya2, ya3⟩ := Ba9.out.four
  obtain ⟨yb0, yb1, yb2, yb3⟩ := Bb9.out.four
  obtain ⟨yx0, yx1, yx2, yx3⟩ := Bx9.out.four
  obtain ⟨yy0, yy1, yy2, yy3⟩ := By9.out.four
  obtain ⟨yg0, yg1, yg2, yg3⟩ := Bg9.out.four
  obtain ⟨yt0, yt1, yt2, yt3⟩ := Bt9.out.four
  go_wp2_with fail
  refine (H4.out _).mono ?_
  rintro e w10 ⟨rfl, hb⟩
  have Ba10 := Blk.on Ba9 hb
  have Bb10 := Blk.on Bb9 hb
  have Bx10 := Blk.on Bx9 hb
  have By10 := Blk.on By9 hb
  have Bg10 := Blk.on Bg9 hb
  have Bt10 := Blk.on Bt9 hb
  have HB10 := hide (HB9.out.trans (hb.mono HB9.out.size))
  clear hb Ba9 Bb9 Bx9 By9 Bg9 Bt9 HB9 ya0 ya1 ya2 ya3 yb0 yb1 yb2 yb3 yx0 yx1 yx2 yx3 yy0 yy1 yy2 yy3 yg0 yg1 yg2 yg3 yt0 yt1 yt2 yt3
  obtain ⟨ya0, ya1, ya2, ya3⟩ := Ba10.out.four
  obtain ⟨yb0, yb1, yb2, yb3⟩ := Bb10.out.four
  obtain ⟨yx0, yx1, yx2, yx3⟩ := Bx10.out.four
  obtain ⟨yy0, yy1, yy2, yy3⟩ := By10.out.four
  obtain ⟨yg0, yg1, yg2, yg3⟩ := Bg10.out.four
  obtain ⟨yt0, yt1, yt2, yt3⟩ := Bt10.out.four
  go_wp2_with fail
  refine (H5.out _).mono ?_
  rintro e w11 ⟨rfl, hb⟩
  have Ba11 := Blk.on Ba10 hb
  have Bb11 := Blk.on Bb10 hb
  have Bx11 := Blk.on Bx10 hb
  have By11 := Blk.on By10 hb
  have Bg11 := Blk.on Bg10 hb
  have Bt11 := Blk.on Bt10 hb
  have HB11 := hide (HB10.out.trans (hb.mono HB10.out.size))
  clear hb Ba10 Bb10 Bx10 By10 Bg10 Bt10 HB10 ya0 ya1 ya2 ya3 yb0 yb1 yb2 yb3 yx0 yx1 yx2 yx3 yy0 yy1 yy2 yy3 yg0 yg1 yg2 yg3 yt0 yt1 yt2 yt3
  obtain ⟨ya0, ya1, ya2, ya3⟩ := Ba11.out.four
  obtain ⟨yb0, yb1, yb2, yb3⟩ := Bb11.out.four
  obtain ⟨yx0, yx1, yx2, yx3⟩ := Bx11.out.four
  obtain ⟨yy0, yy1, yy2, yy3⟩ := By11.out.four
  obtain ⟨yg0, yg1, yg2, yg3⟩ := Bg11.out.four
  obtain ⟨yt0, yt1, yt2, yt3⟩ := Bt11.out.four
  have b0 : Hid (Below w11.heap.size w11 w11.drew) := bdrewD w11
  have C0 : Hid (∀ X, Hid (Below w11.heap.size w11 X) → Calls Tryz.prog 20 #[.agg #[.int .i64 0, .bool na, .string tx, .int .i64 ex], .agg #[.int .i64 0, .bool na, .string ta, .int .i64 ea]] X fun e w' => e = .returned (.bool bl) ∧ Hid (Below w11.heap.size w11 w') ∧ w'.cell? ⟨w.heap.size, 0, none⟩ = some (.int .i64 0) ∧ w'.cell? ⟨w.heap.size, 1, none⟩ = some (.bool na) ∧ w'.cell? ⟨w.heap.size, 2, none⟩ = some (.string ta) ∧ w'.cell? ⟨w.heap.size, 3, none⟩ = some (.int .i64 ea) ∧ w'.cell? ⟨w1.heap.size, 0, none⟩ = some (.int .i64 0) ∧ w'.cell? ⟨w1.heap.size, 1, none⟩ = some (.bool na) ∧ w'.cell? ⟨w1.heap.size, 2, none⟩ = some (.string tx) ∧ w'.cell? ⟨w1.heap.size, 3, none⟩ = some (.int .i64 ex)) := by
    intro X bX
    refine (H6.out X).mono ?_
    rintro e w' ⟨rfl, hb⟩
    have bb := bX.out.trans (hb.mono bX.out.size)
    have Baq := Ba11.out.below bb Ba11.out.lt
    have Bxq := Bx11.out.below bb Bx11.out.lt
    exact ⟨rfl, bb, Baq.cell 0, Baq.cell 1, Baq.cell 2, Baq.cell 3, Bxq.cell 0, Bxq.cell 1, Bxq.cell 2, Bxq.cell 3⟩
  have C1 : Hid (∀ X, Hid (Below w11.heap.size w11 X) → Calls Tryz.prog 20 #[.agg #[.int .i64 0, .bool na, .string ta, .int .i64 ea], .agg #[.int .i64 0, .bool na, .string tx, .int .i64 ex]] X fun e w' => e = .returned (.bool bh) ∧ Hid (Below w11.heap.size w11 w') ∧ w'.cell? ⟨w.heap.size, 0, none⟩ = some (.int .i64 0) ∧ w'.cell? ⟨w.heap.size, 1, none⟩ = some (.bool na) ∧ w'.cell? ⟨w.heap.size, 2, none⟩ = some (.string ta) ∧ w'.cell? ⟨w.heap.size, 3, none⟩ = some (.int .i64 ea) ∧ w'.cell? ⟨w1.heap.size, 0, none⟩ = some (.int .i64 0) ∧ w'.cell? ⟨w1.heap.size, 1, none⟩ = some (.bool na) ∧ w'.cell? ⟨w1.heap.size, 2, none⟩ = some (.string tx) ∧ w'.cell? ⟨w1.heap.size, 3, none⟩ = some (.int .i64 ex)) := by
    intro X bX
    refine (H7.out X).mono ?_
    rintro e w' ⟨rfl, hb⟩
    have bb := bX.out.trans (hb.mono bX.out.size)
    have Baq := Ba11.out.below bb Ba11.out.lt
    have Bxq := Bx11.out.below bb Bx11.out.lt
    exact ⟨rfl, bb, Baq.cell 0, Baq.cell 1, Baq.cell 2, Baq.cell 3, Bxq.cell 0, Bxq.cell 1, Bxq.cell 2, Bxq.cell 3⟩
  go_wp2_with fail
  have mk0 : True := trivial
  go_region_held3 (fun w' => w'.cell? ⟨w.heap.size, 0, none⟩ = some (.int .i64 0) ∧ w'.cell? ⟨w.heap.size, 1, none⟩ = some (.bool na) ∧ w'.cell? ⟨w.heap.size, 2, none⟩ = some (.string ta) ∧ w'.cell? ⟨w.heap.size, 3, none⟩ = some (.int .i64 ea) ∧ w'.cell? ⟨w1.heap.size, 0, none⟩ = some (.int .i64 0) ∧ w'.cell? ⟨w1.heap.size, 1, none⟩ = some (.bool na) ∧ w'.cell? ⟨w1.heap.size, 2, none⟩ = some (.string tx) ∧ w'.cell? ⟨w1.heap.size, 3, none⟩ = some (.int .i64 ex)) (go_keep) (first
    | (clear mk0; go_at_call 20; refine (C0.out _ b0).mono ?_; rintro e w12 ⟨rfl, b1, q0_0, q0_1, q0_2, q0_3, q0_4, q0_5, q0_6, q0_7⟩; have mk1 : True := trivial)
    | (clear mk1; go_at_call 20; refine (C1.out _ b1).mono ?_; rintro e w13 ⟨rfl, b2, q1_0, q1_1, q1_2, q1_3, q1_4, q1_5, q1_6, q1_7⟩; have mk2 : True := trivial))
  have Ba13 := hide (Ba11.out.below b2.out Ba11.out.lt)
  have Bb13 := hide (Bb11.out.below b2.out Bb11.out.lt)
  have Bx13 := hide (Bx11.out.below b2.out Bx11.out.lt)
  have By13 := hide (By11.out.below b2.out By11.out.lt)
  have Bg13 := hide (Bg11.out.below b2.out Bg11.out.lt)
  have Bt13 := hide (Bt11.out.below b2.out Bt11.out.lt)
  have HB13 := hide (HB11.out.trans (b2.out.mono HB11.out.size))
  clear mk2 b0 b1 b2 C0 C1 q0_0 q0_1 q0_2 q0_3 q0_4 q0_5 q0_6 q0_7 q1_0 q1_1 q1_2 q1_3 q1_4 q1_5 q1_6 q1_7 Ba11 Bb11 Bx11 By11 Bg11 Bt11 HB11 ya0 ya1 ya2 ya3 yb0 yb1 yb2 yb3 yx0 yx1 yx2 yx3 yy0 yy1 yy2 yy3 yg0 yg1 yg2 yg3 yt0 yt1 yt2 yt3
  obtain ⟨ya0, ya1, ya2, ya3⟩ := Ba13.out.four
  obtain ⟨yb0, yb1, yb2, yb3⟩ := Bb13.out.four
  obtain ⟨yx0, yx1, yx2, yx3⟩ := Bx13.out.four
  obtain ⟨yy0, yy1, yy2, yy3⟩ := By13.out.four
  obtain ⟨yg0, yg1, yg2, yg3⟩ := Bg13.out.four
  obtain ⟨yt0, yt1, yt2, yt3⟩ := Bt13.out.four
  go_wp2
  go_ret
  exact ⟨rfl, HB13.out⟩


set_option maxRecDepth 100000 in
set_option maxHeartbeats 4000000 in
theorem near_0r (na : Bool) (ta : ByteArray) (ea : Int) (cb : Int) (nb : Bool) (tb : ByteArray) (eb : Int) (tx : ByteArray) (ex : Int) (w : World) (htab : Tab w) (cg : Int) (ng : Bool) (tg : ByteArray) (eg : Int) (ct : Int) (nt : Bool) (tt : ByteArray) (et : Int) (rg : Int) (hg : ¬ rg = 0) (bh : Bool) (g0 : ∀ W, Tab W → Calls Tryz.prog 16 #[.agg #[.int .i64 0, .bool na, .string ta, .int .i64 ea], dcV cb nb tb eb, .int .i64 0] W fun e w' => e = .returned (.tuple #[.agg #[.int .i64 0, .bool na, .string tx, .int .i64 ex], .int .i64 0]) ∧ Below W.heap.size W w') (g1 : ∀ W, Tab W → Calls Tryz.prog 16 #[.agg #[.int .i64 0, .bool na, .string tx, .int .i64 ex], dcV cb nb tb eb, .int .i64 0] W fun e w' => e = .returned (.tuple #[.agg #[.int .i64 0, .bool na, .string tx, .int .i64 ex], .int .i64 0]) ∧ Below W.heap.size W w') (g2 : ∀ W, Tab W → Calls Tryz.prog 18 #[.agg #[.int .i64 0, .bool na, .string tx, .int .i64 ex], .agg #[.int .i64 0, .bool na, .string ta, .int .i64 ea]] W fun e w' => e = .returned (.tuple #[.agg #[.int .i64 cg, .bool ng, .string tg, .int .i64 eg], .bool true]) ∧ Below W.heap.size W w') (g3 : ∀ W, Tab W → Calls Tryz.prog 19 #[.agg #[.int .i64 cg, .bool ng, .string tg, .int .i64 eg], .agg #[.int .i64 cg, .bool ng, .string tg, .int .i64 eg]] W fun e w' => e = .returned (.tuple #[.agg #[.int .i64 ct, .bool nt, .string tt, .int .i64 et], .int .i64 rg]) ∧ Below W.heap.size W w') (g4 : ∀ W, Calls Tryz.prog 20 #[.agg #[.int .i64 cg, .bool ng, .string tg, .int .i64 eg], dcV cb nb tb eb] W fun e w' => e = .returned (.bool true) ∧ Below W.heap.size W w') (g5 : ∀ W, Calls Tryz.prog 20 #[.agg #[.int .i64 0, .bool na, .string tx, .int .i64 ex], .agg #[.int .i64 0, .bool na, .string ta, .int .i64 ea]] W fun e w' => e = .returned (.bool false) ∧ Below W.heap.size W w') (g6 : ∀ W, Calls Tryz.prog 20 #[.agg #[.int .i64 0, .bool na, .string ta, .int .i64 ea], .agg #[.int .i64 0, .bool na, .string tx, .int .i64 ex]] W fun e w' => e = .returned (.bool bh) ∧ Below W.heap.size W w') : Calls Tryz.prog 6 #[.agg #[.int .i64 0, .bool na, .string ta, .int .i64 ea], dcV cb nb tb eb, .int .i64 0] w fun e w' => e = .returned (.bool true) ∧ Below w.heap.size w w' := by
  have H0 := hide g0
  have H1 := hide g1
  have H2 := hide g2
  have H3 := hide g3
  have H4 := hide g4
  have H5 := hide g5
  have H6 := hide g6
  have q1 : (rg == 0) = false := by simpa using hg
  clear hg
  have HT := hide htab
  clear htab g0 g1 g2 g3 g4 g5 g6
  have Ba0 := hide ((Blk.newAt w (w.heap.size) (rfl) #[.int .i64 0, .bool na, .string ta, .int .i64 ea] 23).alloc (.cells #[.int .i64 cb, .bool nb, .string tb, .int .i64 eb] 23))
  have Bb0 := hide (Blk.newAt (w.alloc (.cells #[.int .i64 0, .bool na, .string ta, .int .i64 ea] 23)) (w.heap.size + 1) (by simp) #[.int .i64 cb, .bool nb, .string tb, .int .i64 eb] 23)
  have HB0 : Hid (Below w.heap.size w ((w.alloc (.cells #[.int .i64 0, .bool na, .string ta, .int .i64 ea] 23)).alloc (.cells #[.int .i64 cb, .bool nb, .string tb, .int .i64 eb] 23))) := (((Below.refl _ _).alloc (Nat.le_refl _) _).alloc (by simp <;> omega) _)
  go_enter Tryz.func6, Tryz.ntmps6
  go_wp2_with fail
  refine (H0.out _ (HT.out.below HB0.out)).mono ?_
  rintro e w1 ⟨rfl, hb⟩
  have Ba1 := Blk.on Ba0 hb
  have Bb1 := Blk.on Bb0 hb
  have HB1 := hide (HB0.out.trans (hb.mono HB0.out.size))
  clear hb Ba0 Bb0 HB0 
  obtain ⟨ya0, ya1, ya2, ya3⟩ := Ba1.out.four
  obtain ⟨yb0, yb1, yb2, yb3⟩ := Bb1.out.four
  have Ba2 := Blk.up Ba1 (.cells #[.int .i64 0, .bool na, .string tx, .int .i64 ex] 23)
  have Bb2 := Blk.up Bb1 (.cells #[.int .i64 0, .bool na, .string tx, .int .i64 ex] 23)
  have Bx2 := hide ((Blk.newAt w1 (w1.heap.size) (rfl) #[.int .i64 0, .bool na, .string tx, .int .i64 ex] 23))
  have HB2 : Hid (Below w.heap.size w (w1.alloc (.cells #[.int .i64 0, .bool na, .string tx, .int .i64 ex] 23))) := (HB1.out.alloc HB1.out.size _)
  clear Ba1 Bb1 HB1 ya0 ya1 ya2 ya3 yb0 yb1 yb2 yb3
  obtain ⟨ya0, ya1, ya2, ya3⟩ := Ba2.out.four
  obtain ⟨yb0, yb1, yb2, yb3⟩ := Bb2.out.four
  obtain ⟨yx0, yx1, yx2, yx3⟩ := Bx2.out.four
  go_wp2_with fail
  refine (rawake_any _ (HT.out.below HB2.out)).mono ?_
  rintro e w3 ⟨rfl, hb⟩
  have Ba3 := Blk.on Ba2 hb
  have Bb3 := Blk.on Bb2 hb
  have Bx3 := Blk.on Bx2 hb
  have HB3 := hide (HB2.out.trans (hb.mono HB2.out.size))
  clear hb Ba2 Bb2 Bx2 HB2 ya0 ya1 ya2 ya3 yb0 yb1 yb2 yb3 yx0 yx1 yx2 yx3
  obtain ⟨ya0, ya1, ya2, ya3⟩ := Ba3.out.four
  obtain ⟨yb0, yb1, yb2, yb3⟩ := Bb3.out.four
  obtain ⟨yx0, yx1, yx2, yx3⟩ := Bx3.out.four
  go_wp2_with fail
  refine (H1.out _ (HT.out.below HB3.out)).mono ?_
  rintro e w4 ⟨rfl, hb⟩
  have Ba4 := Blk.on Ba3 hb
  have Bb4 := Blk.on Bb3 hb
  have Bx4 := Blk.on Bx3 hb
  have HB4 := hide (HB3.out.trans (hb.mono HB3.out.size))
  clear hb Ba3 Bb3 Bx3 HB3 ya0 ya1 ya2 ya3 yb0 yb1 yb2 yb3 yx0 yx1 yx2 yx3
  obtain ⟨ya0, ya1, ya2, ya3⟩ := Ba4.out.four
  obtain ⟨yb0, yb1, yb2, yb3⟩ := Bb4.out.four
  obtain ⟨yx0, yx1, yx2, yx3⟩ := Bx4.out.four
  have Ba5 := Blk.up Ba4 (.cells #[.int .i64 0, .bool na, .string tx, .int .i64 ex] 23)
  have Bb5 := Blk.up Bb4 (.cells #[.int .i64 0, .bool na, .string tx, .int .i64 ex] 23)
  have Bx5 := Blk.up Bx4 (.cells #[.int .i64 0, .bool na, .string tx, .int .i64 ex] 23)
  have By5 := hide ((Blk.newAt w4 (w4.heap.size) (rfl) #[.int .i64 0, .bool na, .string tx, .int .i64 ex] 23))
  have HB5 : Hid (Below w.heap.size w (w4.alloc (.cells #[.int .i64 0, .bool na, .string tx, .int .i64 ex] 23))) := (HB4.out.alloc HB4.out.size _)
  clear Ba4 Bb4 Bx4 HB4 ya0 ya1 ya2 ya3 yb0 yb1 yb2 yb3 yx0 yx1 yx2 yx3
  obtain ⟨ya0, ya1, ya2, ya3⟩ := Ba5.out.four
  obtain ⟨yb0, yb1, yb2, yb3⟩ := Bb5.out.four
  obtain ⟨yx0, yx1, yx2, yx3⟩ := Bx5.out.four
  obtain ⟨yy0, yy1, yy2, yy3⟩ := By5.out.four
  go_wp2_with fail
  refine (H2.out _ (HT.out.below HB5.out)).mono ?_
  rintro e w6 ⟨rfl, hb⟩
  have Ba6 := Blk.on Ba5 hb
  have Bb6 := Blk.on Bb5 hb
  have Bx6 := Blk.on Bx5 hb
  have By6 := Blk.on By5 hb
  have HB6 := hide (HB5.out.trans (hb.mono HB5.out.size))
  clear hb Ba5 Bb5 Bx5 By5 HB5 ya0 ya1 ya2 ya3 yb0 yb1 yb2 yb3 yx0 yx1 yx2 yx3 yy0 yy1 yy2 yy3
  obtain ⟨ya0, ya1, ya2, ya3⟩ := Ba6.out.four
  obtain ⟨yb0, yb1, yb2, yb3⟩ := Bb6.out.four
  obtain ⟨yx0, yx1, yx2, yx3⟩ := Bx6.out.four
  obtain ⟨yy0, yy1, yy2, yy3⟩ := By6.out.four
  have Ba7 := Blk.up Ba6 (.cells #[.int .i64 cg, .bool ng, .string tg, .int .i64 eg] 23)
  have Bb7 := Blk.up Bb6 (.cells #[.int .i64 cg, .bool ng, .string tg, .int .i64 eg] 23)
  have Bx7 := Blk.up Bx6 (.cells #[.int .i64 cg, .bool ng, .string tg, .int .i64 eg] 23)
  have By7 := Blk.up By6 (.cells #[.int .i64 cg, .bool ng, .string tg, .int .i64 eg] 23)
  have Bg7 := hide ((Blk.newAt w6 (w6.heap.size) (rfl) #[.int .i64 cg, .bool ng, .string tg, .int .i64 eg] 23))
  have HB7 : Hid (Below w.heap.size w (w6.alloc (.cells #[.int .i64 cg, .bool ng, .string tg, .int .i64 eg] 23))) := (HB6.out.alloc HB6.out.size _)
  clear Ba6 Bb6 Bx6 By6 HB6 ya0 ya1 ya2 ya3 yb0 yb1 yb2 yb3 yx0 yx1 yx2 yx3 yy0 yy1 yy2 yy3
  obtain ⟨ya0, ya1, ya2, ya3⟩ := Ba7.out.four
  obtain ⟨yb0, yb1, yb2, yb3⟩ := Bb7.out.four
  obtain ⟨yx0, yx1, yx2, yx3⟩ := Bx7.out.four
  obtain ⟨yy0, yy1, yy2, yy3⟩ := By7.out.four
  obtain ⟨yg0, yg1, yg2, yg3⟩ := Bg7.out.four
  go_wp2_with fail
  refine (H3.out _ (HT.out.below HB7.out)).mono ?_
  rintro e w8 ⟨rfl, hb⟩
  have Ba8 := Blk.on Ba7 hb
  have Bb8 := Blk.on Bb7 hb
  have Bx8 := Blk.on Bx7 hb
  have By8 := Blk.on By7 hb
  have Bg8 := Blk.on Bg7 hb
  have HB8 := hide (HB7.out.trans (hb.mono HB7.out.size))
  clear hb Ba7 Bb7 Bx7 By7 Bg7 HB7 ya0 ya1 ya2 ya3 yb0 yb1 yb2 yb3 yx0 yx1 yx2 yx3 yy0 yy1 yy2 yy3 yg0 yg1 yg2 yg3
  obtain ⟨ya0, ya1, ya2, ya3⟩ := Ba8.out.four
  obtain ⟨yb0, yb1, yb2, yb3⟩ := Bb8.out.four
  obtain ⟨yx0, yx1, yx2, yx3⟩ := Bx8.out.four
  obtain ⟨yy0, yy1, yy2, yy3⟩ := By8.out.four
  obtain ⟨yg0, yg1, yg2, yg3⟩ := Bg8.out.four
  have Ba9 := Blk.up Ba8 (.cells #[.int .i64 ct, .bool nt, .string tt, .int .i64 et] 23)
  have Bb9 := Blk.up Bb8 (.cells #[.int .i64 ct, .bool nt, .string tt, .int .i64 et] 23)
  have Bx9 := Blk.up Bx8 (.cells #[.int .i64 ct, .bool nt, .string tt, .int .i64 et] 23)
  have By9 := Blk.up By8 (.cells #[.int .i64 ct, .bool nt, .string tt, .int .i64 et] 23)
  have Bg9 := Blk.up Bg8 (.cells #[.int .i64 ct, .bool nt, .string tt, .int .i64 et] 23)
  have Bt9 := hide ((Blk.newAt w8 (w8.heap.size) (rfl) #[.int .i64 ct, .bool nt, .string tt, .int .i64 et] 23))
  have HB9 : Hid (Below w.heap.size w (w8.alloc (.cells #[.int .i64 ct, .bool nt, .string tt, .int .i64 et] 23))) := (HB8.out.alloc HB8.out.size _)
  clear Ba8 Bb8 Bx8 By8 Bg8 HB8 ya0 ya1 ya2 ya3 yb0 yb1 yb2 yb3 yx0 yx1 yx2 yx3 yy0 yy1 yy2 yy3 yg0 yg1 yg2 yg3
  obtain ⟨ya0, ya1, ya2, ya3⟩ := Ba9.out.four
  obtain ⟨yb0, yb1, yb2, yb3⟩ := Bb9.out.four
  obtain ⟨yx0, yx1, yx2, yx3⟩ := Bx9.out.four
  obtain ⟨yy0, yy1, yy2, yy3⟩ := By9.out.four
  obtain ⟨yg0, yg1, yg2, yg3⟩ := Bg9.out.four
  obtain ⟨yt0, yt1, yt2, yt3⟩ := Bt9.out.four
  go_wp2_with fail
  refine (H4.out _).mono ?_
  rintro e w10 ⟨rfl, hb⟩
  have Ba10 := Blk.on Ba9 hb
  have Bb10 := Blk.on Bb9 hb
  have Bx10 := Blk.on Bx9 hb
  have By10 := Blk.on By9 hb
  have Bg10 := Blk.on Bg9 hb
  have Bt10 := Blk.on Bt9 hb
  have HB10 := hide (HB9.out.trans (hb.mono HB9.out.size))
  clear hb Ba9 Bb9 Bx9 By9 Bg9 Bt9 HB9 ya0 ya1 ya2 ya3 yb0 yb1 yb2 yb3 yx0 yx1 yx2 yx3 yy0 yy1 yy2 yy3 yg0 yg1 yg2 yg3 yt0 yt1 yt2 yt3
  obtain ⟨ya0, ya1, ya2, ya3⟩ := Ba10.out.four
  obtain ⟨yb0, yb1, yb2, yb3⟩ := Bb10.out.four
  obtain ⟨yx0, yx1, yx2, yx3⟩ := Bx10.out.four
  obtain ⟨yy0, yy1, yy2, yy3⟩ := By10.out.four
  obtain ⟨yg0, yg1, yg2, yg3⟩ := Bg10.out.four
  obtain ⟨yt0, yt1, yt2, yt3⟩ := Bt10.out.four
  have b0 : Hid (Below w10.heap.size w10 w10.drew) := bdrewD w10
  have C0 : Hid (∀ X, Hid (Below w10.heap.size w10 X) → Calls Tryz.prog 20 #[.agg #[.int .i64 0, .bool na, .string tx, .int .i64 ex], .agg #[.int .i64 0, .bool na, .string ta, .int .i64 ea]] X fun e w' => e = .returned (.bool false) ∧ Hid (Below w10.heap.size w10 w') ∧ w'.cell? ⟨w.heap.size, 0, none⟩ = some (.int .i64 0) ∧ w'.cell? ⟨w.heap.size, 1, none⟩ = some (.bool na) ∧ w'.cell? ⟨w.heap.size, 2, none⟩ = some (.string ta) ∧ w'.cell? ⟨w.heap.size, 3, none⟩ = some (.int .i64 ea) ∧ w'.cell? ⟨w1.heap.size, 0, none⟩ = some (.int .i64 0) ∧ w'.cell? ⟨w1.heap.size, 1, none⟩ = some (.bool na) ∧ w'.cell? ⟨w1.heap.size, 2, none⟩ = some (.string tx) ∧ w'.cell? ⟨w1.heap.size, 3, none⟩ = some (.int .i64 ex)) := by
    intro X bX
    refine (H5.out X).mono ?_
    rintro e w' ⟨rfl, hb⟩
    have bb := bX.out.trans (hb.mono bX.out.size)
    have Baq := Ba10.out.below bb Ba10.out.lt
    have Bxq := Bx10.out.below bb Bx10.out.lt
    exact ⟨rfl, bb, Baq.cell 0, Baq.cell 1, Baq.cell 2, Baq.cell 3, Bxq.cell 0, Bxq.cell 1, Bxq.cell 2, Bxq.cell 3⟩
  have C1 : Hid (∀ X, Hid (Below w10.heap.size w10 X) → Calls Tryz.prog 20 #[.agg #[.int .i64 0, .bool na, .string ta, .int .i64 ea], .agg #[.int .i64 0, .bool na, .string tx, .int .i64 ex]] X fun e w' => e = .returned (.bool bh) ∧ Hid (Below w10.heap.size w10 w') ∧ w'.cell? ⟨w.heap.size, 0, none⟩ = some (.int .i64 0) ∧ w'.cell? ⟨w.heap.size, 1, none⟩ = some (.bool na) ∧ w'.cell? ⟨w.heap.size, 2, none⟩ = some (.string ta) ∧ w'.cell? ⟨w.heap.size, 3, none⟩ = some (.int .i64 ea) ∧ w'.cell? ⟨w1.heap.size, 0, none⟩ = some (.int .i64 0) ∧ w'.cell? ⟨w1.heap.size, 1, none⟩ = some (.bool na) ∧ w'.cell? ⟨w1.heap.size, 2, none⟩ = some (.string tx) ∧ w'.cell? ⟨w1.heap.size, 3, none⟩ = some (.int .i64 ex)) := by
    intro X bX
    refine (H6.out X).mono ?_
    rintro e w' ⟨rfl, hb⟩
    have bb := bX.out.trans (hb.mono bX.out.size)
    have Baq := Ba10.out.below bb Ba10.out.lt
    have Bxq := Bx10.out.below bb Bx10.out.lt
    exact ⟨rfl, bb, Baq.cell 0, Baq.cell 1, Baq.cell 2, Baq.cell 3, Bxq.cell 0, Bxq.cell 1, Bxq.cell 2, Bxq.cell 3⟩
  go_wp2_with fail
  have mk0 : True := trivial
  go_region_held3 (fun w' => w'.cell? ⟨w.heap.size, 0, none⟩ = some (.int .i64 0) ∧ w'.cell? ⟨w.heap.size, 1, none⟩ = some (.bool na) ∧ w'.cell? ⟨w.heap.size, 2, none⟩ = some (.string ta) ∧ w'.cell? ⟨w.heap.size, 3, none⟩ = some (.int .i64 ea) ∧ w'.cell? ⟨w1.heap.size, 0, none⟩ = some (.int .i64 0) ∧ w'.cell? ⟨w1.heap.size, 1, none⟩ = some (.bool na) ∧ w'.cell? ⟨w1.heap.size, 2, none⟩ = some (.string tx) ∧ w'.cell? ⟨w1.heap.size, 3, none⟩ = some (.int .i64 ex)) (go_keep) (first
    | (clear mk0; go_at_call 20; refine (C0.out _ b0).mono ?_; rintro e w11 ⟨rfl, b1, q0_0, q0_1, q0_2, q0_3, q0_4, q0_5, q0_6, q0_7⟩; have mk1 : True := trivial)
    | (clear mk1; go_at_call 20; refine (C1.out _ b1).mono ?_; rintro e w12 ⟨rfl, b2, q1_0, q1_1, q1_2, q1_3, q1_4, q1_5, q1_6, q1_7⟩; have mk2 : True := trivial))
  have Ba12 := hide (Ba10.out.below b2.out Ba10.out.lt)
  have Bb12 := hide (Bb10.out.below b2.out Bb10.out.lt)
  have Bx12 := hide (Bx10.out.below b2.out Bx10.out.lt)
  have By12 := hide (By10.out.below b2.out By10.out.lt)
  have Bg12 := hide (Bg10.out.below b2.out Bg10.out.lt)
  have Bt12 := hide (Bt10.out.below b2.out Bt10.out.lt)
  have HB12 := hide (HB10.out.trans (b2.out.mono HB10.out.size))
  clear mk2 b0 b1 b2 C0 C1 q0_0 q0_1 q0_2 q0_3 q0_4 q0_5 q0_6 q0_7 q1_0 q1_1 q1_2 q1_3 q1_4 q1_5 q1_6 q1_7 Ba10 Bb10 Bx10 By10 Bg10 Bt10 HB10 ya0 ya1 ya2 ya3 yb0 yb1 yb2 yb3 yx0 yx1 yx2 yx3 yy0 yy1 yy2 yy3 yg0 yg1 yg2 yg3 yt0 yt1 yt2 yt3
  obtain ⟨ya0, ya1, ya2, ya3⟩ := Ba12.out.four
  obtain ⟨yb0, yb1, yb2, yb3⟩ := Bb12.out.four
  obtain ⟨yx0, yx1, yx2, yx3⟩ := Bx12.out.four
  obtain ⟨yy0, yy1, yy2, yy3⟩ := By12.out.four
  obtain ⟨yg0, yg1, yg2, yg3⟩ := Bg12.out.four
  obtain ⟨yt0, yt1, yt2, yt3⟩ := Bt12.out.four
  go_wp2
  go_ret
  exact ⟨rfl, HB12.out⟩


set_option maxRecDepth 100000 in
set_option maxHeartbeats 4000000 in
theorem near_1r (na : Bool) (ta : ByteArray) (ea : Int) (cb : Int) (nb : Bool) (tb : ByteArray) (eb : Int) (tx : ByteArray) (ex : Int) (w : World) (htab : Tab w) (cg : Int) (ng : Bool) (tg : ByteArray) (eg : Int) (ct : Int) (nt : Bool) (tt : ByteArray) (et : Int) (rg : Int) (hg : ¬ rg = 0) (bl : Bool) (g0 : ∀ W, Tab W → Calls Tryz.prog 16 #[.agg #[.int .i64 0, .bool na, .string ta, .int .i64 ea], dcV cb nb tb eb, .int .i64 1] W fun e w' => e = .returned (.tuple #[.agg #[.int .i64 0, .bool na, .string tx, .int .i64 ex], .int .i64 0]) ∧ Below W.heap.size W w') (g1 : ∀ W, Tab W → Calls Tryz.prog 16 #[.agg #[.int .i64 0, .bool na, .string tx, .int .i64 ex], dcV cb nb tb eb, .int .i64 1] W fun e w' => e = .returned (.tuple #[.agg #[.int .i64 0, .bool na, .string tx, .int .i64 ex], .int .i64 0]) ∧ Below W.heap.size W w') (g2 : ∀ W, Tab W → Calls Tryz.prog 18 #[.agg #[.int .i64 0, .bool na, .string tx, .int .i64 ex], .agg #[.int .i64 0, .bool na, .string ta, .int .i64 ea]] W fun e w' => e = .returned (.tuple #[.agg #[.int .i64 cg, .bool ng, .string tg, .int .i64 eg], .bool true]) ∧ Below W.heap.size W w') (g3 : ∀ W, Tab W → Calls Tryz.prog 19 #[.agg #[.int .i64 cg, .bool ng, .string tg, .int .i64 eg], .agg #[.int .i64 cg, .bool ng, .string tg, .int .i64 eg]] W fun e w' => e = .returned (.tuple #[.agg #[.int .i64 ct, .bool nt, .string tt, .int .i64 et], .int .i64 rg]) ∧ Below W.heap.size W w') (g4 : ∀ W, Calls Tryz.prog 20 #[.agg #[.int .i64 cg, .bool ng, .string tg, .int .i64 eg], dcV cb nb tb eb] W fun e w' => e = .returned (.bool true) ∧ Below W.heap.size W w') (g5 : ∀ W, Calls Tryz.prog 20 #[.agg #[.int .i64 0, .bool na, .string tx, .int .i64 ex], .agg #[.int .i64 0, .bool na, .string ta, .int .i64 ea]] W fun e w' => e = .returned (.bool bl) ∧ Below W.heap.size W w') (g6 : ∀ W, Calls Tryz.prog 20 #[.agg #[.int .i64 0, .bool na, .string ta, .int .i64 ea], .agg #[.int .i64 0, .bool na, .string tx, .int .i64 ex]] W fun e w' => e = .returned (.bool false) ∧ Below W.heap.size W w') : Calls Tryz.prog 6 #[.agg #[.int .i64 0, .bool na, .string ta, .int .i64 ea], dcV cb nb tb eb, .int .i64 1] w fun e w' => e = .returned (.bool true) ∧ Below w.heap.size w w' := by
  have H0 := hide g0
  have H1 := hide g1
  have H2 := hide g2
  have H3 := hide g3
  have H4 := hide g4
  have H5 := hide g5
  have H6 := hide g6
  have q1 : (rg == 0) = false := by simpa using hg
  clear hg
  have HT := hide htab
  clear htab g0 g1 g2 g3 g4 g5 g6
  have Ba0 := hide ((Blk.newAt w (w.heap.size) (rfl) #[.int .i64 0, .bool na, .string ta, .int .i64 ea] 23).alloc (.cells #[.int .i64 cb, .bool nb, .string tb, .int .i64 eb] 23))
  have Bb0 := hide (Blk.newAt (w.alloc (.cells #[.int .i64 0, .bool na, .string ta, .int .i64 ea] 23)) (w.heap.size + 1) (by simp) #[.int .i64 cb, .bool nb, .string tb, .int .i64 eb] 23)
  have HB0 : Hid (Below w.heap.size w ((w.alloc (.cells #[.int .i64 0, .bool na, .string ta, .int .i64 ea] 23)).alloc (.cells #[.int .i64 cb, .bool nb, .string tb, .int .i64 eb] 23))) := (((Below.refl _ _).alloc (Nat.le_refl _) _).alloc (by simp <;> omega) _)
  go_enter Tryz.func6, Tryz.ntmps6
  go_wp2_with fail
  refine (H0.out _ (HT.out.below HB0.out)).mono ?_
  rintro e w1 ⟨rfl, hb⟩
  have Ba1 := Blk.on Ba0 hb
  have Bb1 := Blk.on Bb0 hb
  have HB1 := hide (HB0.out.trans (hb.mono HB0.out.size))
  clear hb Ba0 Bb0 HB0 
  obtain ⟨ya0, ya1, ya2, ya3⟩ := Ba1.out.four
  obtain ⟨yb0, yb1, yb2, yb3⟩ := Bb1.out.four
  have Ba2 := Blk.up Ba1 (.cells #[.int .i64 0, .bool na, .string tx, .int .i64 ex] 23)
  have Bb2 := Blk.up Bb1 (.cells #[.int .i64 0, .bool na, .string tx, .int .i64 ex] 23)
  have Bx2 := hide ((Blk.newAt w1 (w1.heap.size) (rfl) #[.int .i64 0, .bool na, .string tx, .int .i64 ex] 23))
  have HB2 : Hid (Below w.heap.size w (w1.alloc (.cells #[.int .i64 0, .bool na, .string tx, .int .i64 ex] 23))) := (HB1.out.alloc HB1.out.size _)
  clear Ba1 Bb1 HB1 ya0 ya1 ya2 ya3 yb0 yb1 yb2 yb3
  obtain ⟨ya0, ya1, ya2, ya3⟩ := Ba2.out.four
  obtain ⟨yb0, yb1, yb2, yb3⟩ := Bb2.out.four
  obtain ⟨yx0, yx1, yx2, yx3⟩ := Bx2.out.four
  go_wp2_with fail
  refine (rawake_any _ (HT.out.below HB2.out)).mono ?_
  rintro e w3 ⟨rfl, hb⟩
  have Ba3 := Blk.on Ba2 hb
  have Bb3 := Blk.on Bb2 hb
  have Bx3 := Blk.on Bx2 hb
  have HB3 := hide (HB2.out.trans (hb.mono HB2.out.size))
  clear hb Ba2 Bb2 Bx2 HB2 ya0 ya1 ya2 ya3 yb0 yb1 yb2 yb3 yx0 yx1 yx2 yx3
  obtain ⟨ya0, ya1, ya2, ya3⟩ := Ba3.out.four
  obtain ⟨yb0, yb1, yb2, yb3⟩ := Bb3.out.four
  obtain ⟨yx0, yx1, yx2, yx3⟩ := Bx3.out.four
  go_wp2_with fail
  refine (H1.out _ (HT.out.below HB3.out)).mono ?_
  rintro e w4 ⟨rfl, hb⟩
  have Ba4 := Blk.on Ba3 hb
  have Bb4 := Blk.on Bb3 hb
  have Bx4 := Blk.on Bx3 hb
  have HB4 := hide (HB3.out.trans (hb.mono HB3.out.size))
  clear hb Ba3 Bb3 Bx3 HB3 ya0 ya1 ya2 ya3 yb0 yb1 yb2 yb3 yx0 yx1 yx2 yx3
  obtain ⟨ya0, ya1, ya2, ya3⟩ := Ba4.out.four
  obtain ⟨yb0, yb1, yb2, yb3⟩ := Bb4.out.four
  obtain ⟨yx0, yx1, yx2, yx3⟩ := Bx4.out.four
  have Ba5 := Blk.up Ba4 (.cells #[.int .i64 0, .bool na, .string tx, .int .i64 ex] 23)
  have Bb5 := Blk.up Bb4 (.cells #[.int .i64 0, .bool na, .string tx, .int .i64 ex] 23)
  have Bx5 := Blk.up Bx4 (.cells #[.int .i64 0, .bool na, .string tx, .int .i64 ex] 23)
  have By5 := hide ((Blk.newAt w4 (w4.heap.size) (rfl) #[.int .i64 0, .bool na, .string tx, .int .i64 ex] 23))
  have HB5 : Hid (Below w.heap.size w (w4.alloc (.cells #[.int .i64 0, .bool na, .string tx, .int .i64 ex] 23))) := (HB4.out.alloc HB4.out.size _)
  clear Ba4 Bb4 Bx4 HB4 ya0 ya1 ya2 ya3 yb0 yb1 yb2 yb3 yx0 yx1 yx2 yx3
  obtain ⟨ya0, ya1, ya2, ya3⟩ := Ba5.out.four
  obtain ⟨yb0, yb1, yb2, yb3⟩ := Bb5.out.four
  obtain ⟨yx0, yx1, yx2, yx3⟩ := Bx5.out.four
  obtain ⟨yy0, yy1, yy2, yy3⟩ := By5.out.four
  go_wp2_with fail
  refine (H2.out _ (HT.out.below HB5.out)).mono ?_
  rintro e w6 ⟨rfl, hb⟩
  have Ba6 := Blk.on Ba5 hb
  have Bb6 := Blk.on Bb5 hb
  have Bx6 := Blk.on Bx5 hb
  have By6 := Blk.on By5 hb
  have HB6 := hide (HB5.out.trans (hb.mono HB5.out.size))
  clear hb Ba5 Bb5 Bx5 By5 HB5 ya0 ya1 ya2 ya3 yb0 yb1 yb2 yb3 yx0 yx1 yx2 yx3 yy0 yy1 yy2 yy3
  obtain ⟨ya0, ya1, ya2, ya3⟩ := Ba6.out.four
  obtain ⟨yb0, yb1, yb2, yb3⟩ := Bb6.out.four
  obtain ⟨yx0, yx1, yx2, yx3⟩ := Bx6.out.four
  obtain ⟨yy0, yy1, yy2, yy3⟩ := By6.out.four
  have Ba7 := Blk.up Ba6 (.cells #[.int .i64 cg, .bool ng, .string tg, .int .i64 eg] 23)
  have Bb7 := Blk.up Bb6 (.cells #[.int .i64 cg, .bool ng, .string tg, .int .i64 eg] 23)
  have Bx7 := Blk.up Bx6 (.cells #[.int .i64 cg, .bool ng, .string tg, .int .i64 eg] 23)
  have By7 := Blk.up By6 (.cells #[.int .i64 cg, .bool ng, .string tg, .int .i64 eg] 23)
  have Bg7 := hide ((Blk.newAt w6 (w6.heap.size) (rfl) #[.int .i64 cg, .bool ng, .string tg, .int .i64 eg] 23))
  have HB7 : Hid (Below w.heap.size w (w6.alloc (.cells #[.int .i64 cg, .bool ng, .string tg, .int .i64 eg] 23))) := (HB6.out.alloc HB6.out.size _)
  clear Ba6 Bb6 Bx6 By6 HB6 ya0 ya1 ya2 ya3 yb0 yb1 yb2 yb3 yx0 yx1 yx2 yx3 yy0 yy1 yy2 yy3
  obtain ⟨ya0, ya1, ya2, ya3⟩ := Ba7.out.four
  obtain ⟨yb0, yb1, yb2, yb3⟩ := Bb7.out.four
  obtain ⟨yx0, yx1, yx2, yx3⟩ := Bx7.out.four
  obtain ⟨yy0, yy1, yy2, yy3⟩ := By7.out.four
  obtain ⟨yg0, yg1, yg2, yg3⟩ := Bg7.out.four
  go_wp2_with fail
  refine (H3.out _ (HT.out.below HB7.out)).mono ?_
  rintro e w8 ⟨rfl, hb⟩
  have Ba8 := Blk.on Ba7 hb
  have Bb8 := Blk.on Bb7 hb
  have Bx8 := Blk.on Bx7 hb
  have By8 := Blk.on By7 hb
  have Bg8 := Blk.on Bg7 hb
  have HB8 := hide (HB7.out.trans (hb.mono HB7.out.size))
  clear hb Ba7 Bb7 Bx7 By7 Bg7 HB7 ya0 ya1 ya2 ya3 yb0 yb1 yb2 yb3 yx0 yx1 yx2 yx3 yy0 yy1 yy2 yy3 yg0 yg1 yg2 yg3
  obtain ⟨ya0, ya1, ya2, ya3⟩ := Ba8.out.four
  obtain ⟨yb0, yb1, yb2, yb3⟩ := Bb8.out.four
  obtain ⟨yx0, yx1, yx2, yx3⟩ := Bx8.out.four
  obtain ⟨yy0, yy1, yy2, yy3⟩ := By8.out.four
  obtain ⟨yg0, yg1, yg2, yg3⟩ := Bg8.out.four
  have Ba9 := Blk.up Ba8 (.cells #[.int .i64 ct, .bool nt, .string tt, .int .i64 et] 23)
  have Bb9 := Blk.up Bb8 (.cells #[.int .i64 ct, .bool nt, .string tt, .int .i64 et] 23)
  have Bx9 := Blk.up Bx8 (.cells #[.int .i64 ct, .bool nt, .string tt, .int .i64 et] 23)
  have By9 := Blk.up By8 (.cells #[.int .i64 ct, .bool nt, .string tt, .int .i64 et] 23)
  have Bg9 := Blk.up Bg8 (.cells #[.int .i64 ct, .bool nt, .string tt, .int .i64 et] 23)
  have Bt9 := hide ((Blk.newAt w8 (w8.heap.size) (rfl) #[.int .i64 ct, .bool nt, .string tt, .int .i64 et] 23))
  have HB9 : Hid (Below w.heap.size w (w8.alloc (.cells #[.int .i64 ct, .bool nt, .string tt, .int .i64 et] 23))) := (HB8.out.alloc HB8.out.size _)
  clear Ba8 Bb8 Bx8 By8 Bg8 HB8 ya0 ya1 ya2 ya3 yb0 yb1 yb2 yb3 yx0 yx1 yx2 yx3 yy0 yy1 yy2 yy3 yg0 yg1 yg2 yg3
  obtain ⟨ya0, ya1, ya2, ya3⟩ := Ba9.out.four
  obtain ⟨yb0, yb1, yb2, yb3⟩ := Bb9.out.four
  obtain ⟨yx0, yx1, yx2, yx3⟩ := Bx9.out.four
  obtain ⟨yy0, yy1, yy2, yy3⟩ := By9.out.four
  obtain ⟨yg0, yg1, yg2, yg3⟩ := Bg9.out.four
  obtain ⟨yt0, yt1, yt2, yt3⟩ := Bt9.out.four
  go_wp2_with fail
  refine (H4.out _).mono ?_
  rintro e w10 ⟨rfl, hb⟩
  have Ba10 := Blk.on Ba9 hb
  have Bb10 := Blk.on Bb9 hb
  have Bx10 := Blk.on Bx9 hb
  have By10 := Blk.on By9 hb
  have Bg10 := Blk.on Bg9 hb
  have Bt10 := Blk.on Bt9 hb
  have HB10 := hide (HB9.out.trans (hb.mono HB9.out.size))
  clear hb Ba9 Bb9 Bx9 By9 Bg9 Bt9 HB9 ya0 ya1 ya2 ya3 yb0 yb1 yb2 yb3 yx0 yx1 yx2 yx3 yy0 yy1 yy2 yy3 yg0 yg1 yg2 yg3 yt0 yt1 yt2 yt3
  obtain ⟨ya0, ya1, ya2, ya3⟩ := Ba10.out.four
  obtain ⟨yb0, yb1, yb2, yb3⟩ := Bb10.out.four
  obtain ⟨yx0, yx1, yx2, yx3⟩ := Bx10.out.four
  obtain ⟨yy0, yy1, yy2, yy3⟩ := By10.out.four
  obtain ⟨yg0, yg1, yg2, yg3⟩ := Bg10.out.four
  obtain ⟨yt0, yt1, yt2, yt3⟩ := Bt10.out.four
  have b0 : Hid (Below w10.heap.size w10 w10.drew) := bdrewD w10
  have C0 : Hid (∀ X, Hid (Below w10.heap.size w10 X) → Calls Tryz.prog 20 #[.agg #[.int .i64 0, .bool na, .string tx, .int .i64 ex], .agg #[.int .i64 0, .bool na, .string ta, .int .i64 ea]] X fun e w' => e = .returned (.bool bl) ∧ Hid (Below w10.heap.size w10 w') ∧ w'.cell? ⟨w.heap.size, 0, none⟩ = some (.int .i64 0) ∧ w'.cell? ⟨w.heap.size, 1, none⟩ = some (.bool na) ∧ w'.cell? ⟨w.heap.size, 2, none⟩ = some (.string ta) ∧ w'.cell? ⟨w.heap.size, 3, none⟩ = some (.int .i64 ea) ∧ w'.cell? ⟨w1.heap.size, 0, none⟩ = some (.int .i64 0) ∧ w'.cell? ⟨w1.heap.size, 1, none⟩ = some (.bool na) ∧ w'.cell? ⟨w1.heap.size, 2, none⟩ = some (.string tx) ∧ w'.cell? ⟨w1.heap.size, 3, none⟩ = some (.int .i64 ex)) := by
    intro X bX
    refine (H5.out X).mono ?_
    rintro e w' ⟨rfl, hb⟩
    have bb := bX.out.trans (hb.mono bX.out.size)
    have Baq := Ba10.out.below bb Ba10.out.lt
    have Bxq := Bx10.out.below bb Bx10.out.lt
    exact ⟨rfl, bb, Baq.cell 0, Baq.cell 1, Baq.cell 2, Baq.cell 3, Bxq.cell 0, Bxq.cell 1, Bxq.cell 2, Bxq.cell 3⟩
  have C1 : Hid (∀ X, Hid (Below w10.heap.size w10 X) → Calls Tryz.prog 20 #[.agg #[.int .i64 0, .bool na, .string ta, .int .i64 ea], .agg #[.int .i64 0, .bool na, .string tx, .int .i64 ex]] X fun e w' => e = .returned (.bool false) ∧ Hid (Below w10.heap.size w10 w') ∧ w'.cell? ⟨w.heap.size, 0, none⟩ = some (.int .i64 0) ∧ w'.cell? ⟨w.heap.size, 1, none⟩ = some (.bool na) ∧ w'.cell? ⟨w.heap.size, 2, none⟩ = some (.string ta) ∧ w'.cell? ⟨w.heap.size, 3, none⟩ = some (.int .i64 ea) ∧ w'.cell? ⟨w1.heap.size, 0, none⟩ = some (.int .i64 0) ∧ w'.cell? ⟨w1.heap.size, 1, none⟩ = some (.bool na) ∧ w'.cell? ⟨w1.heap.size, 2, none⟩ = some (.string tx) ∧ w'.cell? ⟨w1.heap.size, 3, none⟩ = some (.int .i64 ex)) := by
    intro X bX
    refine (H6.out X).mono ?_
    rintro e w' ⟨rfl, hb⟩
    have bb := bX.out.trans (hb.mono bX.out.size)
    have Baq := Ba10.out.below bb Ba10.out.lt
    have Bxq := Bx10.out.below bb Bx10.out.lt
    exact ⟨rfl, bb, Baq.cell 0, Baq.cell 1, Baq.cell 2, Baq.cell 3, Bxq.cell 0, Bxq.cell 1, Bxq.cell 2, Bxq.cell 3⟩
  go_wp2_with fail
  have mk0 : True := trivial
  go_region_held3 (fun w' => w'.cell? ⟨w.heap.size, 0, none⟩ = some (.int .i64 0) ∧ w'.cell? ⟨w.heap.size, 1, none⟩ = some (.bool na) ∧ w'.cell? ⟨w.heap.size, 2, none⟩ = some (.string ta) ∧ w'.cell? ⟨w.heap.size, 3, none⟩ = some (.int .i64 ea) ∧ w'.cell? ⟨w1.heap.size, 0, none⟩ = some (.int .i64 0) ∧ w'.cell? ⟨w1.heap.size, 1, none⟩ = some (.bool na) ∧ w'.cell? ⟨w1.heap.size, 2, none⟩ = some (.string tx) ∧ w'.cell? ⟨w1.heap.size, 3, none⟩ = some (.int .i64 ex)) (go_keep) (first
    | (clear mk0; go_at_call 20; refine (C0.out _ b0).mono ?_; rintro e w11 ⟨rfl, b1, q0_0, q0_1, q0_2, q0_3, q0_4, q0_5, q0_6, q0_7⟩; have mk1 : True := trivial)
    | (clear mk1; go_at_call 20; refine (C1.out _ b1).mono ?_; rintro e w12 ⟨rfl, b2, q1_0, q1_1, q1_2, q1_3, q1_4, q1_5, q1_6, q1_7⟩; have mk2 : True := trivial))
  have Ba12 := hide (Ba10.out.below b2.out Ba10.out.lt)
  have Bb12 := hide (Bb10.out.below b2.out Bb10.out.lt)
  have Bx12 := hide (Bx10.out.below b2.out Bx10.out.lt)
  have By12 := hide (By10.out.below b2.out By10.out.lt)
  have Bg12 := hide (Bg10.out.below b2.out Bg10.out.lt)
  have Bt12 := hide (Bt10.out.below b2.out Bt10.out.lt)
  have HB12 := hide (HB10.out.trans (b2.out.mono HB10.out.size))
  clear mk2 b0 b1 b2 C0 C1 q0_0 q0_1 q0_2 q0_3 q0_4 q0_5 q0_6 q0_7 q1_0 q1_1 q1_2 q1_3 q1_4 q1_5 q1_6 q1_7 Ba10 Bb10 Bx10 By10 Bg10 Bt10 HB10 ya0 ya1 ya2 ya3 yb0 yb1 yb2 yb3 yx0 yx1 yx2 yx3 yy0 yy1 yy2 yy3 yg0 yg1 yg2 yg3 yt0 yt1 yt2 yt3
  obtain ⟨ya0, ya1, ya2, ya3⟩ := Ba12.out.four
  obtain ⟨yb0, yb1, yb2, yb3⟩ := Bb12.out.four
  obtain ⟨yx0, yx1, yx2, yx3⟩ := Bx12.out.four
  obtain ⟨yy0, yy1, yy2, yy3⟩ := By12.out.four
  obtain ⟨yg0, yg1, yg2, yg3⟩ := Bg12.out.four
  obtain ⟨yt0, yt1, yt2, yt3⟩ := Bt12.out.four
  go_wp2
  go_ret
  exact ⟨rfl, HB12.out⟩


set_option maxRecDepth 100000 in
set_option maxHeartbeats 4000000 in
theorem near_2tr (ta : ByteArray) (ea : Int) (cb : Int) (nb : Bool) (tb : ByteArray) (eb : Int) (tx : ByteArray) (ex : Int) (w : World) (htab : Tab w) (cg : Int) (ng : Bool) (tg : ByteArray) (eg : Int) (ct : Int) (nt : Bool) (tt : ByteArray) (et : Int) (rg : Int) (hg : ¬ rg = 0) (bh : Bool) (g0 : ∀ W, Tab W → Calls Tryz.prog 16 #[.agg #[.int .i64 0, .bool true, .string ta, .int .i64 ea], dcV cb nb tb eb, .int .i64 2] W fun e w' => e = .returned (.tuple #[.agg #[.int .i64 0, .bool true, .string tx, .int .i64 ex], .int .i64 0]) ∧ Below W.heap.size W w') (g1 : ∀ W, Tab W → Calls Tryz.prog 16 #[.agg #[.int .i64 0, .bool true, .string tx, .int .i64 ex], dcV cb nb tb eb, .int .i64 2] W fun e w' => e = .returned (.tuple #[.agg #[.int .i64 0, .bool true, .string tx, .int .i64 ex], .int .i64 0]) ∧ Below W.heap.size W w') (g2 : ∀ W, Tab W → Calls Tryz.prog 18 #[.agg #[.int .i64 0, .bool true, .string tx, .int .i64 ex], .agg #[.int .i64 0, .bool true, .string ta, .int .i64 ea]] W fun e w' => e = .returned (.tuple #[.agg #[.int .i64 cg, .bool ng, .string tg, .int .i64 eg], .bool true]) ∧ Below W.heap.size W w') (g3 : ∀ W, Tab W → Calls Tryz.prog 19 #[.agg #[.int .i64 cg, .bool ng, .string tg, .int .i64 eg], .agg #[.int .i64 cg, .bool ng, .string tg, .int .i64 eg]] W fun e w' => e = .returned (.tuple #[.agg #[.int .i64 ct, .bool nt, .string tt, .int .i64 et], .int .i64 rg]) ∧ Below W.heap.size W w') (g4 : ∀ W, Calls Tryz.prog 20 #[.agg #[.int .i64 cg, .bool ng, .string tg, .int .i64 eg], dcV cb nb tb eb] W fun e w' => e = .returned (.bool true) ∧ Below W.heap.size W w') (g5 : ∀ W, Calls Tryz.prog 20 #[.agg #[.int .i64 0, .bool true, .string tx, .int .i64 ex], .agg #[.int .i64 0, .bool true, .string ta, .int .i64 ea]] W fun e w' => e = .returned (.bool false) ∧ Below W.heap.size W w') (g6 : ∀ W, Calls Tryz.prog 20 #[.agg #[.int .i64 0, .bool true, .string ta, .int .i64 ea], .agg #[.int .i64 0, .bool true, .string tx, .int .i64 ex]] W fun e w' => e = .returned (.bool bh) ∧ Below W.heap.size W w') : Calls Tryz.prog 6 #[.agg #[.int .i64 0, .bool true, .string ta, .int .i64 ea], dcV cb nb tb eb, .int .i64 2] w fun e w' => e = .returned (.bool true) ∧ Below w.heap.size w w' := by
  have H0 := hide g0
  have H1 := hide g1
  have H2 := hide g2
  have H3 := hide g3
  have H4 := hide g4
  have H5 := hide g5
  have H6 := hide g6
  have q1 : (rg == 0) = false := by simpa using hg
  clear hg
  have HT := hide htab
  clear htab g0 g1 g2 g3 g4 g5 g6
  have Ba0 := hide ((Blk.newAt w (w.heap.size) (rfl) #[.int .i64 0, .bool true, .string ta, .int .i64 ea] 23).alloc (.cells #[.int .i64 cb, .bool nb, .string tb, .int .i64 eb] 23))
  have Bb0 := hide (Blk.newAt (w.alloc (.cells #[.int .i64 0, .bool true, .string ta, .int .i64 ea] 23)) (w.heap.size + 1) (by simp) #[.int .i64 cb, .bool nb, .string tb, .int .i64 eb] 23)
  have HB0 : Hid (Below w.heap.size w ((w.alloc (.cells #[.int .i64 0, .bool true, .string ta, .int .i64 ea] 23)).alloc (.cells #[.int .i64 cb, .bool nb, .string tb, .int .i64 eb] 23))) := (((Below.refl _ _).alloc (Nat.le_refl _) _).alloc (by simp <;> omega) _)
  go_enter Tryz.func6, Tryz.ntmps6
  go_wp2_with fail
  refine (H0.out _ (HT.out.below HB0.out)).mono ?_
  rintro e w1 ⟨rfl, hb⟩
  have Ba1 := Blk.on Ba0 hb
  have Bb1 := Blk.on Bb0 hb
  have HB1 := hide (HB0.out.trans (hb.mono HB0.out.size))
  clear hb Ba0 Bb0 HB0 
  obtain ⟨ya0, ya1, ya2, ya3⟩ := Ba1.out.four
  obtain ⟨yb0, yb1, yb2, yb3⟩ := Bb1.out.four
  have Ba2 := Blk.up Ba1 (.cells #[.int .i64 0, .bool true, .string tx, .int .i64 ex] 23)
  have Bb2 := Blk.up Bb1 (.cells #[.int .i64 0, .bool true, .string tx, .int .i64 ex] 23)
  have Bx2 := hide ((Blk.newAt w1 (w1.heap.size) (rfl) #[.int .i64 0, .bool true, .string tx, .int .i64 ex] 23))
  have HB2 : Hid (Below w.heap.size w (w1.alloc (.cells #[.int .i64 0, .bool true, .string tx, .int .i64 ex] 23))) := (HB1.out.alloc HB1.out.size _)
  clear Ba1 Bb1 HB1 ya0 ya1 ya2 ya3 yb0 yb1 yb2 yb3
  obtain ⟨ya0, ya1, ya2, ya3⟩ := Ba2.out.four
  obtain ⟨yb0, yb1, yb2, yb3⟩ := Bb2.out.four
  obtain ⟨yx0, yx1, yx2, yx3⟩ := Bx2.out.four
  go_wp2_with fail
  refine (rawake_any _ (HT.out.below HB2.out)).mono ?_
  rintro e w3 ⟨rfl, hb⟩
  have Ba3 := Blk.on Ba2 hb
  have Bb3 := Blk.on Bb2 hb
  have Bx3 := Blk.on Bx2 hb
  have HB3 := hide (HB2.out.trans (hb.mono HB2.out.size))
  clear hb Ba2 Bb2 Bx2 HB2 ya0 ya1 ya2 ya3 yb0 yb1 yb2 yb3 yx0 yx1 yx2 yx3
  obtain ⟨ya0, ya1, ya2, ya3⟩ := Ba3.out.four
  obtain ⟨yb0, yb1, yb2, yb3⟩ := Bb3.out.four
  obtain ⟨yx0, yx1, yx2, yx3⟩ := Bx3.out.four
  go_wp2_with fail
  refine (H1.out _ (HT.out.below HB3.out)).mono ?_
  rintro e w4 ⟨rfl, hb⟩
  have Ba4 := Blk.on Ba3 hb
  have Bb4 := Blk.on Bb3 hb
  have Bx4 := Blk.on Bx3 hb
  have HB4 := hide (HB3.out.trans (hb.mono HB3.out.size))
  clear hb Ba3 Bb3 Bx3 HB3 ya0 ya1 ya2 ya3 yb0 yb1 yb2 yb3 yx0 yx1 yx2 yx3
  obtain ⟨ya0, ya1, ya2, ya3⟩ := Ba4.out.four
  obtain ⟨yb0, yb1, yb2, yb3⟩ := Bb4.out.four
  obtain ⟨yx0, yx1, yx2, yx3⟩ := Bx4.out.four
  have Ba5 := Blk.up Ba4 (.cells #[.int .i64 0, .bool true, .string tx, .int .i64 ex] 23)
  have Bb5 := Blk.up Bb4 (.cells #[.int .i64 0, .bool true, .string tx, .int .i64 ex] 23)
  have Bx5 := Blk.up Bx4 (.cells #[.int .i64 0, .bool true, .string tx, .int .i64 ex] 23)
  have By5 := hide ((Blk.newAt w4 (w4.heap.size) (rfl) #[.int .i64 0, .bool true, .string tx, .int .i64 ex] 23))
  have HB5 : Hid (Below w.heap.size w (w4.alloc (.cells #[.int .i64 0, .bool true, .string tx, .int .i64 ex] 23))) := (HB4.out.alloc HB4.out.size _)
  clear Ba4 Bb4 Bx4 HB4 ya0 ya1 ya2 ya3 yb0 yb1 yb2 yb3 yx0 yx1 yx2 yx3
  obtain ⟨ya0, ya1, ya2, ya3⟩ := Ba5.out.four
  obtain ⟨yb0, yb1, yb2, yb3⟩ := Bb5.out.four
  obtain ⟨yx0, yx1, yx2, yx3⟩ := Bx5.out.four
  obtain ⟨yy0, yy1, yy2, yy3⟩ := By5.out.four
  go_wp2_with fail
  refine (H2.out _ (HT.out.below HB5.out)).mono ?_
  rintro e w6 ⟨rfl, hb⟩
  have Ba6 := Blk.on Ba5 hb
  have Bb6 := Blk.on Bb5 hb
  have Bx6 := Blk.on Bx5 hb
  have By6 := Blk.on By5 hb
  have HB6 := hide (HB5.out.trans (hb.mono HB5.out.size))
  clear hb Ba5 Bb5 Bx5 By5 HB5 ya0 ya1 ya2 ya3 yb0 yb1 yb2 yb3 yx0 yx1 yx2 yx3 yy0 yy1 yy2 yy3
  obtain ⟨ya0, ya1, ya2, ya3⟩ := Ba6.out.four
  obtain ⟨yb0, yb1, yb2, yb3⟩ := Bb6.out.four
  obtain ⟨yx0, yx1, yx2, yx3⟩ := Bx6.out.four
  obtain ⟨yy0, yy1, yy2, yy3⟩ := By6.out.four
  have Ba7 := Blk.up Ba6 (.cells #[.int .i64 cg, .bool ng, .string tg, .int .i64 eg] 23)
  have Bb7 := Blk.up Bb6 (.cells #[.int .i64 cg, .bool ng, .string tg, .int .i64 eg] 23)
  have Bx7 := Blk.up Bx6 (.cells #[.int .i64 cg, .bool ng, .string tg, .int .i64 eg] 23)
  have By7 := Blk.up By6 (.cells #[.int .i64 cg, .bool ng, .string tg, .int .i64 eg] 23)
  have Bg7 := hide ((Blk.newAt w6 (w6.heap.size) (rfl) #[.int .i64 cg, .bool ng, .string tg, .int .i64 eg] 23))
  have HB7 : Hid (Below w.heap.size w (w6.alloc (.cells #[.int .i64 cg, .bool ng, .string tg, .int .i64 eg] 23))) := (HB6.out.alloc HB6.out.size _)
  clear Ba6 Bb6 Bx6 By6 HB6 ya0 ya1 ya2 ya3 yb0 yb1 yb2 yb3 yx0 yx1 yx2 yx3 yy0 yy1 yy2 yy3
  obtain ⟨ya0, ya1, ya2, ya3⟩ := Ba7.out.four
  obtain ⟨yb0, yb1, yb2, yb3⟩ := Bb7.out.four
  obtain ⟨yx0, yx1, yx2, yx3⟩ := Bx7.out.four
  obtain ⟨yy0, yy1, yy2, yy3⟩ := By7.out.four
  obtain ⟨yg0, yg1, yg2, yg3⟩ := Bg7.out.four
  go_wp2_with fail
  refine (H3.out _ (HT.out.below HB7.out)).mono ?_
  rintro e w8 ⟨rfl, hb⟩
  have Ba8 := Blk.on Ba7 hb
  have Bb8 := Blk.on Bb7 hb
  have Bx8 := Blk.on Bx7 hb
  have By8 := Blk.on By7 hb
  have Bg8 := Blk.on Bg7 hb
  have HB8 := hide (HB7.out.trans (hb.mono HB7.out.size))
  clear hb Ba7 Bb7 Bx7 By7 Bg7 HB7 ya0 ya1 ya2 ya3 yb0 yb1 yb2 yb3 yx0 yx1 yx2 yx3 yy0 yy1 yy2 yy3 yg0 yg1 yg2 yg3
  obtain ⟨ya0, ya1, ya2, ya3⟩ := Ba8.out.four
  obtain ⟨yb0, yb1, yb2, yb3⟩ := Bb8.out.four
  obtain ⟨yx0, yx1, yx2, yx3⟩ := Bx8.out.four
  obtain ⟨yy0, yy1, yy2, yy3⟩ := By8.out.four
  obtain ⟨yg0, yg1, yg2, yg3⟩ := Bg8.out.four
  have Ba9 := Blk.up Ba8 (.cells #[.int .i64 ct, .bool nt, .string tt, .int .i64 et] 23)
  have Bb9 := Blk.up Bb8 (.cells #[.int .i64 ct, .bool nt, .string tt, .int .i64 et] 23)
  have Bx9 := Blk.up Bx8 (.cells #[.int .i64 ct, .bool nt, .string tt, .int .i64 et] 23)
  have By9 := Blk.up By8 (.cells #[.int .i64 ct, .bool nt, .string tt, .int .i64 et] 23)
  have Bg9 := Blk.up Bg8 (.cells #[.int .i64 ct, .bool nt, .string tt, .int .i64 et] 23)
  have Bt9 := hide ((Blk.newAt w8 (w8.heap.size) (rfl) #[.int .i64 ct, .bool nt, .string tt, .int .i64 et] 23))
  have HB9 : Hid (Below w.heap.size w (w8.alloc (.cells #[.int .i64 ct, .bool nt, .string tt, .int .i64 et] 23))) := (HB8.out.alloc HB8.out.size _)
  clear Ba8 Bb8 Bx8 By8 Bg8 HB8 ya0 ya1 ya2 ya3 yb0 yb1 yb2 yb3 yx0 yx1 yx2 yx3 yy0 yy1 yy2 yy3 yg0 yg1 yg2 yg3
  obtain ⟨ya0, ya1, ya2, ya3⟩ := Ba9.out.four
  obtain ⟨yb0, yb1, yb2, yb3⟩ := Bb9.out.four
  obtain ⟨yx0, yx1, yx2, yx3⟩ := Bx9.out.four
  obtain ⟨yy0, yy1, yy2, yy3⟩ := By9.out.four
  obtain ⟨yg0, yg1, yg2, yg3⟩ := Bg9.out.four
  obtain ⟨yt0, yt1, yt2, yt3⟩ := Bt9.out.four
  go_wp2_with fail
  refine (H4.out _).mono ?_
  rintro e w10 ⟨rfl, hb⟩
  have Ba10 := Blk.on Ba9 hb
  have Bb10 := Blk.on Bb9 hb
  have Bx10 := Blk.on Bx9 hb
  have By10 := Blk.on By9 hb
  have Bg10 := Blk.on Bg9 hb
  have Bt10 := Blk.on Bt9 hb
  have HB10 := hide (HB9.out.trans (hb.mono HB9.out.size))
  clear hb Ba9 Bb9 Bx9 By9 Bg9 Bt9 HB9 ya0 ya1 ya2 ya3 yb0 yb1 yb2 yb3 yx0 yx1 yx2 yx3 yy0 yy1 yy2 yy3 yg0 yg1 yg2 yg3 yt0 yt1 yt2 yt3
  obtain ⟨ya0, ya1, ya2, ya3⟩ := Ba10.out.four
  obtain ⟨yb0, yb1, yb2, yb3⟩ := Bb10.out.four
  obtain ⟨yx0, yx1, yx2, yx3⟩ := Bx10.out.four
  obtain ⟨yy0, yy1, yy2, yy3⟩ := By10.out.four
  obtain ⟨yg0, yg1, yg2, yg3⟩ := Bg10.out.four
  obtain ⟨yt0, yt1, yt2, yt3⟩ := Bt10.out.four
  have b0 : Hid (Below w10.heap.size w10 w10.drew) := bdrewD w10
  have C0 : Hid (∀ X, Hid (Below w10.heap.size w10 X) → Calls Tryz.prog 20 #[.agg #[.int .i64 0, .bool true, .string tx, .int .i64 ex], .agg #[.int .i64 0, .bool true, .string ta, .int .i64 ea]] X fun e w' => e = .returned (.bool false) ∧ Hid (Below w10.heap.size w10 w') ∧ w'.cell? ⟨w.heap.size, 0, none⟩ = some (.int .i64 0) ∧ w'.cell? ⟨w.heap.size, 1, none⟩ = some (.bool true) ∧ w'.cell? ⟨w.heap.size, 2, none⟩ = some (.string ta) ∧ w'.cell? ⟨w.heap.size, 3, none⟩ = some (.int .i64 ea) ∧ w'.cell? ⟨w1.heap.size, 0, none⟩ = some (.int .i64 0) ∧ w'.cell? ⟨w1.heap.size, 1, none⟩ = some (.bool true) ∧ w'.cell? ⟨w1.heap.size, 2, none⟩ = some (.string tx) ∧ w'.cell? ⟨w1.heap.size, 3, none⟩ = some (.int .i64 ex)) := by
    intro X bX
    refine (H5.out X).mono ?_
    rintro e w' ⟨rfl, hb⟩
    have bb := bX.out.trans (hb.mono bX.out.size)
    have Baq := Ba10.out.below bb Ba10.out.lt
    have Bxq := Bx10.out.below bb Bx10.out.lt
    exact ⟨rfl, bb, Baq.cell 0, Baq.cell 1, Baq.cell 2, Baq.cell 3, Bxq.cell 0, Bxq.cell 1, Bxq.cell 2, Bxq.cell 3⟩
  have C1 : Hid (∀ X, Hid (Below w10.heap.size w10 X) → Calls Tryz.prog 20 #[.agg #[.int .i64 0, .bool true, .string ta, .int .i64 ea], .agg #[.int .i64 0, .bool true, .string tx, .int .i64 ex]] X fun e w' => e = .returned (.bool bh) ∧ Hid (Below w10.heap.size w10 w') ∧ w'.cell? ⟨w.heap.size, 0, none⟩ = some (.int .i64 0) ∧ w'.cell? ⟨w.heap.size, 1, none⟩ = some (.bool true) ∧ w'.cell? ⟨w.heap.size, 2, none⟩ = some (.string ta) ∧ w'.cell? ⟨w.heap.size, 3, none⟩ = some (.int .i64 ea) ∧ w'.cell? ⟨w1.heap.size, 0, none⟩ = some (.int .i64 0) ∧ w'.cell? ⟨w1.heap.size, 1, none⟩ = some (.bool true) ∧ w'.cell? ⟨w1.heap.size, 2, none⟩ = some (.string tx) ∧ w'.cell? ⟨w1.heap.size, 3, none⟩ = some (.int .i64 ex)) := by
    intro X bX
    refine (H6.out X).mono ?_
    rintro e w' ⟨rfl, hb⟩
    have bb := bX.out.trans (hb.mono bX.out.size)
    have Baq := Ba10.out.below bb Ba10.out.lt
    have Bxq := Bx10.out.below bb Bx10.out.lt
    exact ⟨rfl, bb, Baq.cell 0, Baq.cell 1, Baq.cell 2, Baq.cell 3, Bxq.cell 0, Bxq.cell 1, Bxq.cell 2, Bxq.cell 3⟩
  go_wp2_with fail
  have mk0 : True := trivial
  go_region_held3 (fun w' => w'.cell? ⟨w.heap.size, 0, none⟩ = some (.int .i64 0) ∧ w'.cell? ⟨w.heap.size, 1, none⟩ = some (.bool true) ∧ w'.cell? ⟨w.heap.size, 2, none⟩ = some (.string ta) ∧ w'.cell? ⟨w.heap.size, 3, none⟩ = some (.int .i64 ea) ∧ w'.cell? ⟨w1.heap.size, 0, none⟩ = some (.int .i64 0) ∧ w'.cell? ⟨w1.heap.size, 1, none⟩ = some (.bool true) ∧ w'.cell? ⟨w1.heap.size, 2, none⟩ = some (.string tx) ∧ w'.cell? ⟨w1.heap.size, 3, none⟩ = some (.int .i64 ex)) (go_keep) (first
    | (clear mk0; go_at_call 20; refine (C0.out _ b0).mono ?_; rintro e w11 ⟨rfl, b1, q0_0, q0_1, q0_2, q0_3, q0_4, q0_5, q0_6, q0_7⟩; have mk1 : True := trivial)
    | (clear mk1; go_at_call 20; refine (C1.out _ b1).mono ?_; rintro e w12 ⟨rfl, b2, q1_0, q1_1, q1_2, q1_3, q1_4, q1_5, q1_6, q1_7⟩; have mk2 : True := trivial))
  have Ba12 := hide (Ba10.out.below b2.out Ba10.out.lt)
  have Bb12 := hide (Bb10.out.below b2.out Bb10.out.lt)
  have Bx12 := hide (Bx10.out.below b2.out Bx10.out.lt)
  have By12 := hide (By10.out.below b2.out By10.out.lt)
  have Bg12 := hide (Bg10.out.below b2.out Bg10.out.lt)
  have Bt12 := hide (Bt10.out.below b2.out Bt10.out.lt)
  have HB12 := hide (HB10.out.trans (b2.out.mono HB10.out.size))
  clear mk2 b0 b1 b2 C0 C1 q0_0 q0_1 q0_2 q0_3 q0_4 q0_5 q0_6 q0_7 q1_0 q1_1 q1_2 q1_3 q1_4 q1_5 q1_6 q1_7 Ba10 Bb10 Bx10 By10 Bg10 Bt10 HB10 ya0 ya1 ya2 ya3 yb0 yb1 yb2 yb3 yx0 yx1 yx2 yx3 yy0 yy1 yy2 yy3 yg0 yg1 yg2 yg3 yt0 yt1 yt2 yt3
  obtain ⟨ya0, ya1, ya2, ya3⟩ := Ba12.out.four
  obtain ⟨yb0, yb1, yb2, yb3⟩ := Bb12.out.four
  obtain ⟨yx0, yx1, yx2, yx3⟩ := Bx12.out.four
  obtain ⟨yy0, yy1, yy2, yy3⟩ := By12.out.four
  obtain ⟨yg0, yg1, yg2, yg3⟩ := Bg12.out.four
  obtain ⟨yt0, yt1, yt2, yt3⟩ := Bt12.out.four
  go_wp2
  go_ret
  exact ⟨rfl, HB12.out⟩

end Go.Proofs.YtcclbcnmkaobpaaGreatDoor

namespace Go.Proofs.YtcclbcnmkaobpaaGreatDoor
open Go.RowKit

set_option maxRecDepth 100000 in
set_option maxHeartbeats 4000000 in
theorem near_2fr (ta : ByteArray) (ea : Int) (cb : Int) (nb : Bool) (tb : ByteArray) (eb : Int) (tx : ByteArray) (ex : Int) (w : World) (htab : Tab w) (cg : Int) (ng : Bool) (tg : ByteArray) (eg : Int) (ct : Int) (nt : Bool) (tt : ByteArray) (et : Int) (rg : Int) (hg : ¬ rg = 0) (bl : Bool) (g0 : ∀ W, Tab W → Calls Tryz.prog 16 #[.agg #[.int .i64 0, .bool false, .string ta, .int .i64 ea], dcV cb nb tb eb, .int .i64 2] W fun e w' => e = .returned (.tuple #[.agg #[.int .i64 0, .bool false, .string tx, .int .i64 ex], .int .i64 0]) ∧ Below W.heap.size W w') (g1 : ∀ W, Tab W → Calls Tryz.prog 16 #[.agg #[.int .i64 0, .bool false, .string tx, .int .i64 ex], dcV cb nb tb eb, .int .i64 2] W fun e w' => e = .returned (.tuple #[.agg #[.int .i64 0, .bool false, .string tx, .int .i64 ex], .int .i64 0]) ∧ Below W.heap.size W w') (g2 : ∀ W, Tab W → Calls Tryz.prog 18 #[.agg #[.int .i64 0, .bool false, .string tx, .int .i64 ex], .agg #[.int .i64 0, .bool false, .string ta, .int .i64 ea]] W fun e w' => e = .returned (.tuple #[.agg #[.int .i64 cg, .bool ng, .string tg, .int .i64 eg], .bool true]) ∧ Below W.heap.size W w') (g3 : ∀ W, Tab W → Calls Tryz.prog 19 #[.agg #[.int .i64 cg, .bool ng, .string tg, .int .i64 eg], .agg #[.int .i64 cg, .bool ng, .string tg, .int .i64 eg]] W fun e w' => e = .returned (.tuple #[.agg #[.int .i64 ct, .bool nt, .string tt, .int .i64 et], .int .i64 rg]) ∧ Below W.heap.size W w') (g4 : ∀ W, Calls Tryz.prog 20 #[.agg #[.int .i64 cg, .bool ng, .string tg, .int .i64 eg], dcV cb nb tb eb] W fun e w' => e = .returned (.bool true) ∧ Below W.heap.size W w') (g5 : ∀ W, Calls Tryz.prog 20 #[.agg #[.int .i64 0, .bool false, .string tx, .int .i64 ex], .agg #[.int .i64 0, .bool false, .string ta, .int .i64 ea]] W fun e w' => e = .returned (.bool bl) ∧ Below W.heap.size W w') (g6 : ∀ W, Calls Tryz.prog 20 #[.agg #[.int .i64 0, .bool false, .string ta, .int .i64 ea], .agg #[.int .i64 0, .bool false, .string tx, .int .i64 ex]] W fun e w' => e = .returned (.bool false) ∧ Below W.heap.size W w') : Calls Tryz.prog 6 #[.agg #[.int .i64 0, .bool false, .string ta, .int .i64 ea], dcV cb nb tb eb, .int .i64 2] w fun e w' => e = .returned (.bool true) ∧ Below w.heap.size w w' := by
  have H0 := hide g0
  have H1 := hide g1
  have H2 := hide g2
  have H3 := hide g3
  have H4 := hide g4
  have H5 := hide g5
  have H6 := hide g6
  have q1 : (rg == 0) = false := by simpa using hg
  clear hg
  have HT := hide htab
  clear htab g0 g1 g2 g3 g4 g5 g6
  have Ba0 := hide ((Blk.newAt w (w.heap.size) (rfl) #[.int .i64 0, .bool false, .string ta, .int .i64 ea] 23).alloc (.cells #[.int .i64 cb, .bool nb, .string tb, .int .i64 eb] 23))
  have Bb0 := hide (Blk.newAt (w.alloc (.cells #[.int .i64 0, .bool false, .string ta, .int .i64 ea] 23)) (w.heap.size + 1) (by simp) #[.int .i64 cb, .bool nb, .string tb, .int .i64 eb] 23)
  have HB0 : Hid (Below w.heap.size w ((w.alloc (.cells #[.int .i64 0, .bool false, .string ta, .int .i64 ea] 23)).alloc (.cells #[.int .i64 cb, .bool nb, .string tb, .int .i64 eb] 23))) := (((Below.refl _ _).alloc (Nat.le_refl _) _).alloc (by simp <;> omega) _)
  go_enter Tryz.func6, Tryz.ntmps6
  go_wp2_with fail
  refine (H0.out _ (HT.out.below HB0.out)).mono ?_
  rintro e w1 ⟨rfl, hb⟩
  have Ba1 := Blk.on Ba0 hb
  have Bb1 := Blk.on Bb0 hb
  have HB1 := hide (HB0.out.trans (hb.mono HB0.out.size))
  clear hb Ba0 Bb0 HB0 
  obtain ⟨ya0, ya1, ya2, ya3⟩ := Ba1.out.four
  obtain ⟨yb0, yb1, yb2, yb3⟩ := Bb1.out.four
  have Ba2 := Blk.up Ba1 (.cells #[.int .i64 0, .bool false, .string tx, .int .i64 ex] 23)
  have Bb2 := Blk.up Bb1 (.cells #[.int .i64 0, .bool false, .string tx, .int .i64 ex] 23)
  have Bx2 := hide ((Blk.newAt w1 (w1.heap.size) (rfl) #[.int .i64 0, .bool false, .string tx, .int .i64 ex] 23))
  have HB2 : Hid (Below w.heap.size w (w1.alloc (.cells #[.int .i64 0, .bool false, .string tx, .int .i64 ex] 23))) := (HB1.out.alloc HB1.out.size _)
  clear Ba1 Bb1 HB1 ya0 ya1 ya2 ya3 yb0 yb1 yb2 yb3
  obtain ⟨ya0, ya1, ya2, ya3⟩ := Ba2.out.four
  obtain ⟨yb0, yb1, yb2, yb3⟩ := Bb2.out.four
  obtain ⟨yx0, yx1, yx2, yx3⟩ := Bx2.out.four
  go_wp2_with fail
  refine (rawake_any _ (HT.out.below HB2.out)).mono ?_
  rintro e w3 ⟨rfl, hb⟩
  have Ba3 := Blk.on Ba2 hb
  have Bb3 := Blk.on Bb2 hb
  have Bx3 := Blk.on Bx2 hb
  have HB3 := hide (HB2.out.trans (hb.mono HB2.out.size))
  clear hb Ba2 Bb2 Bx2 HB2 ya0 ya1 ya2 ya3 yb0 yb1 yb2 yb3 yx0 yx1 yx2 yx3
  obtain ⟨ya0, ya1, ya2, ya3⟩ := Ba3.out.four
  obtain ⟨yb0, yb1, yb2, yb3⟩ := Bb3.out.four
  obtain ⟨yx0, yx1, yx2, yx3⟩ := Bx3.out.four
  go_wp2_with fail
  refine (H1.out _ (HT.out.below HB3.out)).mono ?_
  rintro e w4 ⟨rfl, hb⟩
  have Ba4 := Blk.on Ba3 hb
  have Bb4 := Blk.on Bb3 hb
  have Bx4 := Blk.on Bx3 hb
  have HB4 := hide (HB3.out.trans (hb.mono HB3.out.size))
  clear hb Ba3 Bb3 Bx3 HB3 ya0 ya1 ya2 ya3 yb0 yb1 yb2 yb3 yx0 yx1 yx2 yx3
  obtain ⟨ya0, ya1, ya2, ya3⟩ := Ba4.out.four
  obtain ⟨yb0, yb1, yb2, yb3⟩ := Bb4.out.four
  obtain ⟨yx0, yx1, yx2, yx3⟩ := Bx4.out.four
  have Ba5 := Blk.up Ba4 (.cells #[.int .i64 0, .bool false, .string tx, .int .i64 ex] 23)
  have Bb5 := Blk.up Bb4 (.cells #[.int .i64 0, .bool false, .string tx, .int .i64 ex] 23)
  have Bx5 := Blk.up Bx4 (.cells #[.int .i64 0, .bool false, .string tx, .int .i64 ex] 23)
  have By5 := hide ((Blk.newAt w4 (w4.heap.size) (rfl) #[.int .i64 0, .bool false, .string tx, .int .i64 ex] 23))
  have HB5 : Hid (Below w.heap.size w (w4.alloc (.cells #[.int .i64 0, .bool false, .string tx, .int .i64 ex] 23))) := (HB4.out.alloc HB4.out.size _)
  clear Ba4 Bb4 Bx4 HB4 ya0 ya1 ya2 ya3 yb0 yb1 yb2 yb3 yx0 yx1 yx2 yx3
  obtain ⟨ya0, ya1, ya2, ya3⟩ := Ba5.out.four
  obtain ⟨yb0, yb1, yb2, yb3⟩ := Bb5.out.four
  obtain ⟨yx0, yx1, yx2, yx3⟩ := Bx5.out.four
  obtain ⟨yy0, yy1, yy2, yy3⟩ := By5.out.four
  go_wp2_with fail
  refine (H2.out _ (HT.out.below HB5.out)).mono ?_
  rintro e w6 ⟨rfl, hb⟩
  have Ba6 := Blk.on Ba5 hb
  have Bb6 := Blk.on Bb5 hb
  have Bx6 := Blk.on Bx5 hb
  have By6 := Blk.on By5 hb
  have HB6 := hide (HB5.out.trans (hb.mono HB5.out.size))
  clear hb Ba5 Bb5 Bx5 By5 HB5 ya0 ya1 ya2 ya3 yb0 yb1 yb2 yb3 yx0 yx1 yx2 yx3 yy0 yy1 yy2 yy3
  obtain ⟨ya0, ya1, ya2, ya3⟩ := Ba6.out.four
  obtain ⟨yb0, yb1, yb2, yb3⟩ := Bb6.out.four
  obtain ⟨yx0, yx1, yx2, yx3⟩ := Bx6.out.four
  obtain ⟨yy0, yy1, yy2, yy3⟩ := By6.out.four
  have Ba7 := Blk.up Ba6 (.cells #[.int .i64 cg, .bool ng, .string tg, .int .i64 eg] 23)
  have Bb7 := Blk.up Bb6 (.cells #[.int .i64 cg, .bool ng, .string tg, .int .i64 eg] 23)
  have Bx7 := Blk.up Bx6 (.cells #[.int .i64 cg, .bool ng, .string tg, .int .i64 eg] 23)
  have By7 := Blk.up By6 (.cells #[.int .i64 cg, .bool ng, .string tg, .int .i64 eg] 23)
  have Bg7 := hide ((Blk.newAt w6 (w6.heap.size) (rfl) #[.int .i64 cg, .bool ng, .string tg, .int .i64 eg] 23))
  have HB7 : Hid (Below w.heap.size w (w6.alloc (.cells #[.int .i64 cg, .bool ng, .string tg, .int .i64 eg] 23))) := (HB6.out.alloc HB6.out.size _)
  clear Ba6 Bb6 Bx6 By6 HB6 ya0 ya1 ya2 ya3 yb0 yb1 yb2 yb3 yx0 yx1 yx2 yx3 yy0 yy1 yy2 yy3
  obtain ⟨ya0, ya1, ya2, ya3⟩ := Ba7.out.four
  obtain ⟨yb0, yb1, yb2, yb3⟩ := Bb7.out.four
  obtain ⟨yx0, yx1, yx2, yx3⟩ := Bx7.out.four
  obtain ⟨yy0, yy1, yy2, yy3⟩ := By7.out.four
  obtain ⟨yg0, yg1, yg2, yg3⟩ := Bg7.out.four
  go_wp2_with fail
  refine (H3.out _ (HT.out.below HB7.out)).mono ?_
  rintro e w8 ⟨rfl, hb⟩
  have Ba8 := Blk.on Ba7 hb
  have Bb8 := Blk.on Bb7 hb
  have Bx8 := Blk.on Bx7 hb
  have By8 := Blk.on By7 hb
  have Bg8 := Blk.on Bg7 hb
  have HB8 := hide (HB7.out.trans (hb.mono HB7.out.size))
  clear hb Ba7 Bb7 Bx7 By7 Bg7 HB7 ya0 ya1 ya2 ya3 yb0 yb1 yb2 yb3 yx0 yx1 yx2 yx3 yy0 yy1 yy2 yy3 yg0 yg1 yg2 yg3
  obtain ⟨ya0, ya1, ya2, ya3⟩ := Ba8.out.four
  obtain ⟨yb0, yb1, yb2, yb3⟩ := Bb8.out.four
  obtain ⟨yx0, yx1, yx2, yx3⟩ := Bx8.out.four
  obtain ⟨yy0, yy1, yy2, yy3⟩ := By8.out.four
  obtain ⟨yg0, yg1, yg2, yg3⟩ := Bg8.out.four
  have Ba9 := Blk.up Ba8 (.cells #[.int .i64 ct, .bool nt, .string tt, .int .i64 et] 23)
  have Bb9 := Blk.up Bb8 (.cells #[.int .i64 ct, .bool nt, .string tt, .int .i64 et] 23)
  have Bx9 := Blk.up Bx8 (.cells #[.int .i64 ct, .bool nt, .string tt, .int .i64 et] 23)
  have By9 := Blk.up By8 (.cells #[.int .i64 ct, .bool nt, .string tt, .int .i64 et] 23)
  have Bg9 := Blk.up Bg8 (.cells #[.int .i64 ct, .bool nt, .string tt, .int .i64 et] 23)
  have Bt9 := hide ((Blk.newAt w8 (w8.heap.size) (rfl) #[.int .i64 ct, .bool nt, .string tt, .int .i64 et] 23))
  have HB9 : Hid (Below w.heap.size w (w8.alloc (.cells #[.int .i64 ct, .bool nt, .string tt, .int .i64 et] 23))) := (HB8.out.alloc HB8.out.size _)
  clear Ba8 Bb8 Bx8 By8 Bg8 HB8 ya0 ya1 ya2 ya3 yb0 yb1 yb2 yb3 yx0 yx1 yx2 yx3 yy0 yy1 yy2 yy3 yg0 yg1 yg2 yg3
  obtain ⟨ya0, ya1, ya2, ya3⟩ := Ba9.out.four
  obtain ⟨yb0, yb1, yb2, yb3⟩ := Bb9.out.four
  obtain ⟨yx0, yx1, yx2, yx3⟩ := Bx9.out.four
  obtain ⟨yy0, yy1, yy2, yy3⟩ := By9.out.four
  obtain ⟨yg0, yg1, yg2, yg3⟩ := Bg9.out.four
  obtain ⟨yt0, yt1, yt2, yt3⟩ := Bt9.out.four
  go_wp2_with fail
  refine (H4.out _).mono ?_
  rintro e w10 ⟨rfl, hb⟩
  have Ba10 := Blk.on Ba9 hb
  have Bb10 := Blk.on Bb9 hb
  have Bx10 := Blk.on Bx9 hb
  have By10 := Blk.on By9 hb
  have Bg10 := Blk.on Bg9 hb
  have Bt10 := Blk.on Bt9 hb
  have HB10 := hide (HB9.out.trans (hb.mono HB9.out.size))
  clear hb Ba9 Bb9 Bx9 By9 Bg9 Bt9 HB9 ya0 ya1 ya2 ya3 yb0 yb1 yb2 yb3 yx0 yx1 yx2 yx3 yy0 yy1 yy2 yy3 yg0 yg1 yg2 yg3 yt0 yt1 yt2 yt3
  obtain ⟨ya0, ya1, ya2, ya3⟩ := Ba10.out.four
  obtain ⟨yb0, yb1, yb2, yb3⟩ := Bb10.out.four
  obtain ⟨yx0, yx1, yx2, yx3⟩ := Bx10.out.four
  obtain ⟨yy0, yy1, yy2, yy3⟩ := By10.out.four
  obtain ⟨yg0, yg1, yg2, yg3⟩ := Bg10.out.four
  obtain ⟨yt0, yt1, yt2, yt3⟩ := Bt10.out.four
  have b0 : Hid (Below w10.heap.size w10 w10.drew) := bdrewD w10
  have C0 : Hid (∀ X, Hid (Below w10.heap.size w10 X) → Calls Tryz.prog 20 #[.agg #[.int .i64 0, .bool false, .string tx, .int .i64 ex], .agg #[.int .i64 0, .bool false, .string ta, .int .i64 ea]] X fun e w' => e = .returned (.bool bl) ∧ Hid (Below w10.heap.size w10 w') ∧ w'.cell? ⟨w.heap.size, 0, none⟩ = some (.int .i64 0) ∧ w'.cell? ⟨w.heap.size, 1, none⟩ = some (.bool false) ∧ w'.cell? ⟨w.heap.size, 2, none⟩ = some (.string ta) ∧ w'.cell? ⟨w.heap.size, 3, none⟩ = some (.int .i64 ea) ∧ w'.cell? ⟨w1.heap.size, 0, none⟩ = some (.int .i64 0) ∧ w'.cell? ⟨w1.heap.size, 1, none⟩ = some (.bool false) ∧ w'.cell? ⟨w1.heap.size, 2, none⟩ = some (.string tx) ∧ w'.cell? ⟨w1.heap.size, 3, none⟩ = some (.int .i64 ex)) := by
    intro X bX
    refine (H5.out X).mono ?_
    rintro e w' ⟨rfl, hb⟩
    have bb := bX.out.trans (hb.mono bX.out.size)
    have Baq := Ba10.out.below bb Ba10.out.lt
    have Bxq := Bx10.out.below bb Bx10.out.lt
    exact ⟨rfl, bb, Baq.cell 0, Baq.cell 1, Baq.cell 2, Baq.cell 3, Bxq.cell 0, Bxq.cell 1, Bxq.cell 2, Bxq.cell 3⟩
  have C1 : Hid (∀ X, Hid (Below w10.heap.size w10 X) → Calls Tryz.prog 20 #[.agg #[.int .i64 0, .bool false, .string ta, .int .i64 ea], .agg #[.int .i64 0, .bool false, .string tx, .int .i64 ex]] X fun e w' => e = .returned (.bool false) ∧ Hid (Below w10.heap.size w10 w') ∧ w'.cell? ⟨w.heap.size, 0, none⟩ = some (.int .i64 0) ∧ w'.cell? ⟨w.heap.size, 1, none⟩ = some (.bool false) ∧ w'.cell? ⟨w.heap.size, 2, none⟩ = some (.string ta) ∧ w'.cell? ⟨w.heap.size, 3, none⟩ = some (.int .i64 ea) ∧ w'.cell? ⟨w1.heap.size, 0, none⟩ = some (.int .i64 0) ∧ w'.cell? ⟨w1.heap.size, 1, none⟩ = some (.bool false) ∧ w'.cell? ⟨w1.heap.size, 2, none⟩ = some (.string tx) ∧ w'.cell? ⟨w1.heap.size, 3, none⟩ = some (.int .i64 ex)) := by
    intro X bX
    refine (H6.out X).mono ?_
    rintro e w' ⟨rfl, hb⟩
    have bb := bX.out.trans (hb.mono bX.out.size)
    have Baq := Ba10.out.below bb Ba10.out.lt
    have Bxq := Bx10.out.below bb Bx10.out.lt
    exact ⟨rfl, bb, Baq.cell 0, Baq.cell 1, Baq.cell 2, Baq.cell 3, Bxq.cell 0, Bxq.cell 1, Bxq.cell 2, Bxq.cell 3⟩
  go_wp2_with fail
  have mk0 : True := trivial
  go_region_held3 (fun w' => w'.cell? ⟨w.heap.size, 0, none⟩ = some (.int .i64 0) ∧ w'.cell? ⟨w.heap.size, 1, none⟩ = some (.bool false) ∧ w'.cell? ⟨w.heap.size, 2, none⟩ = some (.string ta) ∧ w'.cell? ⟨w.heap.size, 3, none⟩ = some (.int .i64 ea) ∧ w'.cell? ⟨w1.heap.size, 0, none⟩ = some (.int .i64 0) ∧ w'.cell? ⟨w1.heap.size, 1, none⟩ = some (.bool false) ∧ w'.cell? ⟨w1.heap.size, 2, none⟩ = some (.string tx) ∧ w'.cell? ⟨w1.heap.size, 3, none⟩ = some (.int .i64 ex)) (go_keep) (first
    | (clear mk0; go_at_call 20; refine (C0.out _ b0).mono ?_; rintro e w11 ⟨rfl, b1, q0_0, q0_1, q0_2, q0_3, q0_4, q0_5, q0_6, q0_7⟩; have mk1 : True := trivial)
    | (clear mk1; go_at_call 20; refine (C1.out _ b1).mono ?_; rintro e w12 ⟨rfl, b2, q1_0, q1_1, q1_2, q1_3, q1_4, q1_5, q1_6, q1_7⟩; have mk2 : True := trivial))
  have Ba12 := hide (Ba10.out.below b2.out Ba10.out.lt)
  have Bb12 := hide (Bb10.out.below b2.out Bb10.out.lt)
  have Bx12 := hide (Bx10.out.below b2.out Bx10.out.lt)
  have By12 := hide (By10.out.below b2.out By10.out.lt)
  have Bg12 := hide (Bg10.out.below b2.out Bg10.out.lt)
  have Bt12 := hide (Bt10.out.below b2.out Bt10.out.lt)
  have HB12 := hide (HB10.out.trans (b2.out.mono HB10.out.size))
  clear mk2 b0 b1 b2 C0 C1 q0_0 q0_1 q0_2 q0_3 q0_4 q0_5 q0_6 q0_7 q1_0 q1_1 q1_2 q1_3 q1_4 q1_5 q1_6 q1_7 Ba10 Bb10 Bx10 By10 Bg10 Bt10 HB10 ya0 ya1 ya2 ya3 yb0 yb1 yb2 yb3 yx0 yx1 yx2 yx3 yy0 yy1 yy2 yy3 yg0 yg1 yg2 yg3 yt0 yt1 yt2 yt3
  obtain ⟨ya0, ya1, ya2, ya3⟩ := Ba12.out.four
  obtain ⟨yb0, yb1, yb2, yb3⟩ := Bb12.out.four
  obtain ⟨yx0, yx1, yx2, yx3⟩ := Bx12.out.four
  obtain ⟨yy0, yy1, yy2, yy3⟩ := By12.out.four
  obtain ⟨yg0, yg1, yg2, yg3⟩ := Bg12.out.four
  obtain ⟨yt0, yt1, yt2, yt3⟩ := Bt12.out.four
  go_wp2
  go_ret
  exact ⟨rfl, HB12.out⟩


set_option maxRecDepth 100000 in
set_option maxHeartbeats 4000000 in
theorem near_3tr (ta : ByteArray) (ea : Int) (cb : Int) (nb : Bool) (tb : ByteArray) (eb : Int) (tx : ByteArray) (ex : Int) (w : World) (htab : Tab w) (cg : Int) (ng : Bool) (tg : ByteArray) (eg : Int) (ct : Int) (nt : Bool) (tt : ByteArray) (et : Int) (rg : Int) (hg : ¬ rg = 0) (bl : Bool) (g0 : ∀ W, Tab W → Calls Tryz.prog 16 #[.agg #[.int .i64 0, .bool true, .string ta, .int .i64 ea], dcV cb nb tb eb, .int .i64 3] W fun e w' => e = .returned (.tuple #[.agg #[.int .i64 0, .bool true, .string tx, .int .i64 ex], .int .i64 0]) ∧ Below W.heap.size W w') (g1 : ∀ W, Tab W → Calls Tryz.prog 16 #[.agg #[.int .i64 0, .bool true, .string tx, .int .i64 ex], dcV cb nb tb eb, .int .i64 3] W fun e w' => e = .returned (.tuple #[.agg #[.int .i64 0, .bool true, .string tx, .int .i64 ex], .int .i64 0]) ∧ Below W.heap.size W w') (g2 : ∀ W, Tab W → Calls Tryz.prog 18 #[.agg #[.int .i64 0, .bool true, .string tx, .int .i64 ex], .agg #[.int .i64 0, .bool true, .string ta, .int .i64 ea]] W fun e w' => e = .returned (.tuple #[.agg #[.int .i64 cg, .bool ng, .string tg, .int .i64 eg], .bool true]) ∧ Below W.heap.size W w') (g3 : ∀ W, Tab W → Calls Tryz.prog 19 #[.agg #[.int .i64 cg, .bool ng, .string tg, .int .i64 eg], .agg #[.int .i64 cg, .bool ng, .string tg, .int .i64 eg]] W fun e w' => e = .returned (.tuple #[.agg #[.int .i64 ct, .bool nt, .string tt, .int .i64 et], .int .i64 rg]) ∧ Below W.heap.size W w') (g4 : ∀ W, Calls Tryz.prog 20 #[.agg #[.int .i64 cg, .bool ng, .string tg, .int .i64 eg], dcV cb nb tb eb] W fun e w' => e = .returned (.bool true) ∧ Below W.heap.size W w') (g5 : ∀ W, Calls Tryz.prog 20 #[.agg #[.int .i64 0, .bool true, .string tx, .int .i64 ex], .agg #[.int .i64 0, .bool true, .string ta, .int .i64 ea]] W fun e w' => e = .returned (.bool bl) ∧ Below W.heap.size W w') (g6 : ∀ W, Calls Tryz.prog 20 #[.agg #[.int .i64 0, .bool true, .string ta, .int .i64 ea], .agg #[.int .i64 0, .bool true, .string tx, .int .i64 ex]] W fun e w' => e = .returned (.bool false) ∧ Below W.heap.size W w') : Calls Tryz.prog 6 #[.agg #[.int .i64 0, .bool true, .string ta, .int .i64 ea], dcV cb nb tb eb, .int .i64 3] w fun e w' => e = .returned (.bool true) ∧ Below w.heap.size w w' := by
  have H0 := hide g0
  have H1 := hide g1
  have H2 := hide g2
  have H3 := hide g3
  have H4 := hide g4
  have H5 := hide g5
  have H6 := hide g6
  have q1 : (rg == 0) = false := by simpa using hg
  clear hg
  have HT := hide htab
  clear htab g0 g1 g2 g3 g4 g5 g6
  have Ba0 := hide ((Blk.newAt w (w.heap.size) (rfl) #[.int .i64 0, .bool true, .string ta, .int .i64 ea] 23).alloc (.cells #[.int .i64 cb, .bool nb, .string tb, .int .i64 eb] 23))
  have Bb0 := hide (Blk.newAt (w.alloc (.cells #[.int .i64 0, .bool true, .string ta, .int .i64 ea] 23)) (w.heap.size + 1) (by simp) #[.int .i64 cb, .bool nb, .string tb, .int .i64 eb] 23)
  have HB0 : Hid (Below w.heap.size w ((w.alloc (.cells #[.int .i64 0, .bool true, .string ta, .int .i64 ea] 23)).alloc (.cells #[.int .i64 cb, .bool nb, .string tb, .int .i64 eb] 23))) := (((Below.refl _ _).alloc (Nat.le_refl _) _).alloc (by simp <;> omega) _)
  go_enter Tryz.func6, Tryz.ntmps6
  go_wp2_with fail
  refine (H0.out _ (HT.out.below HB0.out)).mono ?_
  rintro e w1 ⟨rfl, hb⟩
  have Ba1 := Blk.on Ba0 hb
  have Bb1 := Blk.on Bb0 hb
  have HB1 := hide (HB0.out.trans (hb.mono HB0.out.size))
  clear hb Ba0 Bb0 HB0 
  obtain ⟨ya0, ya1, ya2, ya3⟩ := Ba1.out.four
  obtain ⟨yb0, yb1, yb2, yb3⟩ := Bb1.out.four
  have Ba2 := Blk.up Ba1 (.cells #[.int .i64 0, .bool true, .string tx, .int .i64 ex] 23)
  have Bb2 := Blk.up Bb1 (.cells #[.int .i64 0, .bool true, .string tx, .int .i64 ex] 23)
  have Bx2 := hide ((Blk.newAt w1 (w1.heap.size) (rfl) #[.int .i64 0, .bool true, .string tx, .int .i64 ex] 23))
  have HB2 : Hid (Below w.heap.size w (w1.alloc (.cells #[.int .i64 0, .bool true, .string tx, .int .i64 ex] 23))) := (HB1.out.alloc HB1.out.size _)
  clear Ba1 Bb1 HB1 ya0 ya1 ya2 ya3 yb0 yb1 yb2 yb3
  obtain ⟨ya0, ya1, ya2, ya3⟩ := Ba2.out.four
  obtain ⟨yb0, yb1, yb2, yb3⟩ := Bb2.out.four
  obtain ⟨yx0, yx1, yx2, yx3⟩ := Bx2.out.four
  go_wp2_with fail
  refine (rawake_any _ (HT.out.below HB2.out)).mono ?_
  rintro e w3 ⟨rfl, hb⟩
  have Ba3 := Blk.on Ba2 hb
  have Bb3 := Blk.on Bb2 hb
  have Bx3 := Blk.on Bx2 hb
  have HB3 := hide (HB2.out.trans (hb.mono HB2.out.size))
  clear hb Ba2 Bb2 Bx2 HB2 ya0 ya1 ya2 ya3 yb0 yb1 yb2 yb3 yx0 yx1 yx2 yx3
  obtain ⟨ya0, ya1, ya2, ya3⟩ := Ba3.out.four
  obtain ⟨yb0, yb1, yb2, yb3⟩ := Bb3.out.four
  obtain ⟨yx0, yx1, yx2, yx3⟩ := Bx3.out.four
  go_wp2_with fail
  refine (H1.out _ (HT.out.below HB3.out)).mono ?_
  rintro e w4 ⟨rfl, hb⟩
  have Ba4 := Blk.on Ba3 hb
  have Bb4 := Blk.on Bb3 hb
  have Bx4 := Blk.on Bx3 hb
  have HB4 := hide (HB3.out.trans (hb.mono HB3.out.size))
  clear hb Ba3 Bb3 Bx3 HB3 ya0 ya1 ya2 ya3 yb0 yb1 yb2 yb3 yx0 yx1 yx2 yx3
  obtain ⟨ya0, ya1, ya2, ya3⟩ := Ba4.out.four
  obtain ⟨yb0, yb1, yb2, yb3⟩ := Bb4.out.four
  obtain ⟨yx0, yx1, yx2, yx3⟩ := Bx4.out.four
  have Ba5 := Blk.up Ba4 (.cells #[.int .i64 0, .bool true, .string tx, .int .i64 ex] 23)
  have Bb5 := Blk.up Bb4 (.cells #[.int .i64 0, .bool true, .string tx, .int .i64 ex] 23)
  have Bx5 := Blk.up Bx4 (.cells #[.int .i64 0, .bool true, .string tx, .int .i64 ex] 23)
  have By5 := hide ((Blk.newAt w4 (w4.heap.size) (rfl) #[.int .i64 0, .bool true, .string tx, .int .i64 ex] 23))
  have HB5 : Hid (Below w.heap.size w (w4.alloc (.cells #[.int .i64 0, .bool true, .string tx, .int .i64 ex] 23))) := (HB4.out.alloc HB4.out.size _)
  clear Ba4 Bb4 Bx4 HB4 ya0 ya1 ya2 ya3 yb0 yb1 yb2 yb3 yx0 yx1 yx2 yx3
  obtain ⟨ya0, ya1, ya2, ya3⟩ := Ba5.out.four
  obtain ⟨yb0, yb1, yb2, yb3⟩ := Bb5.out.four
  obtain ⟨yx0, yx1, yx2, yx3⟩ := Bx5.out.four
  obtain ⟨yy0, yy1, yy2, yy3⟩ := By5.out.four
  go_wp2_with fail
  refine (H2.out _ (HT.out.below HB5.out)).mono ?_
  rintro e w6 ⟨rfl, hb⟩
  have Ba6 := Blk.on Ba5 hb
  have Bb6 := Blk.on Bb5 hb
  have Bx6 := Blk.on Bx5 hb
  have By6 := Blk.on By5 hb
  have HB6 := hide (HB5.out.trans (hb.mono HB5.out.size))
  clear hb Ba5 Bb5 Bx5 By5 HB5 ya0 ya1 ya2 ya3 yb0 yb1 yb2 yb3 yx0 yx1 yx2 yx3 yy0 yy1 yy2 yy3
  obtain ⟨ya0, ya1, ya2, ya3⟩ := Ba6.out.four
  obtain ⟨yb0, yb1, yb2, yb3⟩ := Bb6.out.four
  obtain ⟨yx0, yx1, yx2, yx3⟩ := Bx6.out.four
  obtain ⟨yy0, yy1, yy2, yy3⟩ := By6.out.four
  have Ba7 := Blk.up Ba6 (.cells #[.int .i64 cg, .bool ng, .string tg, .int .i64 eg] 23)
  have Bb7 := Blk.up Bb6 (.cells #[.int .i64 cg, .bool ng, .string tg, .int .i64 eg] 23)
  have Bx7 := Blk.up Bx6 (.cells #[.int .i64 cg, .bool ng, .string tg, .int .i64 eg] 23)
  have By7 := Blk.up By6 (.cells #[.int .i64 cg, .bool ng, .string tg, .int .i64 eg] 23)
  have Bg7 := hide ((Blk.newAt w6 (w6.heap.size) (rfl) #[.int .i64 cg, .bool ng, .string tg, .int .i64 eg] 23))
  have HB7 : Hid (Below w.heap.size w (w6.alloc (.cells #[.int .i64 cg, .bool ng, .string tg, .int .i64 eg] 23))) := (HB6.out.alloc HB6.out.size _)
  clear Ba6 Bb6 Bx6 By6 HB6 ya0 ya1 ya2 ya3 yb0 yb1 yb2 yb3 yx0 yx1 yx2 yx3 yy0 yy1 yy2 yy3
  obtain ⟨ya0, ya1, ya2, ya3⟩ := Ba7.out.four
  obtain ⟨yb0, yb1, yb2, yb3⟩ := Bb7.out.four
  obtain ⟨yx0, yx1, yx2, yx3⟩ := Bx7.out.four
  obtain ⟨yy0, yy1, yy2, yy3⟩ := By7.out.four
  obtain ⟨yg0, yg1, yg2, yg3⟩ := Bg7.out.four
  go_wp2_with fail
  refine (H3.out _ (HT.out.below HB7.out)).mono ?_
  rintro e w8 ⟨rfl, hb⟩
  have Ba8 := Blk.on Ba7 hb
  have Bb8 := Blk.on Bb7 hb
  have Bx8 := Blk.on Bx7 hb
  have By8 := Blk.on By7 hb
  have Bg8 := Blk.on Bg7 hb
  have HB8 := hide (HB7.out.trans (hb.mono HB7.out.size))
  clear hb Ba7 Bb7 Bx7 By7 Bg7 HB7 ya0 ya1 ya2 ya3 yb0 yb1 yb2 yb3 yx0 yx1 yx2 yx3 yy0 yy1 yy2 yy3 yg0 yg1 yg2 yg3
  obtain ⟨ya0, ya1, ya2, ya3⟩ := Ba8.out.four
  obtain ⟨yb0, yb1, yb2, yb3⟩ := Bb8.out.four
  obtain ⟨yx0, yx1, yx2, yx3⟩ := Bx8.out.four
  obtain ⟨yy0, yy1, yy2, yy3⟩ := By8.out.four
  obtain ⟨yg0, yg1, yg2, yg3⟩ := Bg8.out.four
  have Ba9 := Blk.up Ba8 (.cells #[.int .i64 ct, .bool nt, .string tt, .int .i64 et] 23)
  have Bb9 := Blk.up Bb8 (.cells #[.int .i64 ct, .bool nt, .string tt, .int .i64 et] 23)
  have Bx9 := Blk.up Bx8 (.cells #[.int .i64 ct, .bool nt, .string tt, .int .i64 et] 23)
  have By9 := Blk.up By8 (.cells #[.int .i64 ct, .bool nt, .string tt, .int .i64 et] 23)
  have Bg9 := Blk.up Bg8 (.cells #[.int .i64 ct, .bool nt, .string tt, .int .i64 et] 23)
  have Bt9 := hide ((Blk.newAt w8 (w8.heap.size) (rfl) #[.int .i64 ct, .bool nt, .string tt, .int .i64 et] 23))
  have HB9 : Hid (Below w.heap.size w (w8.alloc (.cells #[.int .i64 ct, .bool nt, .string tt, .int .i64 et] 23))) := (HB8.out.alloc HB8.out.size _)
  clear Ba8 Bb8 Bx8 By8 Bg8 HB8 ya0 ya1 ya2 ya3 yb0 yb1 yb2 yb3 yx0 yx1 yx2 yx3 yy0 yy1 yy2 yy3 yg0 yg1 yg2 yg3
  obtain ⟨ya0, ya1, ya2, ya3⟩ := Ba9.out.four
  obtain ⟨yb0, yb1, yb2, yb3⟩ := Bb9.out.four
  obtain ⟨yx0, yx1, yx2, yx3⟩ := Bx9.out.four
  obtain ⟨yy0, yy1, yy2, yy3⟩ := By9.out.four
  obtain ⟨yg0, yg1, yg2, yg3⟩ := Bg9.out.four
  obtain ⟨yt0, yt1, yt2, yt3⟩ := Bt9.out.four
  go_wp2_with fail
  refine (H4.out _).mono ?_
  rintro e w10 ⟨rfl, hb⟩
  have Ba10 := Blk.on Ba9 hb
  have Bb10 := Blk.on Bb9 hb
  have Bx10 := Blk.on Bx9 hb
  have By10 := Blk.on By9 hb
  have Bg10 := Blk.on Bg9 hb
  have Bt10 := Blk.on Bt9 hb
  have HB10 := hide (HB9.out.trans (hb.mono HB9.out.size))
  clear hb Ba9 Bb9 Bx9 By9 Bg9 Bt9 HB9 ya0 ya1 ya2 ya3 yb0 yb1 yb2 yb3 yx0 yx1 yx2 yx3 yy0 yy1 yy2 yy3 yg0 yg1 yg2 yg3 yt0 yt1 yt2 yt3
  obtain ⟨ya0, ya1, ya2, ya3⟩ := Ba10.out.four
  obtain ⟨yb0, yb1, yb2, yb3⟩ := Bb10.out.four
  obtain ⟨yx0, yx1, yx2, yx3⟩ := Bx10.out.four
  obtain ⟨yy0, yy1, yy2, yy3⟩ := By10.out.four
  obtain ⟨yg0, yg1, yg2, yg3⟩ := Bg10.out.four
  obtain ⟨yt0, yt1, yt2, yt3⟩ := Bt10.out.four
  have b0 : Hid (Below w10.heap.size w10 w10.drew) := bdrewD w10
  have C0 : Hid (∀ X, Hid (Below w10.heap.size w10 X) → Calls Tryz.prog 20 #[.agg #[.int .i64 0, .bool true, .string tx, .int .i64 ex], .agg #[.int .i64 0, .bool true, .string ta, .int .i64 ea]] X fun e w' => e = .returned (.bool bl) ∧ Hid (Below w10.heap.size w10 w') ∧ w'.cell? ⟨w.heap.size, 0, none⟩ = some (.int .i64 0) ∧ w'.cell? ⟨w.heap.size, 1, none⟩ = some (.bool true) ∧ w'.cell? ⟨w.heap.size, 2, none⟩ = some (.string ta) ∧ w'.cell? ⟨w.heap.size, 3, none⟩ = some (.int .i64 ea) ∧ w'.cell? ⟨w1.heap.size, 0, none⟩ = some (.int .i64 0) ∧ w'.cell? ⟨w1.heap.size, 1, none⟩ = some (.bool true) ∧ w'.cell? ⟨w1.heap.size, 2, none⟩ = some (.string tx) ∧ w'.cell? ⟨w1.heap.size, 3, none⟩ = some (.int .i64 ex)) := by
    intro X bX
    refine (H5.out X).mono ?_
    rintro e w' ⟨rfl, hb⟩
    have bb := bX.out.trans (hb.mono bX.out.size)
    have Baq := Ba10.out.below bb Ba10.out.lt
    have Bxq := Bx10.out.below bb Bx10.out.lt
    exact ⟨rfl, bb, Baq.cell 0, Baq.cell 1, Baq.cell 2, Baq.cell 3, Bxq.cell 0, Bxq.cell 1, Bxq.cell 2, Bxq.cell 3⟩
  have C1 : Hid (∀ X, Hid (Below w10.heap.size w10 X) → Calls Tryz.prog 20 #[.agg #[.int .i64 0, .bool true, .string ta, .int .i64 ea], .agg #[.int .i64 0, .bool true, .string tx, .int .i64 ex]] X fun e w' => e = .returned (.bool false) ∧ Hid (Below w10.heap.size w10 w') ∧ w'.cell? ⟨w.heap.size, 0, none⟩ = some (.int .i64 0) ∧ w'.cell? ⟨w.heap.size, 1, none⟩ = some (.bool true) ∧ w'.cell? ⟨w.heap.size, 2, none⟩ = some (.string ta) ∧ w'.cell? ⟨w.heap.size, 3, none⟩ = some (.int .i64 ea) ∧ w'.cell? ⟨w1.heap.size, 0, none⟩ = some (.int .i64 0) ∧ w'.cell? ⟨w1.heap.size, 1, none⟩ = some (.bool true) ∧ w'.cell? ⟨w1.heap.size, 2, none⟩ = some (.string tx) ∧ w'.cell? ⟨w1.heap.size, 3, none⟩ = some (.int .i64 ex)) := by
    intro X bX
    refine (H6.out X).mono ?_
    rintro e w' ⟨rfl, hb⟩
    have bb := bX.out.trans (hb.mono bX.out.size)
    have Baq := Ba10.out.below bb Ba10.out.lt
    have Bxq := Bx10.out.below bb Bx10.out.lt
    exact ⟨rfl, bb, Baq.cell 0, Baq.cell 1, Baq.cell 2, Baq.cell 3, Bxq.cell 0, Bxq.cell 1, Bxq.cell 2, Bxq.cell 3⟩
  go_wp2_with fail
  have mk0 : True := trivial
  go_region_held3 (fun w' => w'.cell? ⟨w.heap.size, 0, none⟩ = some (.int .i64 0) ∧ w'.cell? ⟨w.heap.size, 1, none⟩ = some (.bool true) ∧ w'.cell? ⟨w.heap.size, 2, none⟩ = some (.string ta) ∧ w'.cell? ⟨w.heap.size, 3, none⟩ = some (.int .i64 ea) ∧ w'.cell? ⟨w1.heap.size, 0, none⟩ = some (.int .i64 0) ∧ w'.cell? ⟨w1.heap.size, 1, none⟩ = some (.bool true) ∧ w'.cell? ⟨w1.heap.size, 2, none⟩ = some (.string tx) ∧ w'.cell? ⟨w1.heap.size, 3, none⟩ = some (.int .i64 ex)) (go_keep) (first
    | (clear mk0; go_at_call 20; refine (C0.out _ b0).mono ?_; rintro e w11 ⟨rfl, b1, q0_0, q0_1, q0_2, q0_3, q0_4, q0_5, q0_6, q0_7⟩; have mk1 : True := trivial)
    | (clear mk1; go_at_call 20; refine (C1.out _ b1).mono ?_; rintro e w12 ⟨rfl, b2, q1_0, q1_1, q1_2, q1_3, q1_4, q1_5, q1_6, q1_7⟩; have mk2 : True := trivial))
  have Ba12 := hide (Ba10.out.below b2.out Ba10.out.lt)
  have Bb12 := hide (Bb10.out.below b2.out Bb10.out.lt)
  have Bx12 := hide (Bx10.out.below b2.out Bx10.out.lt)
  have By12 := hide (By10.out.below b2.out By10.out.lt)
  have Bg12 := hide (Bg10.out.below b2.out Bg10.out.lt)
  have Bt12 := hide (Bt10.out.below b2.out Bt10.out.lt)
  have HB12 := hide (HB10.out.trans (b2.out.mono HB10.out.size))
  clear mk2 b0 b1 b2 C0 C1 q0_0 q0_1 q0_2 q0_3 q0_4 q0_5 q0_6 q0_7 q1_0 q1_1 q1_2 q1_3 q1_4 q1_5 q1_6 q1_7 Ba10 Bb10 Bx10 By10 Bg10 Bt10 HB10 ya0 ya1 ya2 ya3 yb0 yb1 yb2 yb3 yx0 yx1 yx2 yx3 yy0 yy1 yy2 yy3 yg0 yg1 yg2 yg3 yt0 yt1 yt2 yt3
  obtain ⟨ya0, ya1, ya2, ya3⟩ := Ba12.out.four
  obtain ⟨yb0, yb1, yb2, yb3⟩ := Bb12.out.four
  obtain ⟨yx0, yx1, yx2, yx3⟩ := Bx12.out.four
  obtain ⟨yy0, yy1, yy2, yy3⟩ := By12.out.four
  obtain ⟨yg0, yg1, yg2, yg3⟩ := Bg12.out.four
  obtain ⟨yt0, yt1, yt2, yt3⟩ := Bt12.out.four
  go_wp2
  go_ret
  exact ⟨rfl, HB12.out⟩


set_option maxRecDepth 100000 in
set_option maxHeartbeats 4000000 in
theorem near_3fr (ta : ByteArray) (ea : Int) (cb : Int) (nb : Bool) (tb : ByteArray) (eb : Int) (tx : ByteArray) (ex : Int) (w : World) (htab : Tab w) (cg : Int) (ng : Bool) (tg : ByteArray) (eg : Int) (ct : Int) (nt : Bool) (tt : ByteArray) (et : Int) (rg : Int) (hg : ¬ rg = 0) (bh : Bool) (g0 : ∀ W, Tab W → Calls Tryz.prog 16 #[.agg #[.int .i64 0, .bool false, .string ta, .int .i64 ea], dcV cb nb tb eb, .int .i64 3] W fun e w' => e = .returned (.tuple #[.agg #[.int .i64 0, .bool false, .string tx, .int .i64 ex], .int .i64 0]) ∧ Below W.heap.size W w') (g1 : ∀ W, Tab W → Calls Tryz.prog 16 #[.agg #[.int .i64 0, .bool false, .string tx, .int .i64 ex], dcV cb nb tb eb, .int .i64 3] W fun e w' => e = .returned (.tuple #[.agg #[.int .i64 0, .bool false, .string tx, .int .i64 ex], .int .i64 0]) ∧ Below W.heap.size W w') (g2 : ∀ W, Tab W → Calls Tryz.prog 18 #[.agg #[.int .i64 0, .bool false, .string tx, .int .i64 ex], .agg #[.int .i64 0, .bool false, .string ta, .int .i64 ea]] W fun e w' => e = .returned (.tuple #[.agg #[.int .i64 cg, .bool ng, .string tg, .int .i64 eg], .bool true]) ∧ Below W.heap.size W w') (g3 : ∀ W, Tab W → Calls Tryz.prog 19 #[.agg #[.int .i64 cg, .bool ng, .string tg, .int .i64 eg], .agg #[.int .i64 cg, .bool ng, .string tg, .int .i64 eg]] W fun e w' => e = .returned (.tuple #[.agg #[.int .i64 ct, .bool nt, .string tt, .int .i64 et], .int .i64 rg]) ∧ Below W.heap.size W w') (g4 : ∀ W, Calls Tryz.prog 20 #[.agg #[.int .i64 cg, .bool ng, .string tg, .int .i64 eg], dcV cb nb tb eb] W fun e w' => e = .returned (.bool true) ∧ Below W.heap.size W w') (g5 : ∀ W, Calls Tryz.prog 20 #[.agg #[.int .i64 0, .bool false, .string tx, .int .i64 ex], .agg #[.int .i64 0, .bool false, .string ta, .int .i64 ea]] W fun e w' => e = .returned (.bool false) ∧ Below W.heap.size W w') (g6 : ∀ W, Calls Tryz.prog 20 #[.agg #[.int .i64 0, .bool false, .string ta, .int .i64 ea], .agg #[.int .i64 0, .bool false, .string tx, .int .i64 ex]] W fun e w' => e = .returned (.bool bh) ∧ Below W.heap.size W w') : Calls Tryz.prog 6 #[.agg #[.int .i64 0, .bool false, .string ta, .int .i64 ea], dcV cb nb tb eb, .int .i64 3] w fun e w' => e = .returned (.bool true) ∧ Below w.heap.size w w' := by
  have H0 := hide g0
  have H1 := hide g1
  have H2 := hide g2
  have H3 := hide g3
  have H4 := hide g4
  have H5 := hide g5
  have H6 := hide g6
  have q1 : (rg == 0) = false := by simpa using hg
  clear hg
  have HT := hide htab
  clear htab g0 g1 g2 g3 g4 g5 g6
  have Ba0 := hide ((Blk.newAt w (w.heap.size) (rfl) #[.int .i64 0, .bool false, .string ta, .int .i64 ea] 23).alloc (.cells #[.int .i64 cb, .bool nb, .string tb, .int .i64 eb] 23))
  have Bb0 := hide (Blk.newAt (w.alloc (.cells #[.int .i64 0, .bool false, .string ta, .int .i64 ea] 23)) (w.heap.size + 1) (by simp) #[.int .i64 cb, .bool nb, .string tb, .int .i64 eb] 23)
  have HB0 : Hid (Below w.heap.size w ((w.alloc (.cells #[.int .i64 0, .bool false, .string ta, .int .i64 ea] 23)).alloc (.cells #[.int .i64 cb, .bool nb, .string tb, .int .i64 eb] 23))) := (((Below.refl _ _).alloc (Nat.le_refl _) _).alloc (by simp <;> omega) _)
  go_enter Tryz.func6, Tryz.ntmps6
  go_wp2_with fail
  refine (H0.out _ (HT.out.below HB0.out)).mono ?_
  rintro e w1 ⟨rfl, hb⟩
  have Ba1 := Blk.on Ba0 hb
  have Bb1 := Blk.on Bb0 hb
  have HB1 := hide (HB0.out.trans (hb.mono HB0.out.size))
  clear hb Ba0 Bb0 HB0 
  obtain ⟨ya0, ya1, ya2, ya3⟩ := Ba1.out.four
  obtain ⟨yb0, yb1, yb2, yb3⟩ := Bb1.out.four
  have Ba2 := Blk.up Ba1 (.cells #[.int .i64 0, .bool false, .string tx, .int .i64 ex] 23)
  have Bb2 := Blk.up Bb1 (.cells #[.int .i64 0, .bool false, .string tx, .int .i64 ex] 23)
  have Bx2 := hide ((Blk.newAt w1 (w1.heap.size) (rfl) #[.int .i64 0, .bool false, .string tx, .int .i64 ex] 23))
  have HB2 : Hid (Below w.heap.size w (w1.alloc (.cells #[.int .i64 0, .bool false, .string tx, .int .i64 ex] 23))) := (HB1.out.alloc HB1.out.size _)
  clear Ba1 Bb1 HB1 ya0 ya1 ya2 ya3 yb0 yb1 yb2 yb3
  obtain ⟨ya0, ya1, ya2, ya3⟩ := Ba2.out.four
  obtain ⟨yb0, yb1, yb2, yb3⟩ := Bb2.out.four
  obtain ⟨yx0, yx1, yx2, yx3⟩ := Bx2.out.four
  go_wp2_with fail
  refine (rawake_any _ (HT.out.below HB2.out)).mono ?_
  rintro e w3 ⟨rfl, hb⟩
  have Ba3 := Blk.on Ba2 hb
  have Bb3 := Blk.on Bb2 hb
  have Bx3 := Blk.on Bx2 hb
  have HB3 := hide (HB2.out.trans (hb.mono HB2.out.size))
  clear hb Ba2 Bb2 Bx2 HB2 ya0 ya1 ya2 ya3 yb0 yb1 yb2 yb3 yx0 yx1 yx2 yx3
  obtain ⟨ya0, ya1, ya2, ya3⟩ := Ba3.out.four
  obtain ⟨yb0, yb1, yb2, yb3⟩ := Bb3.out.four
  obtain ⟨yx0, yx1, yx2, yx3⟩ := Bx3.out.four
  go_wp2_with fail
  refine (H1.out _ (HT.out.below HB3.out)).mono ?_
  rintro e w4 ⟨rfl, hb⟩
  have Ba4 := Blk.on Ba3 hb
  have Bb4 := Blk.on Bb3 hb
  have Bx4 := Blk.on Bx3 hb
  have HB4 := hide (HB3.out.trans (hb.mono HB3.out.size))
  clear hb Ba3 Bb3 Bx3 HB3 ya0 ya1 ya2 ya3 yb0 yb1 yb2 yb3 yx0 yx1 yx2 yx3
  obtain ⟨ya0, ya1, ya2, ya3⟩ := Ba4.out.four
  obtain ⟨yb0, yb1, yb2, yb3⟩ := Bb4.out.four
  obtain ⟨yx0, yx1, yx2, yx3⟩ := Bx4.out.four
  have Ba5 := Blk.up Ba4 (.cells #[.int .i64 0, .bool false, .string tx, .int .i64 ex] 23)
  have Bb5 := Blk.up Bb4 (.cells #[.int .i64 0, .bool false, .string tx, .int .i64 ex] 23)
  have Bx5 := Blk.up Bx4 (.cells #[.int .i64 0, .bool false, .string tx, .int .i64 ex] 23)
  have By5 := hide ((Blk.newAt w4 (w4.heap.size) (rfl) #[.int .i64 0, .bool false, .string tx, .int .i64 ex] 23))
  have HB5 : Hid (Below w.heap.size w (w4.alloc (.cells #[.int .i64 0, .bool false, .string tx, .int .i64 ex] 23))) := (HB4.out.alloc HB4.out.size _)
  clear Ba4 Bb4 Bx4 HB4 ya0 ya1 ya2 ya3 yb0 yb1 yb2 yb3 yx0 yx1 yx2 yx3
  obtain ⟨ya0, ya1, ya2, ya3⟩ := Ba5.out.four
  obtain ⟨yb0, yb1, yb2, yb3⟩ := Bb5.out.four
  obtain ⟨yx0, yx1, yx2, yx3⟩ := Bx5.out.four
  obtain ⟨yy0, yy1, yy2, yy3⟩ := By5.out.four
  go_wp2_with fail
  refine (H2.out _ (HT.out.below HB5.out)).mono ?_
  rintro e w6 ⟨rfl, hb⟩
  have Ba6 := Blk.on Ba5 hb
  have Bb6 := Blk.on Bb5 hb
  have Bx6 := Blk.on Bx5 hb
  have By6 := Blk.on By5 hb
  have HB6 := hide (HB5.out.trans (hb.mono HB5.out.size))
  clear hb Ba5 Bb5 Bx5 By5 HB5 ya0 ya1 ya2 ya3 yb0 yb1 yb2 yb3 yx0 yx1 yx2 yx3 yy0 yy1 yy2 yy3
  obtain ⟨ya0, ya1, ya2, ya3⟩ := Ba6.out.four
  obtain ⟨yb0, yb1, yb2, yb3⟩ := Bb6.out.four
  obtain ⟨yx0, yx1, yx2, yx3⟩ := Bx6.out.four
  obtain ⟨yy0, yy1, yy2, yy3⟩ := By6.out.four
  have Ba7 := Blk.up Ba6 (.cells #[.int .i64 cg, .bool ng, .string tg, .int .i64 eg] 23)
  have Bb7 := Blk.up Bb6 (.cells #[.int .i64 cg, .bool ng, .string tg, .int .i64 eg] 23)
  have Bx7 := Blk.up Bx6 (.cells #[.int .i64 cg, .bool ng, .string tg, .int .i64 eg] 23)
  have By7 := Blk.up By6 (.cells #[.int .i64 cg, .bool ng, .string tg, .int .i64 eg] 23)
  have Bg7 := hide ((Blk.newAt w6 (w6.heap.size) (rfl) #[.int .i64 cg, .bool ng, .string tg, .int .i64 eg] 23))
  have HB7 : Hid (Below w.heap.size w (w6.alloc (.cells #[.int .i64 cg, .bool ng, .string tg, .int .i64 eg] 23))) := (HB6.out.alloc HB6.out.size _)
  clear Ba6 Bb6 Bx6 By6 HB6 ya0 ya1 ya2 ya3 yb0 yb1 yb2 yb3 yx0 yx1 yx2 yx3 yy0 yy1 yy2 yy3
  obtain ⟨ya0, ya1, ya2, ya3⟩ := Ba7.out.four
  obtain ⟨yb0, yb1, yb2, yb3⟩ := Bb7.out.four
  obtain ⟨yx0, yx1, yx2, yx3⟩ := Bx7.out.four
  obtain ⟨yy0, yy1, yy2, yy3⟩ := By7.out.four
  obtain ⟨yg0, yg1, yg2, yg3⟩ := Bg7.out.four
  go_wp2_with fail
  refine (H3.out _ (HT.out.below HB7.out)).mono ?_
  rintro e w8 ⟨rfl, hb⟩
  have Ba8 := Blk.on Ba7 hb
  have Bb8 := Blk.on Bb7 hb
  have Bx8 := Blk.on Bx7 hb
  have By8 := Blk.on By7 hb
  have Bg8 := Blk.on Bg7 hb
  have HB8 := hide (HB7.out.trans (hb.mono HB7.out.size))
  clear hb Ba7 Bb7 Bx7 By7 Bg7 HB7 ya0 ya1 ya2 ya3 yb0 yb1 yb2 yb3 yx0 yx1 yx2 yx3 yy0 yy1 yy2 yy3 yg0 yg1 yg2 yg3
  obtain ⟨ya0, ya1, ya2, ya3⟩ := Ba8.out.four
  obtain ⟨yb0, yb1, yb2, yb3⟩ := Bb8.out.four
  obtain ⟨yx0, yx1, yx2, yx3⟩ := Bx8.out.four
  obtain ⟨yy0, yy1, yy2, yy3⟩ := By8.out.four
  obtain ⟨yg0, yg1, yg2, yg3⟩ := Bg8.out.four
  have Ba9 := Blk.up Ba8 (.cells #[.int .i64 ct, .bool nt, .string tt, .int .i64 et] 23)
  have Bb9 := Blk.up Bb8 (.cells #[.int .i64 ct, .bool nt, .string tt, .int .i64 et] 23)
  have Bx9 := Blk.up Bx8 (.cells #[.int .i64 ct, .bool nt, .string tt, .int .i64 et] 23)
  have By9 := Blk.up By8 (.cells #[.int .i64 ct, .bool nt, .string tt, .int .i64 et] 23)
  have Bg9 := Blk.up Bg8 (.cells #[.int .i64 ct, .bool nt, .string tt, .int .i64 et] 23)
  have Bt9 := hide ((Blk.newAt w8 (w8.heap.size) (rfl) #[.int .i64 ct, .bool nt, .string tt, .int .i64 et] 23))
  have HB9 : Hid (Below w.heap.size w (w8.alloc (.cells #[.int .i64 ct, .bool nt, .string tt, .int .i64 et] 23))) := (HB8.out.alloc HB8.out.size _)
  clear Ba8 Bb8 Bx8 By8 Bg8 HB8 ya0 ya1 ya2 ya3 yb0 yb1 yb2 yb3 yx0 yx1 yx2 yx3 yy0 yy1 yy2 yy3 yg0 yg1 yg2 yg3
  obtain ⟨ya0, ya1, ya2, ya3⟩ := Ba9.out.four
  obtain ⟨yb0, yb1, yb2, yb3⟩ := Bb9.out.four
  obtain ⟨yx0, yx1, yx2, yx3⟩ := Bx9.out.four
  obtain ⟨yy0, yy1, yy2, yy3⟩ := By9.out.four
  obtain ⟨yg0, yg1, yg2, yg3⟩ := Bg9.out.four
  obtain ⟨yt0, yt1, yt2, yt3⟩ := Bt9.out.four
  go_wp2_with fail
  refine (H4.out _).mono ?_
  rintro e w10 ⟨rfl, hb⟩
  have Ba10 := Blk.on Ba9 hb
  have Bb10 := Blk.on Bb9 hb
  have Bx10 := Blk.on Bx9 hb
  have By10 := Blk.on By9 hb
  have Bg10 := Blk.on Bg9 hb
  have Bt10 := Blk.on Bt9 hb
  have HB10 := hide (HB9.out.trans (hb.mono HB9.out.size))
  clear hb Ba9 Bb9 Bx9 By9 Bg9 Bt9 HB9 ya0 ya1 ya2 ya3 yb0 yb1 yb2 yb3 yx0 yx1 yx2 yx3 yy0 yy1 yy2 yy3 yg0 yg1 yg2 yg3 yt0 yt1 yt2 yt3
  obtain ⟨ya0, ya1, ya2, ya3⟩ := Ba10.out.four
  obtain ⟨yb0, yb1, yb2, yb3⟩ := Bb10.out.four
  obtain ⟨yx0, yx1, yx2, yx3⟩ := Bx10.out.four
  obtain ⟨yy0, yy1, yy2, yy3⟩ := By10.out.four
  obtain ⟨yg0, yg1, yg2, yg3⟩ := Bg10.out.four
  obtain ⟨yt0, yt1, yt2, yt3⟩ := Bt10.out.four
  have b0 : Hid (Below w10.heap.size w10 w10.drew) := bdrewD w10
  have C0 : Hid (∀ X, Hid (Below w10.heap.size w10 X) → Calls Tryz.prog 20 #[.agg #[.int .i64 0, .bool false, .string tx, .int .i64 ex], .agg #[.int .i64 0, .bool false, .string ta, .int .i64 ea]] X fun e w' => e = .returned (.bool false) ∧ Hid (Below w10.heap.size w10 w') ∧ w'.cell? ⟨w.heap.size, 0, none⟩ = some (.int .i64 0) ∧ w'.cell? ⟨w.heap.size, 1, none⟩ = some (.bool false) ∧ w'.cell? ⟨w.heap.size, 2, none⟩ = some (.string ta) ∧ w'.cell? ⟨w.heap.size, 3, none⟩ = some (.int .i64 ea) ∧ w'.cell? ⟨w1.heap.size, 0, none⟩ = some (.int .i64 0) ∧ w'.cell? ⟨w1.heap.size, 1, none⟩ = some (.bool false) ∧ w'.cell? ⟨w1.heap.size, 2, none⟩ = some (.string tx) ∧ w'.cell? ⟨w1.heap.size, 3, none⟩ = some (.int .i64 ex)) := by
    intro X bX
    refine (H5.out X).mono ?_
    rintro e w' ⟨rfl, hb⟩
    have bb := bX.out.trans (hb.mono bX.out.size)
    have Baq := Ba10.out.below bb Ba10.out.lt
    have Bxq := Bx10.out.below bb Bx10.out.lt
    exact ⟨rfl, bb, Baq.cell 0, Baq.cell 1, Baq.cell 2, Baq.cell 3, Bxq.cell 0, Bxq.cell 1, Bxq.cell 2, Bxq.cell 3⟩
  have C1 : Hid (∀ X, Hid (Below w10.heap.size w10 X) → Calls Tryz.prog 20 #[.agg #[.int .i64 0, .bool false, .string ta, .int .i64 ea], .agg #[.int .i64 0, .bool false, .string tx, .int .i64 ex]] X fun e w' => e = .returned (.bool bh) ∧ Hid (Below w10.heap.size w10 w') ∧ w'.cell? ⟨w.heap.size, 0, none⟩ = some (.int .i64 0) ∧ w'.cell? ⟨w.heap.size, 1, none⟩ = some (.bool false) ∧ w'.cell? ⟨w.heap.size, 2, none⟩ = some (.string ta) ∧ w'.cell? ⟨w.heap.size, 3, none⟩ = some (.int .i64 ea) ∧ w'.cell? ⟨w1.heap.size, 0, none⟩ = some (.int .i64 0) ∧ w'.cell? ⟨w1.heap.size, 1, none⟩ = some (.bool false) ∧ w'.cell? ⟨w1.heap.size, 2, none⟩ = some (.string tx) ∧ w'.cell? ⟨w1.heap.size, 3, none⟩ = some (.int .i64 ex)) := by
    intro X bX
    refine (H6.out X).mono ?_
    rintro e w' ⟨rfl, hb⟩
    have bb := bX.out.trans (hb.mono bX.out.size)
    have Baq := Ba10.out.below bb Ba10.out.lt
    have Bxq := Bx10.out.below bb Bx10.out.lt
    exact ⟨rfl, bb, Baq.cell 0, Baq.cell 1, Baq.cell 2, Baq.cell 3, Bxq.cell 0, Bxq.cell 1, Bxq.cell 2, Bxq.cell 3⟩
  go_wp2_with fail
  have mk0 : True := trivial
  go_region_held3 (fun w' => w'.cell? ⟨w.heap.size, 0, none⟩ = some (.int .i64 0) ∧ w'.cell? ⟨w.heap.size, 1, none⟩ = some (.bool false) ∧ w'.cell? ⟨w.heap.size, 2, none⟩ = some (.string ta) ∧ w'.cell? ⟨w.heap.size, 3, none⟩ = some (.int .i64 ea) ∧ w'.cell? ⟨w1.heap.size, 0, none⟩ = some (.int .i64 0) ∧ w'.cell? ⟨w1.heap.size, 1, none⟩ = some (.bool false) ∧ w'.cell? ⟨w1.heap.size, 2, none⟩ = some (.string tx) ∧ w'.cell? ⟨w1.heap.size, 3, none⟩ = some (.int .i64 ex)) (go_keep) (first
    | (clear mk0; go_at_call 20; refine (C0.out _ b0).mono ?_; rintro e w11 ⟨rfl, b1, q0_0, q0_1, q0_2, q0_3, q0_4, q0_5, q0_6, q0_7⟩; have mk1 : True := trivial)
    | (clear mk1; go_at_call 20; refine (C1.out _ b1).mono ?_; rintro e w12 ⟨rfl, b2, q1_0, q1_1, q1_2, q1_3, q1_4, q1_5, q1_6, q1_7⟩; have mk2 : True := trivial))
  have Ba12 := hide (Ba10.out.below b2.out Ba10.out.lt)
  have Bb12 := hide (Bb10.out.below b2.out Bb10.out.lt)
  have Bx12 := hide (Bx10.out.below b2.out Bx10.out.lt)
  have By12 := hide (By10.out.below b2.out By10.out.lt)
  have Bg12 := hide (Bg10.out.below b2.out Bg10.out.lt)
  have Bt12 := hide (Bt10.out.below b2.out Bt10.out.lt)
  have HB12 := hide (HB10.out.trans (b2.out.mono HB10.out.size))
  clear mk2 b0 b1 b2 C0 C1 q0_0 q0_1 q0_2 q0_3 q0_4 q0_5 q0_6 q0_7 q1_0 q1_1 q1_2 q1_3 q1_4 q1_5 q1_6 q1_7 Ba10 Bb10 Bx10 By10 Bg10 Bt10 HB10 ya0 ya1 ya2 ya3 yb0 yb1 yb2 yb3 yx0 yx1 yx2 yx3 yy0 yy1 yy2 yy3 yg0 yg1 yg2 yg3 yt0 yt1 yt2 yt3
  obtain ⟨ya0, ya1, ya2, ya3⟩ := Ba12.out.four
  obtain ⟨yb0, yb1, yb2, yb3⟩ := Bb12.out.four
  obtain ⟨yx0, yx1, yx2, yx3⟩ := Bx12.out.four
  obtain ⟨yy0, yy1, yy2, yy3⟩ := By12.out.four
  obtain ⟨yg0, yg1, yg2, yg3⟩ := Bg12.out.four
  obtain ⟨yt0, yt1, yt2, yt3⟩ := Bt12.out.four
  go_wp2
  go_ret
  exact ⟨rfl, HB12.out⟩


set_option maxRecDepth 100000 in
set_option maxHeartbeats 4000000 in
theorem near_mr (na : Bool) (ta : ByteArray) (ea : Int) (cb : Int) (nb : Bool) (tb : ByteArray) (eb : Int) (tx : ByteArray) (ex : Int) (m : Int) (w : World) (htab : Tab w) (cg : Int) (ng : Bool) (tg : ByteArray) (eg : Int) (ct : Int) (nt : Bool) (tt : ByteArray) (et : Int) (rg : Int) (hg : ¬ rg = 0) (bl : Bool) (bh : Bool) (m1 : 4 ≤ m) (g0 : ∀ W, Tab W → Calls Tryz.prog 16 #[.agg #[.int .i64 0, .bool na, .string ta, .int .i64 ea], dcV cb nb tb eb, .int .i64 m] W fun e w' => e = .returned (.tuple #[.agg #[.int .i64 0, .bool na, .string tx, .int .i64 ex], .int .i64 0]) ∧ Below W.heap.size W w') (g1 : ∀ W, Tab W → Calls Tryz.prog 16 #[.agg #[.int .i64 0, .bool na, .string tx, .int .i64 ex], dcV cb nb tb eb, .int .i64 m] W fun e w' => e = .returned (.tuple #[.agg #[.int .i64 0, .bool na, .string tx, .int .i64 ex], .int .i64 0]) ∧ Below W.heap.size W w') (g2 : ∀ W, Tab W → Calls Tryz.prog 18 #[.agg #[.int .i64 0, .bool na, .string tx, .int .i64 ex], .agg #[.int .i64 0, .bool na, .string ta, .int .i64 ea]] W fun e w' => e = .returned (.tuple #[.agg #[.int .i64 cg, .bool ng, .string tg, .int .i64 eg], .bool true]) ∧ Below W.heap.size W w') (g3 : ∀ W, Tab W → Calls Tryz.prog 19 #[.agg #[.int .i64 cg, .bool ng, .string tg, .int .i64 eg], .agg #[.int .i64 cg, .bool ng, .string tg, .int .i64 eg]] W fun e w' => e = .returned (.tuple #[.agg #[.int .i64 ct, .bool nt, .string tt, .int .i64 et], .int .i64 rg]) ∧ Below W.heap.size W w') (g4 : ∀ W, Calls Tryz.prog 20 #[.agg #[.int .i64 cg, .bool ng, .string tg, .int .i64 eg], dcV cb nb tb eb] W fun e w' => e = .returned (.bool true) ∧ Below W.heap.size W w') (g5 : ∀ W, Calls Tryz.prog 20 #[.agg #[.int .i64 0, .bool na, .string tx, .int .i64 ex], .agg #[.int .i64 0, .bool na, .string ta, .int .i64 ea]] W fun e w' => e = .returned (.bool bl) ∧ Below W.heap.size W w') (g6 : ∀ W, Calls Tryz.prog 20 #[.agg #[.int .i64 0, .bool na, .string ta, .int .i64 ea], .agg #[.int .i64 0, .bool na, .string tx, .int .i64 ex]] W fun e w' => e = .returned (.bool bh) ∧ Below W.heap.size W w') : Calls Tryz.prog 6 #[.agg #[.int .i64 0, .bool na, .string ta, .int .i64 ea], dcV cb nb tb eb, .int .i64 m] w fun e w' => e = .returned (.bool true) ∧ Below w.heap.size w w' := by
  have H0 := hide g0
  have H1 := hide g1
  have H2 := hide g2
  have H3 := hide g3
  have H4 := hide g4
  have H5 := hide g5
  have H6 := hide g6
  have q1 : (rg == 0) = false := by simpa using hg
  clear hg
  have z0 : (m == 0) = false := beq_false_of_ne (by omega)
  have z1 : (m == 1) = false := beq_false_of_ne (by omega)
  have z2 : (m == 2) = false := beq_false_of_ne (by omega)
  have z3 : (m == 3) = false := beq_false_of_ne (by omega)
  have HT := hide htab
  clear htab g0 g1 g2 g3 g4 g5 g6
  have Ba0 := hide ((Blk.newAt w (w.heap.size) (rfl) #[.int .i64 0, .bool na, .string ta, .int .i64 ea] 23).alloc (.cells #[.int .i64 cb, .bool nb, .string tb, .int .i64 eb] 23))
  have Bb0 := hide (Blk.newAt (w.alloc (.cells #[.int .i64 0, .bool na, .string ta, .int .i64 ea] 23)) (w.heap.size + 1) (by simp) #[.int .i64 cb, .bool nb, .string tb, .int .i64 eb] 23)
  have HB0 : Hid (Below w.heap.size w ((w.alloc (.cells #[.int .i64 0, .bool na, .string ta, .int .i64 ea] 23)).alloc (.cells #[.int .i64 cb, .bool nb, .string tb, .int .i64 eb] 23))) := (((Below.refl _ _).alloc (Nat.le_refl _) _).alloc (by simp <;> omega) _)
  go_enter Tryz.func6, Tryz.ntmps6
  go_wp2_with fail
  refine (H0.out _ (HT.out.below HB0.out)).mono ?_
  rintro e w1 ⟨rfl, hb⟩
  have Ba1 := Blk.on Ba0 hb
  have Bb1 := Blk.on Bb0 hb
  have HB1 := hide (HB0.out.trans (hb.mono HB0.out.size))
  clear hb Ba0 Bb0 HB0 
  obtain ⟨ya0, ya1, ya2, ya3⟩ := Ba1.out.four
  obtain ⟨yb0, yb1, yb2, yb3⟩ := Bb1.out.four
  have Ba2 := Blk.up Ba1 (.cells #[.int .i64 0, .bool na, .string tx, .int .i64 ex] 23)
  have Bb2 := Blk.up Bb1 (.cells #[.int .i64 0, .bool na, .string tx, .int .i64 ex] 23)
  have Bx2 := hide ((Blk.newAt w1 (w1.heap.size) (rfl) #[.int .i64 0, .bool na, .string tx, .int .i64 ex] 23))
  have HB2 : Hid (Below w.heap.size w (w1.alloc (.cells #[.int .i64 0, .bool na, .string tx, .int .i64 ex] 23))) := (HB1.out.alloc HB1.out.size _)
  clear Ba1 Bb1 HB1 ya0 ya1 ya2 ya3 yb0 yb1 yb2 yb3
  obtain ⟨ya0, ya1, ya2, ya3⟩ := Ba2.out.four
  obtain ⟨yb0, yb1, yb2, yb3⟩ := Bb2.out.four
  obtain ⟨yx0, yx1, yx2, yx3⟩ := Bx2.out.four
  go_wp2_with fail
  refine (rawake_any _ (HT.out.below HB2.out)).mono ?_
  rintro e w3 ⟨rfl, hb⟩
  have Ba3 := Blk.on Ba2 hb
  have Bb3 := Blk.on Bb2 hb
  have Bx3 := Blk.on Bx2 hb
  have HB3 := hide (HB2.out.trans (hb.mono HB2.out.size))
  clear hb Ba2 Bb2 Bx2 HB2 ya0 ya1 ya2 ya3 yb0 yb1 yb2 yb3 yx0 yx1 yx2 yx3
  obtain ⟨ya0, ya1, ya2, ya3⟩ := Ba3.out.four
  obtain ⟨yb0, yb1, yb2, yb3⟩ := Bb3.out.four
  obtain ⟨yx0, yx1, yx2, yx3⟩ := Bx3.out.four
  go_wp2_with fail
  refine (H1.out _ (HT.out.below HB3.out)).mono ?_
  rintro e w4 ⟨rfl, hb⟩
  have Ba4 := Blk.on Ba3 hb
  have Bb4 := Blk.on Bb3 hb
  have Bx4 := Blk.on Bx3 hb
  have HB4 := hide (HB3.out.trans (hb.mono HB3.out.size))
  clear hb Ba3 Bb3 Bx3 HB3 ya0 ya1 ya2 ya3 yb0 yb1 yb2 yb3 yx0 yx1 yx2 yx3
  obtain ⟨ya0, ya1, ya2, ya3⟩ := Ba4.out.four
  obtain ⟨yb0, yb1, yb2, yb3⟩ := Bb4.out.four
  obtain ⟨yx0, yx1, yx2, yx3⟩ := Bx4.out.four
  have Ba5 := Blk.up Ba4 (.cells #[.int .i64 0, .bool na, .string tx, .int .i64 ex] 23)
  have Bb5 := Blk.up Bb4 (.cells #[.int .i64 0, .bool na, .string tx, .int .i64 ex] 23)
  have Bx5 := Blk.up Bx4 (.cells #[.int .i64 0, .bool na, .string tx, .int .i64 ex] 23)
  have By5 := hide ((Blk.newAt w4 (w4.heap.size) (rfl) #[.int .i64 0, .bool na, .string tx, .int .i64 ex] 23))
  have HB5 : Hid (Below w.heap.size w (w4.alloc (.cells #[.int .i64 0, .bool na, .string tx, .int .i64 ex] 23))) := (HB4.out.alloc HB4.out.size _)
  clear Ba4 Bb4 Bx4 HB4 ya0 ya1 ya2 ya3 yb0 yb1 yb2 yb3 yx0 yx1 yx2 yx3
  obtain ⟨ya0, ya1, ya2, ya3⟩ := Ba5.out.four
  obtain ⟨yb0, yb1, yb2, yb3⟩ := Bb5.out.four
  obtain ⟨yx0, yx1, yx2, yx3⟩ := Bx5.out.four
  obtain ⟨yy0, yy1, yy2, yy3⟩ := By5.out.four
  go_wp2_with fail
  refine (H2.out _ (HT.out.below HB5.out)).mono ?_
  rintro e w6 ⟨rfl, hb⟩
  have Ba6 := Blk.on Ba5 hb
  have Bb6 := Blk.on Bb5 hb
  have Bx6 := Blk.on Bx5 hb
  have By6 := Blk.on By5 hb
  have HB6 := hide (HB5.out.trans (hb.mono HB5.out.size))
  clear hb Ba5 Bb5 Bx5 By5 HB5 ya0 ya1 ya2 ya3 yb0 yb1 yb2 yb3 yx0 yx1 yx2 yx3 yy0 yy1 yy2 yy3
  obtain ⟨ya0, ya1, ya2, ya3⟩ := Ba6.out.four
  obtain ⟨yb0, yb1, yb2, yb3⟩ := Bb6.out.four
  obtain ⟨yx0, yx1, yx2, yx3⟩ := Bx6.out.four
  obtain ⟨yy0, yy1, yy2, yy3⟩ := By6.out.four
  have Ba7 := Blk.up Ba6 (.cells #[.int .i64 cg, .bool ng, .string tg, .int .i64 eg] 23)
  have Bb7 := Blk.up Bb6 (.cells #[.int .i64 cg, .bool ng, .string tg, .int .i64 eg] 23)
  have Bx7 := Blk.up Bx6 (.cells #[.int .i64 cg, .bool ng, .string tg, .int .i64 eg] 23)
  have By7 := Blk.up By6 (.cells #[.int .i64 cg, .bool ng, .string tg, .int .i64 eg] 23)
  have Bg7 := hide ((Blk.newAt w6 (w6.heap.size) (rfl) #[.int .i64 cg, .bool ng, .string tg, .int .i64 eg] 23))
  have HB7 : Hid (Below w.heap.size w (w6.alloc (.cells #[.int .i64 cg, .bool ng, .string tg, .int .i64 eg] 23))) := (HB6.out.alloc HB6.out.size _)
  clear Ba6 Bb6 Bx6 By6 HB6 ya0 ya1 ya2 ya3 yb0 yb1 yb2 yb3 yx0 yx1 yx2 yx3 yy0 yy1 yy2 yy3
  obtain ⟨ya0, ya1, ya2, ya3⟩ := Ba7.out.four
  obtain ⟨yb0, yb1, yb2, yb3⟩ := Bb7.out.four
  obtain ⟨yx0, yx1, yx2, yx3⟩ := Bx7.out.four
  obtain ⟨yy0, yy1, yy2, yy3⟩ := By7.out.four
  obtain ⟨yg0, yg1, yg2, yg3⟩ := Bg7.out.four
  go_wp2_with fail
  refine (H3.out _ (HT.out.below HB7.out)).mono ?_
  rintro e w8 ⟨rfl, hb⟩
  have Ba8 := Blk.on Ba7 hb
  have Bb8 := Blk.on Bb7 hb
  have Bx8 := Blk.on Bx7 hb
  have By8 := Blk.on By7 hb
  have Bg8 := Blk.on Bg7 hb
  have HB8 := hide (HB7.out.trans (hb.mono HB7.out.size))
  clear hb Ba7 Bb7 Bx7 By7 Bg7 HB7 ya0 ya1 ya2 ya3 yb0 yb1 yb2 yb3 yx0 yx1 yx2 yx3 yy0 yy1 yy2 yy3 yg0 yg1 yg2 yg3
  obtain ⟨ya0, ya1, ya2, ya3⟩ := Ba8.out.four
  obtain ⟨yb0, yb1, yb2, yb3⟩ := Bb8.out.four
  obtain ⟨yx0, yx1, yx2, yx3⟩ := Bx8.out.four
  obtain ⟨yy0, yy1, yy2, yy3⟩ := By8.out.four
  obtain ⟨yg0, yg1, yg2, yg3⟩ := Bg8.out.four
  have Ba9 := Blk.up Ba8 (.cells #[.int .i64 ct, .bool nt, .string tt, .int .i64 et] 23)
  have Bb9 := Blk.up Bb8 (.cells #[.int .i64 ct, .bool nt, .string tt, .int .i64 et] 23)
  have Bx9 := Blk.up Bx8 (.cells #[.int .i64 ct, .bool nt, .string tt, .int .i64 et] 23)
  have By9 := Blk.up By8 (.cells #[.int .i64 ct, .bool nt, .string tt, .int .i64 et] 23)
  have Bg9 := Blk.up Bg8 (.cells #[.int .i64 ct, .bool nt, .string tt, .int .i64 et] 23)
  have Bt9 := hide ((Blk.newAt w8 (w8.heap.size) (rfl) #[.int .i64 ct, .bool nt, .string tt, .int .i64 et] 23))
  have HB9 : Hid (Below w.heap.size w (w8.alloc (.cells #[.int .i64 ct, .bool nt, .string tt, .int .i64 et] 23))) := (HB8.out.alloc HB8.out.size _)
  clear Ba8 Bb8 Bx8 By8 Bg8 HB8 ya0 ya1 ya2 ya3 yb0 yb1 yb2 yb3 yx0 yx1 yx2 yx3 yy0 yy1 yy2 yy3 yg0 yg1 yg2 yg3
  obtain ⟨ya0, ya1, ya2, ya3⟩ := Ba9.out.four
  obtain ⟨yb0, yb1, yb2, yb3⟩ := Bb9.out.four
  obtain ⟨yx0, yx1, yx2, yx3⟩ := Bx9.out.four
  obtain ⟨yy0, yy1, yy2, yy3⟩ := By9.out.four
  obtain ⟨yg0, yg1, yg2, yg3⟩ := Bg9.out.four
  obtain ⟨yt0, yt1, yt2, yt3⟩ := Bt9.out.four
  go_wp2_with fail
  refine (H4.out _).mono ?_
  rintro e w10 ⟨rfl, hb⟩
  have Ba10 := Blk.on Ba9 hb
  have Bb10 := Blk.on Bb9 hb
  have Bx10 := Blk.on Bx9 hb
  have By10 := Blk.on By9 hb
  have Bg10 := Blk.on Bg9 hb
  have Bt10 := Blk.on Bt9 hb
  have HB10 := hide (HB9.out.trans (hb.mono HB9.out.size))
  clear hb Ba9 Bb9 Bx9 By9 Bg9 Bt9 HB9 ya0 ya1 ya2 ya3 yb0 yb1 yb2 yb3 yx0 yx1 yx2 yx3 yy0 yy1 yy2 yy3 yg0 yg1 yg2 yg3 yt0 yt1 yt2 yt3
  obtain ⟨ya0, ya1, ya2, ya3⟩ := Ba10.out.four
  obtain ⟨yb0, yb1, yb2, yb3⟩ := Bb10.out.four
  obtain ⟨yx0, yx1, yx2, yx3⟩ := Bx10.out.four
  obtain ⟨yy0, yy1, yy2, yy3⟩ := By10.out.four
  obtain ⟨yg0, yg1, yg2, yg3⟩ := Bg10.out.four
  obtain ⟨yt0, yt1, yt2, yt3⟩ := Bt10.out.four
  have b0 : Hid (Below w10.heap.size w10 w10.drew) := bdrewD w10
  have C0 : Hid (∀ X, Hid (Below w10.heap.size w10 X) → Calls Tryz.prog 20 #[.agg #[.int .i64 0, .bool na, .string tx, .int .i64 ex], .agg #[.int .i64 0, .bool na, .string ta, .int .i64 ea]] X fun e w' => e = .returned (.bool bl) ∧ Hid (Below w10.heap.size w10 w') ∧ w'.cell? ⟨w.heap.size, 0, none⟩ = some (.int .i64 0) ∧ w'.cell? ⟨w.heap.size, 1, none⟩ = some (.bool na) ∧ w'.cell? ⟨w.heap.size, 2, none⟩ = some (.string ta) ∧ w'.cell? ⟨w.heap.size, 3, none⟩ = some (.int .i64 ea) ∧ w'.cell? ⟨w1.heap.size, 0, none⟩ = some (.int .i64 0) ∧ w'.cell? ⟨w1.heap.size, 1, none⟩ = some (.bool na) ∧ w'.cell? ⟨w1.heap.size, 2, none⟩ = some (.string tx) ∧ w'.cell? ⟨w1.heap.size, 3, none⟩ = some (.int .i64 ex)) := by
    intro X bX
    refine (H5.out X).mono ?_
    rintro e w' ⟨rfl, hb⟩
    have bb := bX.out.trans (hb.mono bX.out.size)
    have Baq := Ba10.out.below bb Ba10.out.lt
    have Bxq := Bx10.out.below bb Bx10.out.lt
    exact ⟨rfl, bb, Baq.cell 0, Baq.cell 1, Baq.cell 2, Baq.cell 3, Bxq.cell 0, Bxq.cell 1, Bxq.cell 2, Bxq.cell 3⟩
  have C1 : Hid (∀ X, Hid (Below w10.heap.size w10 X) → Calls Tryz.prog 20 #[.agg #[.int .i64 0, .bool na, .string ta, .int .i64 ea], .agg #[.int .i64 0, .bool na, .string tx, .int .i64 ex]] X fun e w' => e = .returned (.bool bh) ∧ Hid (Below w10.heap.size w10 w') ∧ w'.cell? ⟨w.heap.size, 0, none⟩ = some (.int .i64 0) ∧ w'.cell? ⟨w.heap.size, 1, none⟩ = some (.bool na) ∧ w'.cell? ⟨w.heap.size, 2, none⟩ = some (.string ta) ∧ w'.cell? ⟨w.heap.size, 3, none⟩ = some (.int .i64 ea) ∧ w'.cell? ⟨w1.heap.size, 0, none⟩ = some (.int .i64 0) ∧ w'.cell? ⟨w1.heap.size, 1, none⟩ = some (.bool na) ∧ w'.cell? ⟨w1.heap.size, 2, none⟩ = some (.string tx) ∧ w'.cell? ⟨w1.heap.size, 3, none⟩ = some (.int .i64 ex)) := by
    intro X bX
    refine (H6.out X).mono ?_
    rintro e w' ⟨rfl, hb⟩
    have bb := bX.out.trans (hb.mono bX.out.size)
    have Baq := Ba10.out.below bb Ba10.out.lt
    have Bxq := Bx10.out.below bb Bx10.out.lt
    exact ⟨rfl, bb, Baq.cell 0, Baq.cell 1, Baq.cell 2, Baq.cell 3, Bxq.cell 0, Bxq.cell 1, Bxq.cell 2, Bxq.cell 3⟩
  go_wp2_with fail
  have mk0 : True := trivial
  go_region_held3 (fun w' => w'.cell? ⟨w.heap.size, 0, none⟩ = some (.int .i64 0) ∧ w'.cell? ⟨w.heap.size, 1, none⟩ = some (.bool na) ∧ w'.cell? ⟨w.heap.size, 2, none⟩ = some (.string ta) ∧ w'.cell? ⟨w.heap.size, 3, none⟩ = some (.int .i64 ea) ∧ w'.cell? ⟨w1.heap.size, 0, none⟩ = some (.int .i64 0) ∧ w'.cell? ⟨w1.heap.size, 1, none⟩ = some (.bool na) ∧ w'.cell? ⟨w1.heap.size, 2, none⟩ = some (.string tx) ∧ w'.cell? ⟨w1.heap.size, 3, none⟩ = some (.int .i64 ex)) (go_keep) (first
    | (clear mk0; go_at_call 20; refine (C0.out _ b0).mono ?_; rintro e w11 ⟨rfl, b1, q0_0, q0_1, q0_2, q0_3, q0_4, q0_5, q0_6, q0_7⟩; have mk1 : True := trivial)
    | (clear mk1; go_at_call 20; refine (C1.out _ b1).mono ?_; rintro e w12 ⟨rfl, b2, q1_0, q1_1, q1_2, q1_3, q1_4, q1_5, q1_6, q1_7⟩; have mk2 : True := trivial))
  have Ba12 := hide (Ba10.out.below b2.out Ba10.out.lt)
  have Bb12 := hide (Bb10.out.below b2.out Bb10.out.lt)
  have Bx12 := hide (Bx10.out.below b2.out Bx10.out.lt)
  have By12 := hide (By10.out.below b2.out By10.out.lt)
  have Bg12 := hide (Bg10.out.below b2.out Bg10.out.lt)
  have Bt12 := hide (Bt10.out.below b2.out Bt10.out.lt)
  have HB12 := hide (HB10.out.trans (b2.out.mono HB10.out.size))
  clear mk2 b0 b1 b2 C0 C1 q0_0 q0_1 q0_2 q0_3 q0_4 q0_5 q0_6 q0_7 q1_0 q1_1 q1_2 q1_3 q1_4 q1_5 q1_6 q1_7 Ba10 Bb10 Bx10 By10 Bg10 Bt10 HB10 ya0 ya1 ya2 ya3 yb0 yb1 yb2 yb3 yx0 yx1 yx2 yx3 yy0 yy1 yy2 yy3 yg0 yg1 yg2 yg3 yt0 yt1 yt2 yt3
  obtain ⟨ya0, ya1, ya2, ya3⟩ := Ba12.out.four
  obtain ⟨yb0, yb1, yb2, yb3⟩ := Bb12.out.four
  obtain ⟨yx0, yx1, yx2, yx3⟩ := Bx12.out.four
  obtain ⟨yy0, yy1, yy2, yy3⟩ := By12.out.four
  obtain ⟨yg0, yg1, yg2, yg3⟩ := Bg12.out.four
  obtain ⟨yt0, yt1, yt2, yt3⟩ := Bt12.out.four
  go_wp2
  go_ret
  exact ⟨rfl, HB12.out⟩

end Go.Proofs.YtcclbcnmkaobpaaGreatDoor

namespace Go.Proofs.YtcclbcnmkaobpaaGreatDoor
open Go.RowKit

/-- How far the number of units lies from the number. -/
theorem rnd_gap (A U : Nat) (neg : Bool) (m : Nat) (hU : 0 < U) :
    (rndN A U neg m * U = A / U * U ∧ A = A / U * U + A % U ∧ A % U < U ∧ (4 ≤ m → m < 8 → A % U + A % U ≤ U)) ∨
    (rndN A U neg m * U = A / U * U + U ∧ A = A / U * U + A % U ∧ A % U < U ∧ A % U ≠ 0 ∧ (4 ≤ m → m < 8 → U ≤ A % U + A % U)) := by
  have d1 : A = A / U * U + A % U := by rw [Nat.mul_comm]; exact (Nat.div_add_mod A U).symm
  have d2 := Nat.mod_lt A hU
  by_cases h : A % U = 0
  · left
    rw [rndN_exact neg m h]
    exact ⟨rfl, d1, d2, fun _ _ => by omega⟩
  · unfold rndN
    rw [if_neg h]
    by_cases hl : leavesB m neg (decide (A / U % 2 = 1)) (cmpN (A % U + A % U) U) = true
    · right
      rw [if_pos hl]
      refine ⟨by rw [Nat.add_mul, Nat.one_mul], d1, d2, h, fun h4 h8 => ?_⟩
      have hc : 0 ≤ cmpN (A % U + A % U) U := by
        rcases (by omega : m = 4 ∨ m = 5 ∨ m = 6 ∨ m = 7) with rfl | rfl | rfl | rfl
        · simp [leavesB] at hl; omega
        · simp [leavesB] at hl; omega
        · simp [leavesB] at hl; omega
        · simp [leavesB] at hl; omega
      unfold cmpN at hc
      split at hc
      · omega
      · split at hc <;> omega
    · left
      rw [if_neg hl]
      refine ⟨by rw [Nat.add_zero], d1, d2, fun h4 h8 => ?_⟩
      have hc : cmpN (A % U + A % U) U ≤ 0 := by
        rcases (by omega : m = 4 ∨ m = 5 ∨ m = 6 ∨ m = 7) with rfl | rfl | rfl | rfl
        · simp [leavesB] at hl; omega
        · simp [leavesB] at hl; omega
        · simp [leavesB] at hl; omega
        · simp [leavesB] at hl; omega
      unfold cmpN at hc
      split at hc
      · omega
      · split at hc <;> omega

/-- On which side of the amount. -/
theorem rnd_side (A U : Nat) (neg : Bool) (m : Nat) (hU : 0 < U) :
    (m = 0 → (neg = true → rndN A U neg m * U ≤ A) ∧ (neg = false → A ≤ rndN A U neg m * U)) ∧ (m = 1 → (neg = true → A ≤ rndN A U neg m * U) ∧ (neg = false → rndN A U neg m * U ≤ A)) ∧
    (m = 2 → rndN A U neg m * U ≤ A) ∧ (m = 3 → A ≤ rndN A U neg m * U) := by
  have d1 : A = A / U * U + A % U := by rw [Nat.mul_comm]; exact (Nat.div_add_mod A U).symm
  have d2 := Nat.mod_lt A hU
  have key : (rndN A U neg m = A / U ∧ (A % U = 0 ∨ leavesB m neg (decide (A / U % 2 = 1)) (cmpN (A % U + A % U) U) = false)) ∨ (rndN A U neg m = A / U + 1 ∧ leavesB m neg (decide (A / U % 2 = 1)) (cmpN (A % U + A % U) U) = true) := by
    unfold rndN
    by_cases h : A % U = 0
    · rw [if_pos h]; exact .inl ⟨rfl, .inl h⟩
    · rw [if_neg h]
      cases hl : leavesB m neg (decide (A / U % 2 = 1)) (cmpN (A % U + A % U) U)
      · simp
      · simp
  have k1 : (A / U + 1) * U = A / U * U + U := by rw [Nat.add_mul, Nat.one_mul]
  refine ⟨?_, ?_, ?_, ?_⟩
  · rintro rfl
    refine ⟨?_, ?_⟩
    · rintro rfl
      rcases key with ⟨e, _⟩ | ⟨e, g⟩
      · rw [e]; omega
      · simp [leavesB] at g
    · rintro rfl
      rcases key with ⟨e, g⟩ | ⟨e, g⟩
      · rw [e]
        rcases g with g | g
        · omega
        · simp [leavesB] at g
      · rw [e, k1]; omega
  · rintro rfl
    refine ⟨?_, ?_⟩
    · rintro rfl
      rcases key with ⟨e, g⟩ | ⟨e, g⟩
      · rw [e]
        rcases g with g | g
        · omega
        · simp [leavesB] at g
      · rw [e, k1]; omega
    · rintro rfl
      rcases key with ⟨e, _⟩ | ⟨e, g⟩
      · rw [e]; omega
      · simp [leavesB] at g
  · rintro rfl
    rcases key with ⟨e, _⟩ | ⟨e, g⟩
    · rw [e]; omega
    · simp [leavesB] at g
  · rintro rfl
    rcases key with ⟨e, g⟩ | ⟨e, g⟩
    · rw [e]
      rcases g with g | g
      · omega
      · simp [leavesB] at g
    · rw [e, k1]; omega

theorem tellF_err {neg : Bool} {N : Nat} {e : Int} (h : (tellF neg N e).2 ≠ 0) : (tellF neg N e).1 = zeroD := by
  by_cases hm : May (finD neg N e)
  · rw [tellF_yes hm] at h; exact absurd rfl h
  · rw [tellF_no hm]; rfl

theorem rndD_err {d : DecT} {N : Nat} {x : Int} {m : Nat} (h : (rndD d N x m).2 ≠ 0) : (rndD d N x m).1 = zeroD := by
  by_cases hz : d.dig = []
  · rw [rndD_zero hz] at h; exact absurd rfl h
  · rw [rndD_fin hz] at h ⊢; exact tellF_err h

theorem stepR_err {ca : Int} {na : Bool} {l : List UInt8} {ea cb : Int} {nb : Bool} {k : List UInt8} {eb m : Int} (h : (stepR ca na l ea cb nb k eb m).2 ≠ 0) : (stepR ca na l ea cb nb k eb m).1 = zeroD := by
  by_cases hb : MayD cb nb k eb
  · by_cases h0 : MayD ca na l ea
    · by_cases h1 : m < 0 ∨ 8 ≤ m
      · rw [stepR_mode hb h0 h1]
      · by_cases h2 : StepD cb nb k
        · rw [stepR_in hb h0 h1 h2] at h ⊢; exact rndD_err h
        · rw [stepR_bad hb h0 h1 h2]
    · rw [stepR_no hb h0]
  · rw [stepR_bno hb]

theorem stepR_ok {ca : Int} {na : Bool} {l : List UInt8} {ea cb : Int} {nb : Bool} {k : List UInt8} {eb m : Int} (h : (stepR ca na l ea cb nb k eb m).2 = 0) : MayD cb nb k eb ∧ MayD ca na l ea ∧ ¬ (m < 0 ∨ 8 ≤ m) ∧ StepD cb nb k := by
  by_cases hb : MayD cb nb k eb
  · by_cases h0 : MayD ca na l ea
    · by_cases h1 : m < 0 ∨ 8 ≤ m
      · rw [stepR_mode hb h0 h1] at h; exact absurd h (by decide)
      · by_cases h2 : StepD cb nb k
        · exact ⟨hb, h0, h1, h2⟩
        · rw [stepR_bad hb h0 h1 h2] at h; exact absurd h (by decide)
    · rw [stepR_no hb h0] at h; exact absurd h (by decide)
  · rw [stepR_bno hb] at h; exact absurd h (by decide)

theorem Step_of {ca : Int} {na : Bool} {ta : ByteArray} {ea cb : Int} {nb : Bool} {tb : ByteArray} {eb m : Int} {r : DecT × Int} (hr : stepR ca na (bys ta) ea cb nb (bys tb) eb m = r) : ∀ W, Tab W → Calls Tryz.prog 16 #[dcV ca na ta ea, dcV cb nb tb eb, .int .i64 m] W fun e w' => e = .returned (decErr r) ∧ Below W.heap.size W w' := by
  intro W hT
  have := Step_any ca na ta ea cb nb tb eb m W hT
  rw [hr] at this
  exact this

theorem zD_injR {neg : Bool} {a b : Nat} (h : zD neg a = zD neg b) : a = b := by
  cases neg <;> simp only [zD, Bool.false_eq_true, if_false, if_true] at h <;> omega

/-- What was rounded stays, if it is rounded again. -/
theorem rndD_again {x : DecT} (hx : May x) {N : Nat} {e : Int} (m : Nat) {q : Nat} (he : -9000 ≤ e) (hv : vD x = zD x.neg (q * unitA N e)) : rndD x N e m = (x, 0) := by
  by_cases hz : x.dig = []
  · exact rndD_zero hz _ _ _
  · have hf := may_fin hx hz
    have l1 := hf.len
    have l2 := hf.lo
    refine rndD_exact hf m ?_
    have e1 : decV x.dig * 10 ^ (x.exp + 9000).toNat = q * unitA N e := zD_injR hv
    have c0 : 0 < 10 ^ (min x.exp e + 9000).toNat := Nat.pow_pos (by omega)
    have h2 : decV x.dig * 10 ^ (x.exp - min x.exp e).toNat * 10 ^ (min x.exp e + 9000).toNat % (N * 10 ^ (e - min x.exp e).toNat * 10 ^ (min x.exp e + 9000).toNat) = 0 := by
      rw [Nat.mul_assoc, Nat.mul_assoc, pow_join (by omega) (by omega), pow_join (by omega) (by omega), e1]
      exact Nat.mul_mod_left _ _
    rw [Nat.mul_mod_mul_right] at h2
    rcases Nat.mul_eq_zero.1 h2 with g | g
    · exact g
    · omega

theorem sumT_fin {a b : DecT} (ca : a.cls = 0) (cb : b.cls = 0) : sumT a b = tellF (decide (zc a (min a.exp b.exp) + zc b (min a.exp b.exp) < 0) || (a.neg && b.neg)) (zc a (min a.exp b.exp) + zc b (min a.exp b.exp)).natAbs (min a.exp b.exp) := by
  unfold sumT
  rw [if_pos ⟨ca, cb⟩]

theorem vD_sign {d : DecT} : (d.neg = true → vD d ≤ 0) ∧ (d.neg = false → 0 ≤ vD d) := by
  unfold vD
  refine ⟨fun h => ?_, fun h => ?_⟩
  · rw [h]; exact zD_le_zero _
  · rw [h]; exact zD_ge_zero _

theorem vD_flip (d : DecT) : vD (flipD d) = -(vD d) := by
  unfold vD flipD
  cases d.neg <;> simp [zD]

theorem near_walk (w : World) (htab : Tab w) (ca : Int) (na : Bool) (ta : ByteArray) (ea : Int) (cb : Int) (nb : Bool) (tb : ByteArray) (eb : Int) (m : Int) : Calls Tryz.prog 6 #[dcV ca na ta ea, dcV cb nb tb eb, .int .i64 m] w fun e w' => e = .returned (.bool true) ∧ Below w.heap.size w w' := by
  have S0 := Step_of (ca := ca) (na := na) (ta := ta) (ea := ea) (cb := cb) (nb := nb) (tb := tb) (eb := eb) (m := m) rfl
  have k0 := stepR_ok (ca := ca) (na := na) (l := bys ta) (ea := ea) (cb := cb) (nb := nb) (k := bys tb) (eb := eb) (m := m)
  have k1 := stepR_err (ca := ca) (na := na) (l := bys ta) (ea := ea) (cb := cb) (nb := nb) (k := bys tb) (eb := eb) (m := m)
  obtain ⟨x, hx⟩ : ∃ x, x = stepR ca na (bys ta) ea cb nb (bys tb) eb m := ⟨_, rfl⟩
  rw [← hx] at S0 k0 k1
  obtain ⟨x1, re⟩ := x
  by_cases he : re = 0
  · subst he
    obtain ⟨hb, h, hm, hs⟩ := k0 rfl
    rw [stepR_in hb h hm hs] at hx
    have md := may_of h
    have mb := may_of hb
    by_cases hc : ca = 0
    · subst hc
      obtain ⟨rfl, rfl, sl1, sl2⟩ := hs
      have bd := may_place hb
      have mx : May x1 := by have := rndD_may md (decV (bys tb)) eb m.toNat; rw [← hx] at this; exact this
      obtain ⟨v1, c1, n1⟩ := rndD_val md rfl (decV (bys tb)) (x := eb) m.toNat (by omega) (by rw [← hx])
      rw [← hx] at v1 c1 n1
      simp only at v1 c1 n1
      have okb := may_okT hb (fun g => sl1 (bys_nil.2 g))
      have hN : decV (bys tb) ≠ 0 := decV_ne sl1 okb.2 okb.1.2.2
      obtain ⟨u, hu⟩ : ∃ u, u = unitA (decV (bys tb)) eb := ⟨_, rfl⟩
      have hu0 : 0 < u := by rw [hu]; exact unitA_pos hN eb
      have wB : wD ⟨(0 : Int).toNat, false, bys tb, eb⟩ = (u : Int) := by
        rw [wD_fin0 rfl, hu]
        simp [vD, zD, amt, unitA]
      obtain ⟨a, ha⟩ : ∃ a, a = amt (bys ta) ea := ⟨_, rfl⟩
      have vd : vD ⟨(0 : Int).toNat, na, bys ta, ea⟩ = zD na a := by rw [ha]; rfl
      rw [← ha, ← hu] at v1
      have S1 : ∀ W, Tab W → Calls Tryz.prog 16 #[decVal x1, dcV 0 false tb eb, .int .i64 m] W fun e w' => e = .returned (.tuple #[decVal x1, .int .i64 0]) ∧ Below W.heap.size W w' := by
        have hmx : MayD (x1.cls : Int) x1.neg (bys ⟨x1.dig.toArray⟩) x1.exp := by rw [bys_mk]; exact mx
        refine Step_of (ca := (x1.cls : Int)) (na := x1.neg) (ta := ⟨x1.dig.toArray⟩) (ea := x1.exp) (r := (x1, 0)) ?_
        rw [stepR_in hb hmx hm ⟨rfl, rfl, sl1, sl2⟩, bys_mk]
        have e1 : (⟨((x1.cls : Int)).toNat, x1.neg, x1.dig, x1.exp⟩ : DecT) = x1 := by rw [Int.toNat_natCast]
        rw [e1]
        exact rndD_again mx m.toNat (q := rndN a u na m.toNat) (by omega) (by rw [v1, n1, ← hu])
      have NG : ∀ W, Calls Tryz.prog 22 #[dcV 0 na ta ea] W fun e w' => e = .returned (.tuple #[decVal (flipD ⟨(0 : Int).toNat, na, bys ta, ea⟩), .int .i64 0]) ∧ Below W.heap.size W w' := by
        intro W
        have g := Neg_d ⟨(0 : Int).toNat, na, bys ta, ea⟩ md (show (0 : Nat) ≠ 2 by decide) W
        rw [decVal_raw h] at g
        exact g
      have mfl : May (flipD ⟨(0 : Int).toNat, na, bys ta, ea⟩) := (may_flip (show (0 : Nat) ≠ 2 by decide)).2 md
      have AD := fun W (hT : Tab W) => Add_d x1 (flipD ⟨(0 : Int).toNat, na, bys ta, ea⟩) mx mfl W hT
      have sv := sum_val mx mfl c1 (show (flipD ⟨(0 : Int).toNat, na, bys ta, ea⟩).cls = 0 from rfl)
      have smay := sumT_may x1 (flipD ⟨(0 : Int).toNat, na, bys ta, ea⟩) mx mfl
      have serr : (sumT x1 (flipD ⟨(0 : Int).toNat, na, bys ta, ea⟩)).2 ≠ 0 → (sumT x1 (flipD ⟨(0 : Int).toNat, na, bys ta, ea⟩)).1 = zeroD := by
        rw [sumT_fin c1 rfl]; exact tellF_err
      rw [vD_flip, vd, v1] at sv
      obtain ⟨s, hsum⟩ : ∃ s, s = sumT x1 (flipD ⟨(0 : Int).toNat, na, bys ta, ea⟩) := ⟨_, rfl⟩
      rw [← hsum] at AD sv smay serr
      obtain ⟨s1, se⟩ := s
      obtain ⟨cx, nx, dx, ex⟩ := x1
      simp only at c1 n1
      subst c1 n1
      by_cases hse : se = 0
      · subst hse
        have sv := sv rfl
        simp only at sv smay
        obtain ⟨sv1, sv2⟩ := sv
        -- the amount of the difference
        have AW : ∃ G : DecT, May G ∧ wD G = ((zD nx (rndN a u nx m.toNat * u) + -(zD nx a)).natAbs : Int) ∧ G.cls = 0 ∧ ∀ W, Tab W → Calls Tryz.prog 18 #[decVal ⟨0, nx, dx, ex⟩, dcV 0 nx ta ea] W fun e w' => e = .returned (.tuple #[decVal G, .bool true]) ∧ Below W.heap.size W w' := by
          have sg := vD_sign (d := s1)
          cases hn : s1.neg
          · refine ⟨s1, smay, ?_, sv2, fun W hT => ?_⟩
            · rw [wD_fin0 sv2]
              have := sg.2 hn
              omega
            · have g := away_f_yes 0 nx ⟨dx.toArray⟩ ex 0 nx ta ea 0 (!nx) ⟨(bys ta).toArray⟩ ea s1.cls ⟨s1.dig.toArray⟩ s1.exp 0 W hT NG (by
                intro W hT
                have := AD W hT
                unfold decErr decVal at this
                simp only at this
                rw [hn] at this
                exact this)
              unfold decVal
              rw [hn]
              exact g
          · refine ⟨flipD s1, (may_flip (by omega)).2 smay, ?_, sv2, fun W hT => ?_⟩
            · rw [wD_fin0 (show (flipD s1).cls = 0 from sv2), vD_flip]
              have := sg.1 hn
              omega
            · have ns := fun W => Neg_d s1 smay (by omega) W
              unfold decVal at ns
              rw [hn] at ns
              exact away_t_yes 0 nx ⟨dx.toArray⟩ ex 0 nx ta ea 0 (!nx) ⟨(bys ta).toArray⟩ ea s1.cls ⟨s1.dig.toArray⟩ s1.exp (flipD s1).cls (flipD s1).neg ⟨(flipD s1).dig.toArray⟩ (flipD s1).exp 0 0 W hT NG (by
                intro W hT
                have := AD W hT
                unfold decErr decVal at this
                simp only at this
                rw [hn] at this
                exact this) ns
        obtain ⟨G, mG, wG, cG, AW⟩ := AW
        have TD := fun W (hT : Tab W) => Add_d G G mG mG W hT
        have tv := sum_val mG mG cG cG
        have tmay := sumT_may G G mG mG
        obtain ⟨tt, htt⟩ : ∃ tt, tt = sumT G G := ⟨_, rfl⟩
        rw [← htt] at TD tv tmay
        obtain ⟨T, rg⟩ := tt
        have wX : wD ⟨0, nx, dx, ex⟩ = zD nx (rndN a u nx m.toNat * u) := by rw [wD_fin0 rfl]; exact v1
        have wd : wD ⟨(0 : Int).toNat, nx, bys ta, ea⟩ = zD nx a := by rw [wD_fin0 rfl]; exact vd
        have gap := rnd_gap a u nx m.toNat hu0
        have side := rnd_side a u nx m.toNat hu0
        obtain ⟨R, hR⟩ : ∃ R, R = rndN a u nx m.toNat * u := ⟨_, rfl⟩
        rw [← hR] at wG wX gap side
        have wGn : wD G = ((R : Int) - (a : Int)).natAbs := by
          rw [wG]
          cases nx <;> simp only [zD, Bool.false_eq_true, if_false, if_true] <;> omega
        have L1 : ∀ W, Calls Tryz.prog 20 #[decVal G, dcV 0 false tb eb] W fun e w' => e = .returned (.bool true) ∧ Below W.heap.size W w' := by
          intro W
          have g := less_d G ⟨(0 : Int).toNat, false, bys tb, eb⟩ mG mb W
          rw [decVal_raw hb, show decide (wD G < wD ⟨(0 : Int).toNat, false, bys tb, eb⟩) = true from decide_eq_true (by rw [wB, wGn]; rcases gap with g | g <;> omega)] at g
          exact g
        have L3 : ∀ W, Calls Tryz.prog 20 #[decVal ⟨0, nx, dx, ex⟩, dcV 0 nx ta ea] W fun e w' => e = .returned (.bool (decide (zD nx R < zD nx a))) ∧ Below W.heap.size W w' := by
          intro W
          have g := less_d ⟨0, nx, dx, ex⟩ ⟨(0 : Int).toNat, nx, bys ta, ea⟩ mx md W
          rw [decVal_raw h, wX, wd] at g
          exact g
        have L4 : ∀ W, Calls Tryz.prog 20 #[dcV 0 nx ta ea, decVal ⟨0, nx, dx, ex⟩] W fun e w' => e = .returned (.bool (decide (zD nx a < zD nx R))) ∧ Below W.heap.size W w' := by
          intro W
          have g := less_d ⟨(0 : Int).toNat, nx, bys ta, ea⟩ ⟨0, nx, dx, ex⟩ md mx W
          rw [decVal_raw h, wX, wd] at g
          exact g
        obtain ⟨s0, s1', s2, s3⟩ := side
        have notlow : (nx = false → a ≤ R) → (nx = true → R ≤ a) → decide (zD nx R < zD nx a) = false := by
          intro g1 g2
          refine decide_eq_false ?_
          cases nx <;> simp only [zD, Bool.false_eq_true, if_false, if_true]
          · have := g1 rfl; omega
          · have := g2 rfl; omega
        have nothigh : (nx = false → R ≤ a) → (nx = true → a ≤ R) → decide (zD nx a < zD nx R) = false := by
          intro g1 g2
          refine decide_eq_false ?_
          cases nx <;> simp only [zD, Bool.false_eq_true, if_false, if_true]
          · have := g1 rfl; omega
          · have := g2 rfl; omega
        by_cases m0 : m = 0
        · subst m0
          rw [notlow (fun g => (s0 rfl).2 g) (fun g => (s0 rfl).1 g)] at L3
          by_cases hg : rg = 0
          · subst hg
            exact near_0z nx ta ea 0 false tb eb ⟨dx.toArray⟩ ex w htab G.cls G.neg ⟨G.dig.toArray⟩ G.exp T.cls T.neg ⟨T.dig.toArray⟩ T.exp _ S0 S1 AW TD L1 L3 L4
          · exact near_0r nx ta ea 0 false tb eb ⟨dx.toArray⟩ ex w htab G.cls G.neg ⟨G.dig.toArray⟩ G.exp T.cls T.neg ⟨T.dig.toArray⟩ T.exp rg hg _ S0 S1 AW TD L1 L3 L4
        by_cases m1 : m = 1
        · subst m1
          rw [nothigh (fun g => (s1' rfl).2 g) (fun g => (s1' rfl).1 g)] at L4
          by_cases hg : rg = 0
          · subst hg
            exact near_1z nx ta ea 0 false tb eb ⟨dx.toArray⟩ ex w htab G.cls G.neg ⟨G.dig.toArray⟩ G.exp T.cls T.neg ⟨T.dig.toArray⟩ T.exp _ S0 S1 AW TD L1 L3 L4
          · exact near_1r nx ta ea 0 false tb eb ⟨dx.toArray⟩ ex w htab G.cls G.neg ⟨G.dig.toArray⟩ G.exp T.cls T.neg ⟨T.dig.toArray⟩ T.exp rg hg _ S0 S1 AW TD L1 L3 L4
        by_cases m2 : m = 2
        · subst m2
          cases nx
          · rw [nothigh (fun _ => s2 rfl) (fun g => by cases g)] at L4
            by_cases hg : rg = 0
            · subst hg
              exact near_2fz ta ea 0 false tb eb ⟨dx.toArray⟩ ex w htab G.cls G.neg ⟨G.dig.toArray⟩ G.exp T.cls T.neg ⟨T.dig.toArray⟩ T.exp _ S0 S1 AW TD L1 L3 L4
            · exact near_2fr ta ea 0 false tb eb ⟨dx.toArray⟩ ex w htab G.cls G.neg ⟨G.dig.toArray⟩ G.exp T.cls T.neg ⟨T.dig.toArray⟩ T.exp rg hg _ S0 S1 AW TD L1 L3 L4
          · rw [notlow (fun g => by cases g) (fun _ => s2 rfl)] at L3
            by_cases hg : rg = 0
            · subst hg
              exact near_2tz ta ea 0 false tb eb ⟨dx.toArray⟩ ex w htab G.cls G.neg ⟨G.dig.toArray⟩ G.exp T.cls T.neg ⟨T.dig.toArray⟩ T.exp _ S0 S1 AW TD L1 L3 L4
            · exact near_2tr ta ea 0 false tb eb ⟨dx.toArray⟩ ex w htab G.cls G.neg ⟨G.dig.toArray⟩ G.exp T.cls T.neg ⟨T.dig.toArray⟩ T.exp rg hg _ S0 S1 AW TD L1 L3 L4
        by_cases m3 : m = 3
        · subst m3
          cases nx
          · rw [notlow (fun _ => s3 rfl) (fun g => by cases g)] at L3
            by_cases hg : rg = 0
            · subst hg
              exact near_3fz ta ea 0 false tb eb ⟨dx.toArray⟩ ex w htab G.cls G.neg ⟨G.dig.toArray⟩ G.exp T.cls T.neg ⟨T.dig.toArray⟩ T.exp _ S0 S1 AW TD L1 L3 L4
            · exact near_3fr ta ea 0 false tb eb ⟨dx.toArray⟩ ex w htab G.cls G.neg ⟨G.dig.toArray⟩ G.exp T.cls T.neg ⟨T.dig.toArray⟩ T.exp rg hg _ S0 S1 AW TD L1 L3 L4
          · rw [nothigh (fun g => by cases g) (fun _ => s3 rfl)] at L4
            by_cases hg : rg = 0
            · subst hg
              exact near_3tz ta ea 0 false tb eb ⟨dx.toArray⟩ ex w htab G.cls G.neg ⟨G.dig.toArray⟩ G.exp T.cls T.neg ⟨T.dig.toArray⟩ T.exp _ S0 S1 AW TD L1 L3 L4
            · exact near_3tr ta ea 0 false tb eb ⟨dx.toArray⟩ ex w htab G.cls G.neg ⟨G.dig.toArray⟩ G.exp T.cls T.neg ⟨T.dig.toArray⟩ T.exp rg hg _ S0 S1 AW TD L1 L3 L4
        by_cases hg : rg = 0
        · subst hg
          obtain ⟨t1, t2⟩ := tv rfl
          simp only at t1 t2
          have L2 : ∀ W, Calls Tryz.prog 20 #[dcV 0 false tb eb, decVal T] W fun e w' => e = .returned (.bool false) ∧ Below W.heap.size W w' := by
            intro W
            have g := less_d ⟨(0 : Int).toNat, false, bys tb, eb⟩ T mb tmay W
            rw [decVal_raw hb, show decide (wD ⟨(0 : Int).toNat, false, bys tb, eb⟩ < wD T) = false from decide_eq_false (by
              rw [wB, wD_fin0 t2, t1, ← wD_fin0 cG, wGn]
              rcases gap with ⟨g1, g2, g3, g4⟩ | ⟨g1, g2, g3, g4, g5⟩
              · have := g4 (by omega) (by omega); omega
              · have := g5 (by omega) (by omega); omega)] at g
            exact g
          exact near_mz nx ta ea 0 false tb eb ⟨dx.toArray⟩ ex m w htab G.cls G.neg ⟨G.dig.toArray⟩ G.exp T.cls T.neg ⟨T.dig.toArray⟩ T.exp _ _ (by omega) S0 S1 AW TD L1 L2 L3 L4
        · exact near_mr nx ta ea 0 false tb eb ⟨dx.toArray⟩ ex m w htab G.cls G.neg ⟨G.dig.toArray⟩ G.exp T.cls T.neg ⟨T.dig.toArray⟩ T.exp rg hg _ _ (by omega) S0 S1 AW TD L1 L3 L4
      · have zs := serr (by simpa using hse)
        simp only at zs
        rw [zs] at AD
        have AW : ∀ W, Tab W → Calls Tryz.prog 18 #[decVal ⟨0, nx, dx, ex⟩, dcV 0 nx ta ea] W fun e w' => e = .returned (.tuple #[decVal zeroD, .bool false]) ∧ Below W.heap.size W w' := by
          intro W hT
          exact away_f_no 0 nx ⟨dx.toArray⟩ ex 0 nx ta ea 0 (!nx) ⟨(bys ta).toArray⟩ ea 0 ⟨#[]⟩ 0 se 0 W hT hse NG AD
        exact near_n nx ta ea 0 false tb eb ⟨dx.toArray⟩ ex m w htab 0 false ⟨#[]⟩ 0 S0 S1 AW
    · have hz : bys ta = [] := by
        rcases h with ⟨g, _⟩ | ⟨_, g, _⟩ | ⟨_, _, g, _⟩
        · exact absurd g hc
        · exact g
        · exact g
      rw [rndD_zero hz] at hx
      obtain ⟨e1, _⟩ := Prod.mk.inj hx
      subst e1
      unfold decErr at S0
      simp only at S0
      rw [decVal_raw h] at S0
      exact near_c ca na ta ea cb nb tb eb m w htab hc S0
  · have zx := k1 (by simpa using he)
    simp only at zx
    subst zx
    exact near_e ca na ta ea cb nb tb eb m w htab re he S0

end Go.Proofs.YtcclbcnmkaobpaaGreatDoor
