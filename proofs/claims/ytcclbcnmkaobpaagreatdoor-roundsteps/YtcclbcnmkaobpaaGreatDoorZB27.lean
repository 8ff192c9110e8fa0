/-
  RoundPlaces, RoundDigits and RoundSteps, out of what the code and the reference answer.
  Plain mathematics: limbs of 64 bits as digits of 16 bits, and back.
  What the reference's In does: limbs, as digits of 16 bits.
-/
import Derived.Test.YtcclbcnmkaobpaaGreatDoorZB6
import Derived.Test.YtcclbcnmkaobpaaGreatDoorZB9
import Derived.Test.YtcclbcnmkaobpaaGreatDoorZB2
import Derived.Test.YtcclbcnmkaobpaaGreatDoorZRTrim
import Derived.Test.YtcclbcnmkaobpaaGreatDoorZUint
import Derived.Laws.Bits64b
namespace Go.Proofs.YtcclbcnmkaobpaaGreatDoor
open Go.RowKit

set_option maxRecDepth 100000 in
set_option maxHeartbeats 4000000 in
theorem roundDigits_gen (ca : Int) (na : Bool) (ta : ByteArray) (ea : Int) (p m : Int) (cx : Int) (nx : Bool) (tx : ByteArray) (ex : Int) (rx : Int) (w : World) (htab : Tab w) (h0 : ∀ W, Tab W → Calls Tryz.prog 14 #[dcV ca na ta ea, .int .i64 p, .int .i64 m] W fun e w' => e = .returned (.tuple #[.agg #[.int .i64 cx, .bool nx, .string tx, .int .i64 ex], .int .i64 rx]) ∧ Below W.heap.size W w') (h1 : ∀ W, Calls Tryz.prog 15 #[dcV ca na ta ea, .int .i64 p, .int .i64 m] W fun e w' => e = .returned (.tuple #[.agg #[.int .i64 cx, .bool nx, .string tx, .int .i64 ex], .int .i64 rx]) ∧ Below W.heap.size W w') : Calls Tryz.prog 4 #[dcV ca na ta ea, .int .i64 p, .int .i64 m] w fun e w' => e = .returned (.bool true) ∧ Below w.heap.size w w' := by
  have H0 := hide h0
  have H1 := hide h1
  have HT := hide htab
  clear htab h0 h1
  have Ba0 := hide (Blk.newAt w (w.heap.size) (rfl) #[.int .i64 ca, .bool na, .string ta, .int .i64 ea] 23)
  have HB0 : Hid (Below w.heap.size w (w.alloc (.cells #[.int .i64 ca, .bool na, .string ta, .int .i64 ea] 23))) := ((Below.refl _ _).alloc (Nat.le_refl _) _)
  go_enter Tryz.func4, Tryz.ntmps4
  go_wp2_with fail
  refine (H0.out _ (HT.out.below HB0.out)).mono ?_
  rintro e w1 ⟨rfl, hb⟩
  have Ba1 := hide (Ba0.out.below hb Ba0.out.lt)
  have HB1 := hide (HB0.out.trans (hb.mono HB0.out.size))
  clear hb Ba0 HB0 
  have ya0 : w1.cell? ⟨w.heap.size, 0, none⟩ = some (.int .i64 ca) := Ba1.out.cell 0
  have ya1 : w1.cell? ⟨w.heap.size, 1, none⟩ = some (.bool na) := Ba1.out.cell 1
  have ya2 : w1.cell? ⟨w.heap.size, 2, none⟩ = some (.string ta) := Ba1.out.cell 2
  have ya3 : w1.cell? ⟨w.heap.size, 3, none⟩ = some (.int .i64 ea) := Ba1.out.cell 3
  have Ba2 := hide ((Ba1.out.alloc (.cells #[.int .i64 cx, .bool nx, .string tx, .int .i64 ex] 23)))
  have Bv02 := hide ((Blk.newAt w1 (w1.heap.size) (rfl) #[.int .i64 cx, .bool nx, .string tx, .int .i64 ex] 23))
  have HB2 : Hid (Below w.heap.size w (w1.alloc (.cells #[.int .i64 cx, .bool nx, .string tx, .int .i64 ex] 23))) := (HB1.out.alloc HB1.out.size _)
  clear Ba1 HB1 ya0 ya1 ya2 ya3
  have ya0 : (w1.alloc (.cells #[.int .i64 cx, .bool nx, .string tx, .int .i64 ex] 23)).cell? ⟨w.heap.size, 0, none⟩ = some (.int .i64 ca) := Ba2.out.cell 0
  have ya1 : (w1.alloc (.cells #[.int .i64 cx, .bool nx, .string tx, .int .i64 ex] 23)).cell? ⟨w.heap.size, 1, none⟩ = some (.bool na) := Ba2.out.cell 1
  have ya2 : (w1.alloc (.cells #[.int .i64 cx, .bool nx, .string tx, .int .i64 ex] 23)).cell? ⟨w.heap.size, 2, none⟩ = some (.string ta) := Ba2.out.cell 2
  have ya3 : (w1.alloc (.cells #[.int .i64 cx, .bool nx, .string tx, .int .i64 ex] 23)).cell? ⟨w.heap.size, 3, none⟩ = some (.int .i64 ea) := Ba2.out.cell 3
  have yv00 : (w1.alloc (.cells #[.int .i64 cx, .bool nx, .string tx, .int .i64 ex] 23)).cell? ⟨w1.heap.size, 0, none⟩ = some (.int .i64 cx) := Bv02.out.cell 0
  have yv01 : (w1.alloc (.cells #[.int .i64 cx, .bool nx, .string tx, .int .i64 ex] 23)).cell? ⟨w1.heap.size, 1, none⟩ = some (.bool nx) := Bv02.out.cell 1
  have yv02 : (w1.alloc (.cells #[.int .i64 cx, .bool nx, .string tx, .int .i64 ex] 23)).cell? ⟨w1.heap.size, 2, none⟩ = some (.string tx) := Bv02.out.cell 2
  have yv03 : (w1.alloc (.cells #[.int .i64 cx, .bool nx, .string tx, .int .i64 ex] 23)).cell? ⟨w1.heap.size, 3, none⟩ = some (.int .i64 ex) := Bv02.out.cell 3
  go_wp2_with fail
  refine (H1.out _).mono ?_
  rintro e w3 ⟨rfl, hb⟩
  have Ba3 := hide (Ba2.out.below hb Ba2.out.lt)
  have Bv03 := hide (Bv02.out.below hb Bv02.out.lt)
  have HB3 := hide (HB2.out.trans (hb.mono HB2.out.size))
  clear hb Ba2 Bv02 HB2 ya0 ya1 ya2 ya3 yv00 yv01 yv02 yv03
  have ya0 : w3.cell? ⟨w.heap.size, 0, none⟩ = some (.int .i64 ca) := Ba3.out.cell 0
  have ya1 : w3.cell? ⟨w.heap.size, 1, none⟩ = some (.bool na) := Ba3.out.cell 1
  have ya2 : w3.cell? ⟨w.heap.size, 2, none⟩ = some (.string ta) := Ba3.out.cell 2
  have ya3 : w3.cell? ⟨w.heap.size, 3, none⟩ = some (.int .i64 ea) := Ba3.out.cell 3
  have yv00 : w3.cell? ⟨w1.heap.size, 0, none⟩ = some (.int .i64 cx) := Bv03.out.cell 0
  have yv01 : w3.cell? ⟨w1.heap.size, 1, none⟩ = some (.bool nx) := Bv03.out.cell 1
  have yv02 : w3.cell? ⟨w1.heap.size, 2, none⟩ = some (.string tx) := Bv03.out.cell 2
  have yv03 : w3.cell? ⟨w1.heap.size, 3, none⟩ = some (.int .i64 ex) := Bv03.out.cell 3
  have Ba4 := hide ((Ba3.out.alloc (.cells #[.int .i64 cx, .bool nx, .string tx, .int .i64 ex] 23)))
  have Bv04 := hide ((Bv03.out.alloc (.cells #[.int .i64 cx, .bool nx, .string tx, .int .i64 ex] 23)))
  have Bv14 := hide ((Blk.newAt w3 (w3.heap.size) (rfl) #[.int .i64 cx, .bool nx, .string tx, .int .i64 ex] 23))
  have HB4 : Hid (Below w.heap.size w (w3.alloc (.cells #[.int .i64 cx, .bool nx, .string tx, .int .i64 ex] 23))) := (HB3.out.alloc HB3.out.size _)
  clear Ba3 Bv03 HB3 ya0 ya1 ya2 ya3 yv00 yv01 yv02 yv03
  have ya0 : (w3.alloc (.cells #[.int .i64 cx, .bool nx, .string tx, .int .i64 ex] 23)).cell? ⟨w.heap.size, 0, none⟩ = some (.int .i64 ca) := Ba4.out.cell 0
  have ya1 : (w3.alloc (.cells #[.int .i64 cx, .bool nx, .string tx, .int .i64 ex] 23)).cell? ⟨w.heap.size, 1, none⟩ = some (.bool na) := Ba4.out.cell 1
  have ya2 : (w3.alloc (.cells #[.int .i64 cx, .bool nx, .string tx, .int .i64 ex] 23)).cell? ⟨w.heap.size, 2, none⟩ = some (.string ta) := Ba4.out.cell 2
  have ya3 : (w3.alloc (.cells #[.int .i64 cx, .bool nx, .string tx, .int .i64 ex] 23)).cell? ⟨w.heap.size, 3, none⟩ = some (.int .i64 ea) := Ba4.out.cell 3
  have yv00 : (w3.alloc (.cells #[.int .i64 cx, .bool nx, .string tx, .int .i64 ex] 23)).cell? ⟨w1.heap.size, 0, none⟩ = some (.int .i64 cx) := Bv04.out.cell 0
  have yv01 : (w3.alloc (.cells #[.int .i64 cx, .bool nx, .string tx, .int .i64 ex] 23)).cell? ⟨w1.heap.size, 1, none⟩ = some (.bool nx) := Bv04.out.cell 1
  have yv02 : (w3.alloc (.cells #[.int .i64 cx, .bool nx, .string tx, .int .i64 ex] 23)).cell? ⟨w1.heap.size, 2, none⟩ = some (.string tx) := Bv04.out.cell 2
  have yv03 : (w3.alloc (.cells #[.int .i64 cx, .bool nx, .string tx, .int .i64 ex] 23)).cell? ⟨w1.heap.size, 3, none⟩ = some (.int .i64 ex) := Bv04.out.cell 3
  have yv10 : (w3.alloc (.cells #[.int .i64 cx, .bool nx, .string tx, .int .i64 ex] 23)).cell? ⟨w3.heap.size, 0, none⟩ = some (.int .i64 cx) := Bv14.out.cell 0
  have yv11 : (w3.alloc (.cells #[.int .i64 cx, .bool nx, .string tx, .int .i64 ex] 23)).cell? ⟨w3.heap.size, 1, none⟩ = some (.bool nx) := Bv14.out.cell 1
  have yv12 : (w3.alloc (.cells #[.int .i64 cx, .bool nx, .string tx, .int .i64 ex] 23)).cell? ⟨w3.heap.size, 2, none⟩ = some (.string tx) := Bv14.out.cell 2
  have yv13 : (w3.alloc (.cells #[.int .i64 cx, .bool nx, .string tx, .int .i64 ex] 23)).cell? ⟨w3.heap.size, 3, none⟩ = some (.int .i64 ex) := Bv14.out.cell 3
  have HTW := hide (HT.out.below HB4.out)
  clear HT H0 H1
  go_wp2_with fail
  refine (rawake_any _ HTW.out).mono ?_
  rintro e w5 ⟨rfl, hb⟩
  have Ba5 := hide (Ba4.out.below hb Ba4.out.lt)
  have Bv05 := hide (Bv04.out.below hb Bv04.out.lt)
  have Bv15 := hide (Bv14.out.below hb Bv14.out.lt)
  have HB5 := hide (HB4.out.trans (hb.mono HB4.out.size))
  clear hb Ba4 Bv04 Bv14 HB4 ya0 ya1 ya2 ya3 yv00 yv01 yv02 yv03 yv10 yv11 yv12 yv13
  have ya0 : w5.cell? ⟨w.heap.size, 0, none⟩ = some (.int .i64 ca) := Ba5.out.cell 0
  have ya1 : w5.cell? ⟨w.heap.size, 1, none⟩ = some (.bool na) := Ba5.out.cell 1
  have ya2 : w5.cell? ⟨w.heap.size, 2, none⟩ = some (.string ta) := Ba5.out.cell 2
  have ya3 : w5.cell? ⟨w.heap.size, 3, none⟩ = some (.int .i64 ea) := Ba5.out.cell 3
  have yv00 : w5.cell? ⟨w1.heap.size, 0, none⟩ = some (.int .i64 cx) := Bv05.out.cell 0
  have yv01 : w5.cell? ⟨w1.heap.size, 1, none⟩ = some (.bool nx) := Bv05.out.cell 1
  have yv02 : w5.cell? ⟨w1.heap.size, 2, none⟩ = some (.string tx) := Bv05.out.cell 2
  have yv03 : w5.cell? ⟨w1.heap.size, 3, none⟩ = some (.int .i64 ex) := Bv05.out.cell 3
  have yv10 : w5.cell? ⟨w3.heap.size, 0, none⟩ = some (.int .i64 cx) := Bv15.out.cell 0
  have yv11 : w5.cell? ⟨w3.heap.size, 1, none⟩ = some (.bool nx) := Bv15.out.cell 1
  have yv12 : w5.cell? ⟨w3.heap.size, 2, none⟩ = some (.string tx) := Bv15.out.cell 2
  have yv13 : w5.cell? ⟨w3.heap.size, 3, none⟩ = some (.int .i64 ex) := Bv15.out.cell 3
  go_wp2
  go_ret
  exact ⟨rfl, HB5.out⟩

set_option maxRecDepth 100000 in
set_option maxHeartbeats 4000000 in
theorem roundSteps_gen (ca : Int) (na : Bool) (ta : ByteArray) (ea : Int) (cb : Int) (nb : Bool) (tb : ByteArray) (eb : Int) (m : Int) (cx : Int) (nx : Bool) (tx : ByteArray) (ex : Int) (rx : Int) (w : World) (htab : Tab w) (h0 : ∀ W, Tab W → Calls Tryz.prog 16 #[dcV ca na ta ea, dcV cb nb tb eb, .int .i64 m] W fun e w' => e = .returned (.tuple #[.agg #[.int .i64 cx, .bool nx, .string tx, .int .i64 ex], .int .i64 rx]) ∧ Below W.heap.size W w') (h1 : ∀ W, Calls Tryz.prog 17 #[dcV ca na ta ea, dcV cb nb tb eb, .int .i64 m] W fun e w' => e = .returned (.tuple #[.agg #[.int .i64 cx, .bool nx, .string tx, .int .i64 ex], .int .i64 rx]) ∧ Below W.heap.size W w') : Calls Tryz.prog 5 #[dcV ca na ta ea, dcV cb nb tb eb, .int .i64 m] w fun e w' => e = .returned (.bool true) ∧ Below w.heap.size w w' := by
  have H0 := hide h0
  have H1 := hide h1
  have HT := hide htab
  clear htab h0 h1
  have Ba0 := hide ((Blk.newAt w (w.heap.size) (rfl) #[.int .i64 ca, .bool na, .string ta, .int .i64 ea] 23).alloc (.cells #[.int .i64 cb, .bool nb, .string tb, .int .i64 eb] 23))
  have Bb0 := hide (Blk.newAt (w.alloc (.cells #[.int .i64 ca, .bool na, .string ta, .int .i64 ea] 23)) (w.heap.size + 1) (by simp) #[.int .i64 cb, .bool nb, .string tb, .int .i64 eb] 23)
  have HB0 : Hid (Below w.heap.size w ((w.alloc (.cells #[.int .i64 ca, .bool na, .string ta, .int .i64 ea] 23)).alloc (.cells #[.int .i64 cb, .bool nb, .string tb, .int .i64 eb] 23))) := (((Below.refl _ _).alloc (Nat.le_refl _) _).alloc (by simp <;> omega) _)
  go_enter Tryz.func5, Tryz.ntmps5
  go_wp2_with fail
  refine (H0.out _ (HT.out.below HB0.out)).mono ?_
  rintro e w1 ⟨rfl, hb⟩
  have Ba1 := hide (Ba0.out.below hb Ba0.out.lt)
  have Bb1 := hide (Bb0.out.below hb Bb0.out.lt)
  have HB1 := hide (HB0.out.trans (hb.mono HB0.out.size))
  clear hb Ba0 Bb0 HB0 
  have ya0 : w1.cell? ⟨w.heap.size, 0, none⟩ = some (.int .i64 ca) := Ba1.out.cell 0
  have ya1 : w1.cell? ⟨w.heap.size, 1, none⟩ = some (.bool na) := Ba1.out.cell 1
  have ya2 : w1.cell? ⟨w.heap.size, 2, none⟩ = some (.string ta) := Ba1.out.cell 2
  have ya3 : w1.cell? ⟨w.heap.size, 3, none⟩ = some (.int .i64 ea) := Ba1.out.cell 3
  have yb0 : w1.cell? ⟨w.heap.size + 1, 0, none⟩ = some (.int .i64 cb) := Bb1.out.cell 0
  have yb1 : w1.cell? ⟨w.heap.size + 1, 1, none⟩ = some (.bool nb) := Bb1.out.cell 1
  have yb2 : w1.cell? ⟨w.heap.size + 1, 2, none⟩ = some (.string tb) := Bb1.out.cell 2
  have yb3 : w1.cell? ⟨w.heap.size + 1, 3, none⟩ = some (.int .i64 eb) := Bb1.out.cell 3
  have Ba2 := hide ((Ba1.out.alloc (.cells #[.int .i64 cx, .bool nx, .string tx, .int .i64 ex] 23)))
  have Bb2 := hide ((Bb1.out.alloc (.cells #[.int .i64 cx, .bool nx, .string tx, .int .i64 ex] 23)))
  have Bv02 := hide ((Blk.newAt w1 (w1.heap.size) (rfl) #[.int .i64 cx, .bool nx, .string tx, .int .i64 ex] 23))
  have HB2 : Hid (Below w.heap.size w (w1.alloc (.cells #[.int .i64 cx, .bool nx, .string tx, .int .i64 ex] 23))) := (HB1.out.alloc HB1.out.size _)
  clear Ba1 Bb1 HB1 ya0 ya1 ya2 ya3 yb0 yb1 yb2 yb3
  have ya0 : (w1.alloc (.cells #[.int .i64 cx, .bool nx, .string tx, .int .i64 ex] 23)).cell? ⟨w.heap.size, 0, none⟩ = some (.int .i64 ca) := Ba2.out.cell 0
  have ya1 : (w1.alloc (.cells #[.int .i64 cx, .bool nx, .string tx, .int .i64 ex] 23)).cell? ⟨w.heap.size, 1, none⟩ = some (.bool na) := Ba2.out.cell 1
  have ya2 : (w1.alloc (.cells #[.int .i64 cx, .bool nx, .string tx, .int .i64 ex] 23)).cell? ⟨w.heap.size, 2, none⟩ = some (.string ta) := Ba2.out.cell 2
  have ya3 : (w1.alloc (.cells #[.int .i64 cx, .bool nx, .string tx, .int .i64 ex] 23)).cell? ⟨w.heap.size, 3, none⟩ = some (.int .i64 ea) := Ba2.out.cell 3
  have yb0 : (w1.alloc (.cells #[.int .i64 cx, .bool nx, .string tx, .int .i64 ex] 23)).cell? ⟨w.heap.size + 1, 0, none⟩ = some (.int .i64 cb) := Bb2.out.cell 0
  have yb1 : (w1.alloc (.cells #[.int .i64 cx, .bool nx, .string tx, .int .i64 ex] 23)).cell? ⟨w.heap.size + 1, 1, none⟩ = some (.bool nb) := Bb2.out.cell 1
  have yb2 : (w1.alloc (.cells #[.int .i64 cx, .bool nx, .string tx, .int .i64 ex] 23)).cell? ⟨w.heap.size + 1, 2, none⟩ = some (.string tb) := Bb2.out.cell 2
  have yb3 : (w1.alloc (.cells #[.int .i64 cx, .bool nx, .string tx, .int .i64 ex] 23)).cell? ⟨w.heap.size + 1, 3, none⟩ = some (.int .i64 eb) := Bb2.out.cell 3
  have yv00 : (w1.alloc (.cells #[.int .i64 cx, .bool nx, .string tx, .int .i64 ex] 23)).cell? ⟨w1.heap.size, 0, none⟩ = some (.int .i64 cx) := Bv02.out.cell 0
  have yv01 : (w1.alloc (.cells #[.int .i64 cx, .bool nx, .string tx, .int .i64 ex] 23)).cell? ⟨w1.heap.size, 1, none⟩ = some (.bool nx) := Bv02.out.cell 1
  have yv02 : (w1.alloc (.cells #[.int .i64 cx, .bool nx, .string tx, .int .i64 ex] 23)).cell? ⟨w1.heap.size, 2, none⟩ = some (.string tx) := Bv02.out.cell 2
  have yv03 : (w1.alloc (.cells #[.int .i64 cx, .bool nx, .string tx, .int .i64 ex] 23)).cell? ⟨w1.heap.size, 3, none⟩ = some (.int .i64 ex) := Bv02.out.cell 3
  go_wp2_with fail
  refine (H1.out _).mono ?_
  rintro e w3 ⟨rfl, hb⟩
  have Ba3 := hide (Ba2.out.below hb Ba2.out.lt)
  have Bb3 := hide (Bb2.out.below hb Bb2.out.lt)
  have Bv03 := hide (Bv02.out.below hb Bv02.out.lt)
  have HB3 := hide (HB2.out.trans (hb.mono HB2.out.size))
  clear hb Ba2 Bb2 Bv02 HB2 ya0 ya1 ya2 ya3 yb0 yb1 yb2 yb3 yv00 yv01 yv02 yv03
  have ya0 : w3.cell? ⟨w.heap.size, 0, none⟩ = some (.int .i64 ca) := Ba3.out.cell 0
  have ya1 : w3.cell? ⟨w.heap.size, 1, none⟩ = some (.bool na) := Ba3.out.cell 1
  have ya2 : w3.cell? ⟨w.heap.size, 2, none⟩ = some (.string ta) := Ba3.out.cell 2
  have ya3 : w3.cell? ⟨w.heap.size, 3, none⟩ = some (.int .i64 ea) := Ba3.out.cell 3
  have yb0 : w3.cell? ⟨w.heap.size + 1, 0, none⟩ = some (.int .i64 cb) := Bb3.out.cell 0
  have yb1 : w3.cell? ⟨w.heap.size + 1, 1, none⟩ = some (.bool nb) := Bb3.out.cell 1
  have yb2 : w3.cell? ⟨w.heap.size + 1, 2, none⟩ = some (.string tb) := Bb3.out.cell 2
  have yb3 : w3.cell? ⟨w.heap.size + 1, 3, none⟩ = some (.int .i64 eb) := Bb3.out.cell 3
  have yv00 : w3.cell? ⟨w1.heap.size, 0, none⟩ = some (.int .i64 cx) := Bv03.out.cell 0
  have yv01 : w3.cell? ⟨w1.heap.size, 1, none⟩ = some (.bool nx) := Bv03.out.cell 1
  have yv02 : w3.cell? ⟨w1.heap.size, 2, none⟩ = some (.string tx) := Bv03.out.cell 2
  have yv03 : w3.cell? ⟨w1.heap.size, 3, none⟩ = some (.int .i64 ex) := Bv03.out.cell 3
  have Ba4 := hide ((Ba3.out.alloc (.cells #[.int .i64 cx, .bool nx, .string tx, .int .i64 ex] 23)))
  have Bb4 := hide ((Bb3.out.alloc (.cells #[.int .i64 cx, .bool nx, .string tx, .int .i64 ex] 23)))
  have Bv04 := hide ((Bv03.out.alloc (.cells #[.int .i64 cx, .bool nx, .string tx, .int .i64 ex] 23)))
  have Bv14 := hide ((Blk.newAt w3 (w3.heap.size) (rfl) #[.int .i64 cx, .bool nx, .string tx, .int .i64 ex] 23))
  have HB4 : Hid (Below w.heap.size w (w3.alloc (.cells #[.int .i64 cx, .bool nx, .string tx, .int .i64 ex] 23))) := (HB3.out.alloc HB3.out.size _)
  clear Ba3 Bb3 Bv03 HB3 ya0 ya1 ya2 ya3 yb0 yb1 yb2 yb3 yv00 yv01 yv02 yv03
  have ya0 : (w3.alloc (.cells #[.int .i64 cx, .bool nx, .string tx, .int .i64 ex] 23)).cell? ⟨w.heap.size, 0, none⟩ = some (.int .i64 ca) := Ba4.out.cell 0
  have ya1 : (w3.alloc (.cells #[.int .i64 cx, .bool nx, .string tx, .int .i64 ex] 23)).cell? ⟨w.heap.size, 1, none⟩ = some (.bool na) := Ba4.out.cell 1
  have ya2 : (w3.alloc (.cells #[.int .i64 cx, .bool nx, .string tx, .int .i64 ex] 23)).cell? ⟨w.heap.size, 2, none⟩ = some (.string ta) := Ba4.out.cell 2
  have ya3 : (w3.alloc (.cells #[.int .i64 cx, .bool nx, .string tx, .int .i64 ex] 23)).cell? ⟨w.heap.size, 3, none⟩ = some (.int .i64 ea) := Ba4.out.cell 3
  have yb0 : (w3.alloc (.cells #[.int .i64 cx, .bool nx, .string tx, .int .i64 ex] 23)).cell? ⟨w.heap.size + 1, 0, none⟩ = some (.int .i64 cb) := Bb4.out.cell 0
  have yb1 : (w3.alloc (.cells #[.int .i64 cx, .bool nx, .string tx, .int .i64 ex] 23)).cell? ⟨w.heap.size + 1, 1, none⟩ = some (.bool nb) := Bb4.out.cell 1
  have yb2 : (w3.alloc (.cells #[.int .i64 cx, .bool nx, .string tx, .int .i64 ex] 23)).cell? ⟨w.heap.size + 1, 2, none⟩ = some (.string tb) := Bb4.out.cell 2
  have yb3 : (w3.alloc (.cells #[.int .i64 cx, .bool nx, .string tx, .int .i64 ex] 23)).cell? ⟨w.heap.size + 1, 3, none⟩ = some (.int .i64 eb) := Bb4.out.cell 3
  have yv00 : (w3.alloc (.cells #[.int .i64 cx, .bool nx, .string tx, .int .i64 ex] 23)).cell? ⟨w1.heap.size, 0, none⟩ = some (.int .i64 cx) := Bv04.out.cell 0
  have yv01 : (w3.alloc (.cells #[.int .i64 cx, .bool nx, .string tx, .int .i64 ex] 23)).cell? ⟨w1.heap.size, 1, none⟩ = some (.bool nx) := Bv04.out.cell 1
  have yv02 : (w3.alloc (.cells #[.int .i64 cx, .bool nx, .string tx, .int .i64 ex] 23)).cell? ⟨w1.heap.size, 2, none⟩ = some (.string tx) := Bv04.out.cell 2
  have yv03 : (w3.alloc (.cells #[.int .i64 cx, .bool nx, .string tx, .int .i64 ex] 23)).cell? ⟨w1.heap.size, 3, none⟩ = some (.int .i64 ex) := Bv04.out.cell 3
  have yv10 : (w3.alloc (.cells #[.int .i64 cx, .bool nx, .string tx, .int .i64 ex] 23)).cell? ⟨w3.heap.size, 0, none⟩ = some (.int .i64 cx) := Bv14.out.cell 0
  have yv11 : (w3.alloc (.cells #[.int .i64 cx, .bool nx, .string tx, .int .i64 ex] 23)).cell? ⟨w3.heap.size, 1, none⟩ = some (.bool nx) := Bv14.out.cell 1
  have yv12 : (w3.alloc (.cells #[.int .i64 cx, .bool nx, .string tx, .int .i64 ex] 23)).cell? ⟨w3.heap.size, 2, none⟩ = some (.string tx) := Bv14.out.cell 2
  have yv13 : (w3.alloc (.cells #[.int .i64 cx, .bool nx, .string tx, .int .i64 ex] 23)).cell? ⟨w3.heap.size, 3, none⟩ = some (.int .i64 ex) := Bv14.out.cell 3
  have HTW := hide (HT.out.below HB4.out)
  clear HT H0 H1
  go_wp2_with fail
  refine (rawake_any _ HTW.out).mono ?_
  rintro e w5 ⟨rfl, hb⟩
  have Ba5 := hide (Ba4.out.below hb Ba4.out.lt)
  have Bb5 := hide (Bb4.out.below hb Bb4.out.lt)
  have Bv05 := hide (Bv04.out.below hb Bv04.out.lt)
  have Bv15 := hide (Bv14.out.below hb Bv14.out.lt)
  have HB5 := hide (HB4.out.trans (hb.mono HB4.out.size))
  clear hb Ba4 Bb4 Bv04 Bv14 HB4 ya0 ya1 ya2 ya3 yb0 yb1 yb2 yb3 yv00 yv01 yv02 yv03 yv10 yv11 yv12 yv13
  have ya0 : w5.cell? ⟨w.heap.size, 0, none⟩ = some (.int .i64 ca) := Ba5.out.cell 0
  have ya1 : w5.cell? ⟨w.heap.size, 1, none⟩ = some (.bool na) := Ba5.out.cell 1
  have ya2 : w5.cell? ⟨w.heap.size, 2, none⟩ = some (.string ta) := Ba5.out.cell 2
  have ya3 : w5.cell? ⟨w.heap.size, 3, none⟩ = some (.int .i64 ea) := Ba5.out.cell 3
  have yb0 : w5.cell? ⟨w.heap.size + 1, 0, none⟩ = some (.int .i64 cb) := Bb5.out.cell 0
  have yb1 : w5.cell? ⟨w.heap.size + 1, 1, none⟩ = some (.bool nb) := Bb5.out.cell 1
  have yb2 : w5.cell? ⟨w.heap.size + 1, 2, none⟩ = some (.string tb) := Bb5.out.cell 2
  have yb3 : w5.cell? ⟨w.heap.size + 1, 3, none⟩ = some (.int .i64 eb) := Bb5.out.cell 3
  have yv00 : w5.cell? ⟨w1.heap.size, 0, none⟩ = some (.int .i64 cx) := Bv05.out.cell 0
  have yv01 : w5.cell? ⟨w1.heap.size, 1, none⟩ = some (.bool nx) := Bv05.out.cell 1
  have yv02 : w5.cell? ⟨w1.heap.size, 2, none⟩ = some (.string tx) := Bv05.out.cell 2
  have yv03 : w5.cell? ⟨w1.heap.size, 3, none⟩ = some (.int .i64 ex) := Bv05.out.cell 3
  have yv10 : w5.cell? ⟨w3.heap.size, 0, none⟩ = some (.int .i64 cx) := Bv15.out.cell 0
  have yv11 : w5.cell? ⟨w3.heap.size, 1, none⟩ = some (.bool nx) := Bv15.out.cell 1
  have yv12 : w5.cell? ⟨w3.heap.size, 2, none⟩ = some (.string tx) := Bv15.out.cell 2
  have yv13 : w5.cell? ⟨w3.heap.size, 3, none⟩ = some (.int .i64 ex) := Bv15.out.cell 3
  go_wp2
  go_ret
  exact ⟨rfl, HB5.out⟩

end Go.Proofs.YtcclbcnmkaobpaaGreatDoor

namespace Go.Proofs.YtcclbcnmkaobpaaGreatDoor

end Go.Proofs.YtcclbcnmkaobpaaGreatDoor

namespace Go.Proofs.YtcclbcnmkaobpaaGreatDoor
open Go.RowKit

/-- What the reference's functions answer: a list of digits, without noughts on top, that is the number n; it has at most m digits. -/
def RPost (w : World) (m n : Nat) (e : Ending) (w' : World) : Prop :=
  ∃ ao cap ys, e = .returned (.slice ao ys.length cap) ∧ ys.length ≤ cap ∧ At .u32 w' ao ys ∧ Is 65536 ys n ∧ ys.length ≤ m ∧ Below w.heap.size w w'

/-- A list that is being built by append. -/
def Grows (w wr : World) (v : Value) (ys : List Nat) : Prop := Below w.heap.size w wr ∧ wr.ownsRow w.heap.size 60 1 v ys.length (vals .u32 ys)

theorem Grows.at {w wr : World} {v : Value} {ys : List Nat} (h : Grows w wr v ys) : ∃ ao cap, v = .slice ao ys.length cap ∧ ys.length ≤ cap ∧ At .u32 wr ao ys := by
  obtain ⟨hb, hl, ho⟩ := h
  rcases ho with ⟨rfl, h0⟩ | ⟨g, cap, cur, rfl, hg, hh, hn, _, hs, ht⟩
  · obtain rfl : ys = [] := List.length_eq_zero_iff.1 h0
    exact ⟨none, 0, rfl, Nat.le_refl _, At.nil _ _ _⟩
  · refine ⟨_, cap, rfl, hn, .inr ⟨g, 0, rfl, lt_of_block hh, fun i hi => ?_⟩⟩
    simp only [World.cell?, hh]
    have hc : cur[i]? = (vals .u32 ys)[i]? := by
      rw [← ht, List.getElem?_take_of_lt (by omega), Array.getElem?_toList]
    simp only [Option.isSome_none, Bool.false_eq_true, if_false, Nat.zero_add, hc]
    simp [vals, hi]

theorem Grows.step {w wr w1 : World} {v v' : Value} {ys : List Nat} {d : Nat} (o : Obj) (h : Grows w wr v ys) (ho : w1.ownsRow w.heap.size 60 1 v' (ys.length + 1) (vals .u32 ys ++ [.int .u32 (d : Int)])) (hg : (wr.alloc o).grownBy w1 v.ownBlock) :
    Grows w w1 v' (ys ++ [d]) := by
  have hb := h.1.alloc (h.1.size) o
  refine ⟨hb.grown hg hb.size ?_, ?_⟩
  · intro k hk
    rcases h.2.2 with ⟨rfl, _⟩ | ⟨g, cap, cur, rfl, hgb, _⟩
    · simp [Value.ownBlock] at hk
    · simp [Value.ownBlock] at hk; omega
  · rw [List.length_append]
    have : vals .u32 (ys ++ [d]) = vals .u32 ys ++ [.int .u32 (d : Int)] := by simp [vals]
    rw [this]; exact ho

theorem and16 (a : Nat) (ha : a < B64) : bits .and .u64 (a : Int) 65535 % 4294967296 = ((a % 65536 : Nat) : Int) := by
  have h := bits_and_u64_nat a 65535 ha (by omega)
  rw [Nat.and_two_pow_sub_one_eq_mod a 16] at h
  rw [show (65535 : Int) = ((65535 : Nat) : Int) from rfl, h]
  omega

end Go.Proofs.YtcclbcnmkaobpaaGreatDoor
