/-
  The walks of DecScales, DecPrints, DecStands, DecReads and DecReckons, the code and the reference answering the same.
-/
import Derived.Test.YtafljhfamjabeaaGreatDoorZB27
namespace Go.Proofs.YtafljhfamjabeaaGreatDoor
open Go.RowKit

set_option maxRecDepth 100000 in
set_option maxHeartbeats 4000000 in
theorem decReckons_gen (ca : Int) (na : Bool) (ta : ByteArray) (ea : Int) (cb : Int) (nb : Bool) (tb : ByteArray) (eb : Int) (cx : Int) (nx : Bool) (tx : ByteArray) (ex rx : Int) (cy : Int) (ny : Bool) (ty : ByteArray) (ey ry : Int)  (w : World) (htab : Tab w) (h0 : ∀ W, Tab W → Calls Tryz.prog 28 #[dcV ca na ta ea, dcV cb nb tb eb] W fun e w' => e = .returned (.tuple #[.agg #[.int .i64 cx, .bool nx, .string tx, .int .i64 ex], .int .i64 rx]) ∧ Below W.heap.size W w') (h1 : ∀ W, Tab W → Calls Tryz.prog 29 #[dcV ca na ta ea, dcV cb nb tb eb] W fun e w' => e = .returned (.tuple #[.agg #[.int .i64 cx, .bool nx, .string tx, .int .i64 ex], .int .i64 rx]) ∧ Below W.heap.size W w') (h2 : ∀ W, Tab W → Calls Tryz.prog 30 #[dcV ca na ta ea, dcV cb nb tb eb] W fun e w' => e = .returned (.tuple #[.agg #[.int .i64 cy, .bool ny, .string ty, .int .i64 ey], .int .i64 ry]) ∧ Below W.heap.size W w') (h3 : ∀ W, Tab W → Calls Tryz.prog 31 #[dcV ca na ta ea, dcV cb nb tb eb] W fun e w' => e = .returned (.tuple #[.agg #[.int .i64 cy, .bool ny, .string ty, .int .i64 ey], .int .i64 ry]) ∧ Below W.heap.size W w') : Calls Tryz.prog 8 #[dcV ca na ta ea, dcV cb nb tb eb] w fun e w' => e = .returned (.bool true) ∧ Below w.heap.size w w' := by
  have H0 := hide h0
  have H1 := hide h1
  have H2 := hide h2
  have H3 := hide h3
  have HT := hide htab
  clear htab h0 h1 h2 h3
  have Ba0 := hide ((Blk.newAt w (w.heap.size) (rfl) #[.int .i64 ca, .bool na, .string ta, .int .i64 ea] 23).alloc (.cells #[.int .i64 cb, .bool nb, .string tb, .int .i64 eb] 23))
  have Bb0 := hide (Blk.newAt (w.alloc (.cells #[.int .i64 ca, .bool na, .string ta, .int .i64 ea] 23)) (w.heap.size + 1) (by simp) #[.int .i64 cb, .bool nb, .string tb, .int .i64 eb] 23)
  have HB0 : Hid (Below w.heap.size w ((w.alloc (.cells #[.int .i64 ca, .bool na, .string ta, .int .i64 ea] 23)).alloc (.cells #[.int .i64 cb, .bool nb, .string tb, .int .i64 eb] 23))) := (((Below.refl _ _).alloc (Nat.le_refl _) _).alloc (by simp <;> omega) _)
  go_enter Tryz.func8, Tryz.ntmps8
  go_wp2_with fail
  refine (H0.out _ (HT.out.below HB0.out)).mono ?_
  rintro e w1 ⟨rfl, hb⟩
  have Ba1 := hide (Ba0.out.below hb Ba0.out.lt)
  have Bb1 := hide (Bb0.out.below hb Bb0.out.lt)
  have HB1 := hide (HB0.out.trans (hb.mono HB0.out.size))
  clear hb Ba0 Bb0 HB0 
  have ya0 : w1.cell? ⟨w.heap.size, 0, none⟩ = some (.int .i64 ca) := Ba1.out.cell 0
  have ya1 : w1.cell? ⟨w.heap.size, 1, none⟩ = some (.bool na) := Ba1.out.cell 1
  have ya2 : w1.cell? ⟨w.heap.size, 2, none⟩ = some (.string ta) := Ba1.out.cell 2
  have ya3 : w1.cell? ⟨w.heap.size, 3, none⟩ = some (.int .i64 ea) := Ba1.out.cell 3
  have yb0 : w1.cell? ⟨w.heap.size + 1, 0, none⟩ = some (.int .i64 cb) := Bb1.out.cell 0
  have yb1 : w1.cell? ⟨w.heap.size + 1, 1, none⟩ = some (.bool nb) := Bb1.out.cell 1
  have yb2 : w1.cell? ⟨w.heap.size + 1, 2, none⟩ = some (.string tb) := Bb1.out.cell 2
  have yb3 : w1.cell? ⟨w.heap.size + 1, 3, none⟩ = some (.int .i64 eb) := Bb1.out.cell 3
  have Ba2 := hide ((Ba1.out.alloc (.cells #[.int .i64 cx, .bool nx, .string tx, .int .i64 ex] 23)))
  have Bb2 := hide ((Bb1.out.alloc (.cells #[.int .i64 cx, .bool nx, .string tx, .int .i64 ex] 23)))
  have Bv02 := hide ((Blk.newAt w1 (w1.heap.size) (rfl) #[.int .i64 cx, .bool nx, .string tx, .int .i64 ex] 23))
  have HB2 : Hid (Below w.heap.size w (w1.alloc (.cells #[.int .i64 cx, .bool nx, .string tx, .int .i64 ex] 23))) := (HB1.out.alloc HB1.out.size _)
  clear Ba1 Bb1 HB1 ya0 ya1 ya2 ya3 yb0 yb1 yb2 yb3
  have ya0 : (w1.alloc (.cells #[.int .i64 cx, .bool nx, .string tx, .int .i64 ex] 23)).cell? ⟨w.heap.size, 0, none⟩ = some (.int .i64 ca) := Ba2.out.cell 0
  have ya1 : (w1.alloc (.cells #[.int .i64 cx, .bool nx, .string tx, .int .i64 ex] 23)).cell? ⟨w.heap.size, 1, none⟩ = some (.bool na) := Ba2.out.cell 1
  have ya2 : (w1.alloc (.cells #[.int .i64 cx, .bool nx, .string tx, .int .i64 ex] 23)).cell? ⟨w.heap.size, 2, none⟩ = some (.string ta) := Ba2.out.cell 2
  have ya3 : (w1.alloc (.cells #[.int .i64 cx, .bool nx, .string tx, .int .i64 ex] 23)).cell? ⟨w.heap.size, 3, none⟩ = some (.int .i64 ea) := Ba2.out.cell 3
  have yb0 : (w1.alloc (.cells #[.int .i64 cx, .bool nx, .string tx, .int .i64 ex] 23)).cell? ⟨w.heap.size + 1, 0, none⟩ = some (.int .i64 cb) := Bb2.out.cell 0
  have yb1 : (w1.alloc (.cells #[.int .i64 cx, .bool nx, .string tx, .int .i64 ex] 23)).cell? ⟨w.heap.size + 1, 1, none⟩ = some (.bool nb) := Bb2.out.cell 1
  have yb2 : (w1.alloc (.cells #[.int .i64 cx, .bool nx, .string tx, .int .i64 ex] 23)).cell? ⟨w.heap.size + 1, 2, none⟩ = some (.string tb) := Bb2.out.cell 2
  have yb3 : (w1.alloc (.cells #[.int .i64 cx, .bool nx, .string tx, .int .i64 ex] 23)).cell? ⟨w.heap.size + 1, 3, none⟩ = some (.int .i64 eb) := Bb2.out.cell 3
  have yv00 : (w1.alloc (.cells #[.int .i64 cx, .bool nx, .string tx, .int .i64 ex] 23)).cell? ⟨w1.heap.size, 0, none⟩ = some (.int .i64 cx) := Bv02.out.cell 0
  have yv01 : (w1.alloc (.cells #[.int .i64 cx, .bool nx, .string tx, .int .i64 ex] 23)).cell? ⟨w1.heap.size, 1, none⟩ = some (.bool nx) := Bv02.out.cell 1
  have yv02 : (w1.alloc (.cells #[.int .i64 cx, .bool nx, .string tx, .int .i64 ex] 23)).cell? ⟨w1.heap.size, 2, none⟩ = some (.string tx) := Bv02.out.cell 2
  have yv03 : (w1.alloc (.cells #[.int .i64 cx, .bool nx, .string tx, .int .i64 ex] 23)).cell? ⟨w1.heap.size, 3, none⟩ = some (.int .i64 ex) := Bv02.out.cell 3
  go_wp2_with fail
  refine (H1.out _ (HT.out.below HB2.out)).mono ?_
  rintro e w3 ⟨rfl, hb⟩
  have Ba3 := hide (Ba2.out.below hb Ba2.out.lt)
  have Bb3 := hide (Bb2.out.below hb Bb2.out.lt)
  have Bv03 := hide (Bv02.out.below hb Bv02.out.lt)
  have HB3 := hide (HB2.out.trans (hb.mono HB2.out.size))
  clear hb Ba2 Bb2 Bv02 HB2 ya0 ya1 ya2 ya3 yb0 yb1 yb2 yb3 yv00 yv01 yv02 yv03
  have ya0 : w3.cell? ⟨w.heap.size, 0, none⟩ = some (.int .i64 ca) := Ba3.out.cell 0
  have ya1 : w3.cell? ⟨w.heap.size, 1, none⟩ = some (.bool na) := Ba3.out.cell 1
  have ya2 : w3.cell? ⟨w.heap.size, 2, none⟩ = some (.string ta) := Ba3.out.cell 2
  have ya3 : w3.cell? ⟨w.heap.size, 3, none⟩ = some (.int .i64 ea) := Ba3.out.cell 3
  have yb0 : w3.cell? ⟨w.heap.size + 1, 0, none⟩ = some (.int .i64 cb) := Bb3.out.cell 0
  have yb1 : w3.cell? ⟨w.heap.size + 1, 1, none⟩ = some (.bool nb) := Bb3.out.cell 1
  have yb2 : w3.cell? ⟨w.heap.size + 1, 2, none⟩ = some (.string tb) := Bb3.out.cell 2
  have yb3 : w3.cell? ⟨w.heap.size + 1, 3, none⟩ = some (.int .i64 eb) := Bb3.out.cell 3
  have yv00 : w3.cell? ⟨w1.heap.size, 0, none⟩ = some (.int .i64 cx) := Bv03.out.cell 0
  have yv01 : w3.cell? ⟨w1.heap.size, 1, none⟩ = some (.bool nx) := Bv03.out.cell 1
  have yv02 : w3.cell? ⟨w1.heap.size, 2, none⟩ = some (.string tx) := Bv03.out.cell 2
  have yv03 : w3.cell? ⟨w1.heap.size, 3, none⟩ = some (.int .i64 ex) := Bv03.out.cell 3
  have Ba4 := hide ((Ba3.out.alloc (.cells #[.int .i64 cx, .bool nx, .string tx, .int .i64 ex] 23)))
  have Bb4 := hide ((Bb3.out.alloc (.cells #[.int .i64 cx, .bool nx, .string tx, .int .i64 ex] 23)))
  have Bv04 := hide ((Bv03.out.alloc (.cells #[.int .i64 cx, .bool nx, .string tx, .int .i64 ex] 23)))
  have Bv14 := hide ((Blk.newAt w3 (w3.heap.size) (rfl) #[.int .i64 cx, .bool nx, .string tx, .int .i64 ex] 23))
  have HB4 : Hid (Below w.heap.size w (w3.alloc (.cells #[.int .i64 cx, .bool nx, .string tx, .int .i64 ex] 23))) := (HB3.out.alloc HB3.out.size _)
  clear Ba3 Bb3 Bv03 HB3 ya0 ya1 ya2 ya3 yb0 yb1 yb2 yb3 yv00 yv01 yv02 yv03
  have ya0 : (w3.alloc (.cells #[.int .i64 cx, .bool nx, .string tx, .int .i64 ex] 23)).cell? ⟨w.heap.size, 0, none⟩ = some (.int .i64 ca) := Ba4.out.cell 0
  have ya1 : (w3.alloc (.cells #[.int .i64 cx, .bool nx, .string tx, .int .i64 ex] 23)).cell? ⟨w.heap.size, 1, none⟩ = some (.bool na) := Ba4.out.cell 1
  have ya2 : (w3.alloc (.cells #[.int .i64 cx, .bool nx, .string tx, .int .i64 ex] 23)).cell? ⟨w.heap.size, 2, none⟩ = some (.string ta) := Ba4.out.cell 2
  have ya3 : (w3.alloc (.cells #[.int .i64 cx, .bool nx, .string tx, .int .i64 ex] 23)).cell? ⟨w.heap.size, 3, none⟩ = some (.int .i64 ea) := Ba4.out.cell 3
  have yb0 : (w3.alloc (.cells #[.int .i64 cx, .bool nx, .string tx, .int .i64 ex] 23)).cell? ⟨w.heap.size + 1, 0, none⟩ = some (.int .i64 cb) := Bb4.out.cell 0
  have yb1 : (w3.alloc (.cells #[.int .i64 cx, .bool nx, .string tx, .int .i64 ex] 23)).cell? ⟨w.heap.size + 1, 1, none⟩ = some (.bool nb) := Bb4.out.cell 1
  have yb2 : (w3.alloc (.cells #[.int .i64 cx, .bool nx, .string tx, .int .i64 ex] 23)).cell? ⟨w.heap.size + 1, 2, none⟩ = some (.string tb) := Bb4.out.cell 2
  have yb3 : (w3.alloc (.cells #[.int .i64 cx, .bool nx, .string tx, .int .i64 ex] 23)).cell? ⟨w.heap.size + 1, 3, none⟩ = some (.int .i64 eb) := Bb4.out.cell 3
  have yv00 : (w3.alloc (.cells #[.int .i64 cx, .bool nx, .string tx, .int .i64 ex] 23)).cell? ⟨w1.heap.size, 0, none⟩ = some (.int .i64 cx) := Bv04.out.cell 0
  have yv01 : (w3.alloc (.cells #[.int .i64 cx, .bool nx, .string tx, .int .i64 ex] 23)).cell? ⟨w1.heap.size, 1, none⟩ = some (.bool nx) := Bv04.out.cell 1
  have yv02 : (w3.alloc (.cells #[.int .i64 cx, .bool nx, .string tx, .int .i64 ex] 23)).cell? ⟨w1.heap.size, 2, none⟩ = some (.string tx) := Bv04.out.cell 2
  have yv03 : (w3.alloc (.cells #[.int .i64 cx, .bool nx, .string tx, .int .i64 ex] 23)).cell? ⟨w1.heap.size, 3, none⟩ = some (.int .i64 ex) := Bv04.out.cell 3
  have yv10 : (w3.alloc (.cells #[.int .i64 cx, .bool nx, .string tx, .int .i64 ex] 23)).cell? ⟨w3.heap.size, 0, none⟩ = some (.int .i64 cx) := Bv14.out.cell 0
  have yv11 : (w3.alloc (.cells #[.int .i64 cx, .bool nx, .string tx, .int .i64 ex] 23)).cell? ⟨w3.heap.size, 1, none⟩ = some (.bool nx) := Bv14.out.cell 1
  have yv12 : (w3.alloc (.cells #[.int .i64 cx, .bool nx, .string tx, .int .i64 ex] 23)).cell? ⟨w3.heap.size, 2, none⟩ = some (.string tx) := Bv14.out.cell 2
  have yv13 : (w3.alloc (.cells #[.int .i64 cx, .bool nx, .string tx, .int .i64 ex] 23)).cell? ⟨w3.heap.size, 3, none⟩ = some (.int .i64 ex) := Bv14.out.cell 3
  go_wp2_with fail
  refine (H2.out _ (HT.out.below HB4.out)).mono ?_
  rintro e w5 ⟨rfl, hb⟩
  have Ba5 := hide (Ba4.out.below hb Ba4.out.lt)
  have Bb5 := hide (Bb4.out.below hb Bb4.out.lt)
  have Bv05 := hide (Bv04.out.below hb Bv04.out.lt)
  have Bv15 := hide (Bv14.out.below hb Bv14.out.lt)
  have HB5 := hide (HB4.out.trans (hb.mono HB4.out.size))
  clear hb Ba4 Bb4 Bv04 Bv14 HB4 ya0 ya1 ya2 ya3 yb0 yb1 yb2 yb3 yv00 yv01 yv02 yv03 yv10 yv11 yv12 yv13
  have ya0 : w5.cell? ⟨w.heap.size, 0, none⟩ = some (.int .i64 ca) := Ba5.out.cell 0
  have ya1 : w5.cell? ⟨w.heap.size, 1, none⟩ = some (.bool na) := Ba5.out.cell 1
  have ya2 : w5.cell? ⟨w.heap.size, 2, none⟩ = some (.string ta) := Ba5.out.cell 2
  have ya3 : w5.cell? ⟨w.heap.size, 3, none⟩ = some (.int .i64 ea) := Ba5.out.cell 3
  have yb0 : w5.cell? ⟨w.heap.size + 1, 0, none⟩ = some (.int .i64 cb) := Bb5.out.cell 0
  have yb1 : w5.cell? ⟨w.heap.size + 1, 1, none⟩ = some (.bool nb) := Bb5.out.cell 1
  have yb2 : w5.cell? ⟨w.heap.size + 1, 2, none⟩ = some (.string tb) := Bb5.out.cell 2
  have yb3 : w5.cell? ⟨w.heap.size + 1, 3, none⟩ = some (.int .i64 eb) := Bb5.out.cell 3
  have yv00 : w5.cell? ⟨w1.heap.size, 0, none⟩ = some (.int .i64 cx) := Bv05.out.cell 0
  have yv01 : w5.cell? ⟨w1.heap.size, 1, none⟩ = some (.bool nx) := Bv05.out.cell 1
  have yv02 : w5.cell? ⟨w1.heap.size, 2, none⟩ = some (.string tx) := Bv05.out.cell 2
  have yv03 : w5.cell? ⟨w1.heap.size, 3, none⟩ = some (.int .i64 ex) := Bv05.out.cell 3
  have yv10 : w5.cell? ⟨w3.heap.size, 0, none⟩ = some (.int .i64 cx) := Bv15.out.cell 0
  have yv11 : w5.cell? ⟨w3.heap.size, 1, none⟩ = some (.bool nx) := Bv15.out.cell 1
  have yv12 : w5.cell? ⟨w3.heap.size, 2, none⟩ = some (.string tx) := Bv15.out.cell 2
  have yv13 : w5.cell? ⟨w3.heap.size, 3, none⟩ = some (.int .i64 ex) := Bv15.out.cell 3
  have Ba6 := hide ((Ba5.out.alloc (.cells #[.int .i64 cy, .bool ny, .string ty, .int .i64 ey] 23)))
  have Bb6 := hide ((Bb5.out.alloc (.cells #[.int .i64 cy, .bool ny, .string ty, .int .i64 ey] 23)))
  have Bv06 := hide ((Bv05.out.alloc (.cells #[.int .i64 cy, .bool ny, .string ty, .int .i64 ey] 23)))
  have Bv16 := hide ((Bv15.out.alloc (.cells #[.int .i64 cy, .bool ny, .string ty, .int .i64 ey] 23)))
  have Bv26 := hide ((Blk.newAt w5 (w5.heap.size) (rfl) #[.int .i64 cy, .bool ny, .string ty, .int .i64 ey] 23))
  have HB6 : Hid (Below w.heap.size w (w5.alloc (.cells #[.int .i64 cy, .bool ny, .string ty, .int .i64 ey] 23))) := (HB5.out.alloc HB5.out.size _)
  clear Ba5 Bb5 Bv05 Bv15 HB5 ya0 ya1 ya2 ya3 yb0 yb1 yb2 yb3 yv00 yv01 yv02 yv03 yv10 yv11 yv12 yv13
  have ya0 : (w5.alloc (.cells #[.int .i64 cy, .bool ny, .string ty, .int .i64 ey] 23)).cell? ⟨w.heap.size, 0, none⟩ = some (.int .i64 ca) := Ba6.out.cell 0
  have ya1 : (w5.alloc (.cells #[.int .i64 cy, .bool ny, .string ty, .int .i64 ey] 23)).cell? ⟨w.heap.size, 1, none⟩ = some (.bool na) := Ba6.out.cell 1
  have ya2 : (w5.alloc (.cells #[.int .i64 cy, .bool ny, .string ty, .int .i64 ey] 23)).cell? ⟨w.heap.size, 2, none⟩ = some (.string ta) := Ba6.out.cell 2
  have ya3 : (w5.alloc (.cells #[.int .i64 cy, .bool ny, .string ty, .int .i64 ey] 23)).cell? ⟨w.heap.size, 3, none⟩ = some (.int .i64 ea) := Ba6.out.cell 3
  have yb0 : (w5.alloc (.cells #[.int .i64 cy, .bool ny, .string ty, .int .i64 ey] 23)).cell? ⟨w.heap.size + 1, 0, none⟩ = some (.int .i64 cb) := Bb6.out.cell 0
  have yb1 : (w5.alloc (.cells #[.int .i64 cy, .bool ny, .string ty, .int .i64 ey] 23)).cell? ⟨w.heap.size + 1, 1, none⟩ = some (.bool nb) := Bb6.out.cell 1
  have yb2 : (w5.alloc (.cells #[.int .i64 cy, .bool ny, .string ty, .int .i64 ey] 23)).cell? ⟨w.heap.size + 1, 2, none⟩ = some (.string tb) := Bb6.out.cell 2
  have yb3 : (w5.alloc (.cells #[.int .i64 cy, .bool ny, .string ty, .int .i64 ey] 23)).cell? ⟨w.heap.size + 1, 3, none⟩ = some (.int .i64 eb) := Bb6.out.cell 3
  have yv00 : (w5.alloc (.cells #[.int .i64 cy, .bool ny, .string ty, .int .i64 ey] 23)).cell? ⟨w1.heap.size, 0, none⟩ = some (.int .i64 cx) := Bv06.out.cell 0
  have yv01 : (w5.alloc (.cells #[.int .i64 cy, .bool ny, .string ty, .int .i64 ey] 23)).cell? ⟨w1.heap.size, 1, none⟩ = some (.bool nx) := Bv06.out.cell 1
  have yv02 : (w5.alloc (.cells #[.int .i64 cy, .bool ny, .string ty, .int .i64 ey] 23)).cell? ⟨w1.heap.size, 2, none⟩ = some (.string tx) := Bv06.out.cell 2
  have yv03 : (w5.alloc (.cells #[.int .i64 cy, .bool ny, .string ty, .int .i64 ey] 23)).cell? ⟨w1.heap.size, 3, none⟩ = some (.int .i64 ex) := Bv06.out.cell 3
  have yv10 : (w5.alloc (.cells #[.int .i64 cy, .bool ny, .string ty, .int .i64 ey] 23)).cell? ⟨w3.heap.size, 0, none⟩ = some (.int .i64 cx) := Bv16.out.cell 0
  have yv11 : (w5.alloc (.cells #[.int .i64 cy, .bool ny, .string ty, .int .i64 ey] 23)).cell? ⟨w3.heap.size, 1, none⟩ = some (.bool nx) := Bv16.out.cell 1
  have yv12 : (w5.alloc (.cells #[.int .i64 cy, .bool ny, .string ty, .int .i64 ey] 23)).cell? ⟨w3.heap.size, 2, none⟩ = some (.string tx) := Bv16.out.cell 2
  have yv13 : (w5.alloc (.cells #[.int .i64 cy, .bool ny, .string ty, .int .i64 ey] 23)).cell? ⟨w3.heap.size, 3, none⟩ = some (.int .i64 ex) := Bv16.out.cell 3
  have yv20 : (w5.alloc (.cells #[.int .i64 cy, .bool ny, .string ty, .int .i64 ey] 23)).cell? ⟨w5.heap.size, 0, none⟩ = some (.int .i64 cy) := Bv26.out.cell 0
  have yv21 : (w5.alloc (.cells #[.int .i64 cy, .bool ny, .string ty, .int .i64 ey] 23)).cell? ⟨w5.heap.size, 1, none⟩ = some (.bool ny) := Bv26.out.cell 1
  have yv22 : (w5.alloc (.cells #[.int .i64 cy, .bool ny, .string ty, .int .i64 ey] 23)).cell? ⟨w5.heap.size, 2, none⟩ = some (.string ty) := Bv26.out.cell 2
  have yv23 : (w5.alloc (.cells #[.int .i64 cy, .bool ny, .string ty, .int .i64 ey] 23)).cell? ⟨w5.heap.size, 3, none⟩ = some (.int .i64 ey) := Bv26.out.cell 3
  go_wp2_with fail
  refine (H3.out _ (HT.out.below HB6.out)).mono ?_
  rintro e w7 ⟨rfl, hb⟩
  have Ba7 := hide (Ba6.out.below hb Ba6.out.lt)
  have Bb7 := hide (Bb6.out.below hb Bb6.out.lt)
  have Bv07 := hide (Bv06.out.below hb Bv06.out.lt)
  have Bv17 := hide (Bv16.out.below hb Bv16.out.lt)
  have Bv27 := hide (Bv26.out.below hb Bv26.out.lt)
  have HB7 := hide (HB6.out.trans (hb.mono HB6.out.size))
  clear hb Ba6 Bb6 Bv06 Bv16 Bv26 HB6 ya0 ya1 ya2 ya3 yb0 yb1 yb2 yb3 yv00 yv01 yv02 yv03 yv10 yv11 yv12 yv13 yv20 yv21 yv22 yv23
  have ya0 : w7.cell? ⟨w.heap.size, 0, none⟩ = some (.int .i64 ca) := Ba7.out.cell 0
  have ya1 : w7.cell? ⟨w.heap.size, 1, none⟩ = some (.bool na) := Ba7.out.cell 1
  have ya2 : w7.cell? ⟨w.heap.size, 2, none⟩ = some (.string ta) := Ba7.out.cell 2
  have ya3 : w7.cell? ⟨w.heap.size, 3, none⟩ = some (.int .i64 ea) := Ba7.out.cell 3
  have yb0 : w7.cell? ⟨w.heap.size + 1, 0, none⟩ = some (.int .i64 cb) := Bb7.out.cell 0
  have yb1 : w7.cell? ⟨w.heap.size + 1, 1, none⟩ = some (.bool nb) := Bb7.out.cell 1
  have yb2 : w7.cell? ⟨w.heap.size + 1, 2, none⟩ = some (.string tb) := Bb7.out.cell 2
  have yb3 : w7.cell? ⟨w.heap.size + 1, 3, none⟩ = some (.int .i64 eb) := Bb7.out.cell 3
  have yv00 : w7.cell? ⟨w1.heap.size, 0, none⟩ = some (.int .i64 cx) := Bv07.out.cell 0
  have yv01 : w7.cell? ⟨w1.heap.size, 1, none⟩ = some (.bool nx) := Bv07.out.cell 1
  have yv02 : w7.cell? ⟨w1.heap.size, 2, none⟩ = some (.string tx) := Bv07.out.cell 2
  have yv03 : w7.cell? ⟨w1.heap.size, 3, none⟩ = some (.int .i64 ex) := Bv07.out.cell 3
  have yv10 : w7.cell? ⟨w3.heap.size, 0, none⟩ = some (.int .i64 cx) := Bv17.out.cell 0
  have yv11 : w7.cell? ⟨w3.heap.size, 1, none⟩ = some (.bool nx) := Bv17.out.cell 1
  have yv12 : w7.cell? ⟨w3.heap.size, 2, none⟩ = some (.string tx) := Bv17.out.cell 2
  have yv13 : w7.cell? ⟨w3.heap.size, 3, none⟩ = some (.int .i64 ex) := Bv17.out.cell 3
  have yv20 : w7.cell? ⟨w5.heap.size, 0, none⟩ = some (.int .i64 cy) := Bv27.out.cell 0
  have yv21 : w7.cell? ⟨w5.heap.size, 1, none⟩ = some (.bool ny) := Bv27.out.cell 1
  have yv22 : w7.cell? ⟨w5.heap.size, 2, none⟩ = some (.string ty) := Bv27.out.cell 2
  have yv23 : w7.cell? ⟨w5.heap.size, 3, none⟩ = some (.int .i64 ey) := Bv27.out.cell 3
  have Ba8 := hide ((Ba7.out.alloc (.cells #[.int .i64 cy, .bool ny, .string ty, .int .i64 ey] 23)))
  have Bb8 := hide ((Bb7.out.alloc (.cells #[.int .i64 cy, .bool ny, .string ty, .int .i64 ey] 23)))
  have Bv08 := hide ((Bv07.out.alloc (.cells #[.int .i64 cy, .bool ny, .string ty, .int .i64 ey] 23)))
  have Bv18 := hide ((Bv17.out.alloc (.cells #[.int .i64 cy, .bool ny, .string ty, .int .i64 ey] 23)))
  have Bv28 := hide ((Bv27.out.alloc (.cells #[.int .i64 cy, .bool ny, .string ty, .int .i64 ey] 23)))
  have Bv38 := hide ((Blk.newAt w7 (w7.heap.size) (rfl) #[.int .i64 cy, .bool ny, .string ty, .int .i64 ey] 23))
  have HB8 : Hid (Below w.heap.size w (w7.alloc (.cells #[.int .i64 cy, .bool ny, .string ty, .int .i64 ey] 23))) := (HB7.out.alloc HB7.out.size _)
  clear Ba7 Bb7 Bv07 Bv17 Bv27 HB7 ya0 ya1 ya2 ya3 yb0 yb1 yb2 yb3 yv00 yv01 yv02 yv03 yv10 yv11 yv12 yv13 yv20 yv21 yv22 yv23
  have ya0 : (w7.alloc (.cells #[.int .i64 cy, .bool ny, .string ty, .int .i64 ey] 23)).cell? ⟨w.heap.size, 0, none⟩ = some (.int .i64 ca) := Ba8.out.cell 0
  have ya1 : (w7.alloc (.cells #[.int .i64 cy, .bool ny, .string ty, .int .i64 ey] 23)).cell? ⟨w.heap.size, 1, none⟩ = some (.bool na) := Ba8.out.cell 1
  have ya2 : (w7.alloc (.cells #[.int .i64 cy, .bool ny, .string ty, .int .i64 ey] 23)).cell? ⟨w.heap.size, 2, none⟩ = some (.string ta) := Ba8.out.cell 2
  have ya3 : (w7.alloc (.cells #[.int .i64 cy, .bool ny, .string ty, .int .i64 ey] 23)).cell? ⟨w.heap.size, 3, none⟩ = some (.int .i64 ea) := Ba8.out.cell 3
  have yb0 : (w7.alloc (.cells #[.int .i64 cy, .bool ny, .string ty, .int .i64 ey] 23)).cell? ⟨w.heap.size + 1, 0, none⟩ = some (.int .i64 cb) := Bb8.out.cell 0
  have yb1 : (w7.alloc (.cells #[.int .i64 cy, .bool ny, .string ty, .int .i64 ey] 23)).cell? ⟨w.heap.size + 1, 1, none⟩ = some (.bool nb) := Bb8.out.cell 1
  have yb2 : (w7.alloc (.cells #[.int .i64 cy, .bool ny, .string ty, .int .i64 ey] 23)).cell? ⟨w.heap.size + 1, 2, none⟩ = some (.string tb) := Bb8.out.cell 2
  have yb3 : (w7.alloc (.cells #[.int .i64 cy, .bool ny, .string ty, .int .i64 ey] 23)).cell? ⟨w.heap.size + 1, 3, none⟩ = some (.int .i64 eb) := Bb8.out.cell 3
  have yv00 : (w7.alloc (.cells #[.int .i64 cy, .bool ny, .string ty, .int .i64 ey] 23)).cell? ⟨w1.heap.size, 0, none⟩ = some (.int .i64 cx) := Bv08.out.cell 0
  have yv01 : (w7.alloc (.cells #[.int .i64 cy, .bool ny, .string ty, .int .i64 ey] 23)).cell? ⟨w1.heap.size, 1, none⟩ = some (.bool nx) := Bv08.out.cell 1
  have yv02 : (w7.alloc (.cells #[.int .i64 cy, .bool ny, .string ty, .int .i64 ey] 23)).cell? ⟨w1.heap.size, 2, none⟩ = some (.string tx) := Bv08.out.cell 2
  have yv03 : (w7.alloc (.cells #[.int .i64 cy, .bool ny, .string ty, .int .i64 ey] 23)).cell? ⟨w1.heap.size, 3, none⟩ = some (.int .i64 ex) := Bv08.out.cell 3
  have yv10 : (w7.alloc (.cells #[.int .i64 cy, .bool ny, .string ty, .int .i64 ey] 23)).cell? ⟨w3.heap.size, 0, none⟩ = some (.int .i64 cx) := Bv18.out.cell 0
  have yv11 : (w7.alloc (.cells #[.int .i64 cy, .bool ny, .string ty, .int .i64 ey] 23)).cell? ⟨w3.heap.size, 1, none⟩ = some (.bool nx) := Bv18.out.cell 1
  have yv12 : (w7.alloc (.cells #[.int .i64 cy, .bool ny, .string ty, .int .i64 ey] 23)).cell? ⟨w3.heap.size, 2, none⟩ = some (.string tx) := Bv18.out.cell 2
  have yv13 : (w7.alloc (.cells #[.int .i64 cy, .bool ny, .string ty, .int .i64 ey] 23)).cell? ⟨w3.heap.size, 3, none⟩ = some (.int .i64 ex) := Bv18.out.cell 3
  have yv20 : (w7.alloc (.cells #[.int .i64 cy, .bool ny, .string ty, .int .i64 ey] 23)).cell? ⟨w5.heap.size, 0, none⟩ = some (.int .i64 cy) := Bv28.out.cell 0
  have yv21 : (w7.alloc (.cells #[.int .i64 cy, .bool ny, .string ty, .int .i64 ey] 23)).cell? ⟨w5.heap.size, 1, none⟩ = some (.bool ny) := Bv28.out.cell 1
  have yv22 : (w7.alloc (.cells #[.int .i64 cy, .bool ny, .string ty, .int .i64 ey] 23)).cell? ⟨w5.heap.size, 2, none⟩ = some (.string ty) := Bv28.out.cell 2
  have yv23 : (w7.alloc (.cells #[.int .i64 cy, .bool ny, .string ty, .int .i64 ey] 23)).cell? ⟨w5.heap.size, 3, none⟩ = some (.int .i64 ey) := Bv28.out.cell 3
  have yv30 : (w7.alloc (.cells #[.int .i64 cy, .bool ny, .string ty, .int .i64 ey] 23)).cell? ⟨w7.heap.size, 0, none⟩ = some (.int .i64 cy) := Bv38.out.cell 0
  have yv31 : (w7.alloc (.cells #[.int .i64 cy, .bool ny, .string ty, .int .i64 ey] 23)).cell? ⟨w7.heap.size, 1, none⟩ = some (.bool ny) := Bv38.out.cell 1
  have yv32 : (w7.alloc (.cells #[.int .i64 cy, .bool ny, .string ty, .int .i64 ey] 23)).cell? ⟨w7.heap.size, 2, none⟩ = some (.string ty) := Bv38.out.cell 2
  have yv33 : (w7.alloc (.cells #[.int .i64 cy, .bool ny, .string ty, .int .i64 ey] 23)).cell? ⟨w7.heap.size, 3, none⟩ = some (.int .i64 ey) := Bv38.out.cell 3
  have HTW := hide (HT.out.below HB8.out)
  clear HT H0 H1 H2 H3
  go_wp2_with fail
  refine (dawake_any _ HTW.out).mono ?_
  rintro e w9 ⟨rfl, hb⟩
  have Ba9 := hide (Ba8.out.below hb Ba8.out.lt)
  have Bb9 := hide (Bb8.out.below hb Bb8.out.lt)
  have Bv09 := hide (Bv08.out.below hb Bv08.out.lt)
  have Bv19 := hide (Bv18.out.below hb Bv18.out.lt)
  have Bv29 := hide (Bv28.out.below hb Bv28.out.lt)
  have Bv39 := hide (Bv38.out.below hb Bv38.out.lt)
  have HB9 := hide (HB8.out.trans (hb.mono HB8.out.size))
  clear hb Ba8 Bb8 Bv08 Bv18 Bv28 Bv38 HB8 ya0 ya1 ya2 ya3 yb0 yb1 yb2 yb3 yv00 yv01 yv02 yv03 yv10 yv11 yv12 yv13 yv20 yv21 yv22 yv23 yv30 yv31 yv32 yv33
  have ya0 : w9.cell? ⟨w.heap.size, 0, none⟩ = some (.int .i64 ca) := Ba9.out.cell 0
  have ya1 : w9.cell? ⟨w.heap.size, 1, none⟩ = some (.bool na) := Ba9.out.cell 1
  have ya2 : w9.cell? ⟨w.heap.size, 2, none⟩ = some (.string ta) := Ba9.out.cell 2
  have ya3 : w9.cell? ⟨w.heap.size, 3, none⟩ = some (.int .i64 ea) := Ba9.out.cell 3
  have yb0 : w9.cell? ⟨w.heap.size + 1, 0, none⟩ = some (.int .i64 cb) := Bb9.out.cell 0
  have yb1 : w9.cell? ⟨w.heap.size + 1, 1, none⟩ = some (.bool nb) := Bb9.out.cell 1
  have yb2 : w9.cell? ⟨w.heap.size + 1, 2, none⟩ = some (.string tb) := Bb9.out.cell 2
  have yb3 : w9.cell? ⟨w.heap.size + 1, 3, none⟩ = some (.int .i64 eb) := Bb9.out.cell 3
  have yv00 : w9.cell? ⟨w1.heap.size, 0, none⟩ = some (.int .i64 cx) := Bv09.out.cell 0
  have yv01 : w9.cell? ⟨w1.heap.size, 1, none⟩ = some (.bool nx) := Bv09.out.cell 1
  have yv02 : w9.cell? ⟨w1.heap.size, 2, none⟩ = some (.string tx) := Bv09.out.cell 2
  have yv03 : w9.cell? ⟨w1.heap.size, 3, none⟩ = some (.int .i64 ex) := Bv09.out.cell 3
  have yv10 : w9.cell? ⟨w3.heap.size, 0, none⟩ = some (.int .i64 cx) := Bv19.out.cell 0
  have yv11 : w9.cell? ⟨w3.heap.size, 1, none⟩ = some (.bool nx) := Bv19.out.cell 1
  have yv12 : w9.cell? ⟨w3.heap.size, 2, none⟩ = some (.string tx) := Bv19.out.cell 2
  have yv13 : w9.cell? ⟨w3.heap.size, 3, none⟩ = some (.int .i64 ex) := Bv19.out.cell 3
  have yv20 : w9.cell? ⟨w5.heap.size, 0, none⟩ = some (.int .i64 cy) := Bv29.out.cell 0
  have yv21 : w9.cell? ⟨w5.heap.size, 1, none⟩ = some (.bool ny) := Bv29.out.cell 1
  have yv22 : w9.cell? ⟨w5.heap.size, 2, none⟩ = some (.string ty) := Bv29.out.cell 2
  have yv23 : w9.cell? ⟨w5.heap.size, 3, none⟩ = some (.int .i64 ey) := Bv29.out.cell 3
  have yv30 : w9.cell? ⟨w7.heap.size, 0, none⟩ = some (.int .i64 cy) := Bv39.out.cell 0
  have yv31 : w9.cell? ⟨w7.heap.size, 1, none⟩ = some (.bool ny) := Bv39.out.cell 1
  have yv32 : w9.cell? ⟨w7.heap.size, 2, none⟩ = some (.string ty) := Bv39.out.cell 2
  have yv33 : w9.cell? ⟨w7.heap.size, 3, none⟩ = some (.int .i64 ey) := Bv39.out.cell 3
  go_wp2
  go_ret
  exact ⟨rfl, HB9.out⟩

end Go.Proofs.YtafljhfamjabeaaGreatDoor
