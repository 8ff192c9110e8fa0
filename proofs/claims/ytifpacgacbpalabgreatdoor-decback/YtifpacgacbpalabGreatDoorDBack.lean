/-
  The walk of DecBack.
-/
import Derived.Test.YtifpacgacbpalabGreatDoorDAwake
import Derived.Test.YtifpacgacbpalabGreatDoorZQ11
namespace Go.Proofs.YtifpacgacbpalabGreatDoor
open Go.RowKit

set_option maxRecDepth 100000 in
set_option maxHeartbeats 4000000 in
theorem back_yy (ca : Int) (na : Bool) (ta : ByteArray) (ea : Int) (s : ByteArray) (T : ByteArray) (cy : Int) (ny : Bool) (ty : ByteArray) (ey : Int) (U : ByteArray) (w : World) (htab : Tab w) (h1 : ∀ W, Tab W → Calls Tryz.prog 7 #[dcV ca na ta ea] W fun e w' => e = .returned (.tuple #[.string T, .int .i64 0]) ∧ Below W.heap.size W w') (h2 : ∀ W, Calls Tryz.prog 9 #[dcV ca na ta ea] W fun e w' => e = .returned (.bool true) ∧ Below W.heap.size W w') (h3 : ∀ W, Calls Tryz.prog 10 #[.string T] W fun e w' => e = .returned (.tuple #[.agg #[.int .i64 ca, .bool na, .string ta, .int .i64 ea], .int .i64 0]) ∧ Below W.heap.size W w') (h4 : ∀ W, Calls Tryz.prog 10 #[.string s] W fun e w' => e = .returned (.tuple #[.agg #[.int .i64 cy, .bool ny, .string ty, .int .i64 ey], .int .i64 0]) ∧ Below W.heap.size W w') (h5 : ∀ W, Tab W → Calls Tryz.prog 7 #[.agg #[.int .i64 cy, .bool ny, .string ty, .int .i64 ey]] W fun e w' => e = .returned (.tuple #[.string U, .int .i64 0]) ∧ Below W.heap.size W w') (h6 : ∀ W, Calls Tryz.prog 10 #[.string U] W fun e w' => e = .returned (.tuple #[.agg #[.int .i64 cy, .bool ny, .string ty, .int .i64 ey], .int .i64 0]) ∧ Below W.heap.size W w') (h7 : ∀ W, Calls Tryz.prog 9 #[.agg #[.int .i64 cy, .bool ny, .string ty, .int .i64 ey]] W fun e w' => e = .returned (.bool true) ∧ Below W.heap.size W w') : Calls Tryz.prog 3 #[dcV ca na ta ea, .string s] w fun e w' => e = .returned (.bool true) ∧ Below w.heap.size w w' := by
  have H1 := hide h1
  have H2 := hide h2
  have H3 := hide h3
  have H4 := hide h4
  have H5 := hide h5
  have H6 := hide h6
  have H7 := hide h7
  have HT := hide htab
  clear htab h1 h2 h3 h4 h5 h6 h7
  have Ba0 := hide (Blk.newAt w (w.heap.size) (rfl) #[.int .i64 ca, .bool na, .string ta, .int .i64 ea] 23)
  have HB0 : Hid (Below w.heap.size w (w.alloc (.cells #[.int .i64 ca, .bool na, .string ta, .int .i64 ea] 23))) := ((Below.refl _ _).alloc (Nat.le_refl _) _)
  go_enter Tryz.func3, Tryz.ntmps3
  go_wp2_with fail
  refine (H1.out _ (HT.out.below HB0.out)).mono ?_
  rintro e w1 ⟨rfl, hb⟩
  have Ba1 := hide (Ba0.out.below hb Ba0.out.lt)
  have HB1 := hide (HB0.out.trans (hb.mono HB0.out.size))
  clear hb Ba0 HB0 
  have ya0 : w1.cell? ⟨w.heap.size, 0, none⟩ = some (.int .i64 ca) := Ba1.out.cell 0
  have ya1 : w1.cell? ⟨w.heap.size, 1, none⟩ = some (.bool na) := Ba1.out.cell 1
  have ya2 : w1.cell? ⟨w.heap.size, 2, none⟩ = some (.string ta) := Ba1.out.cell 2
  have ya3 : w1.cell? ⟨w.heap.size, 3, none⟩ = some (.int .i64 ea) := Ba1.out.cell 3
  go_wp2_with fail
  refine (dawake_any _ (HT.out.below HB1.out)).mono ?_
  rintro e w2 ⟨rfl, hb⟩
  have Ba2 := hide (Ba1.out.below hb Ba1.out.lt)
  have HB2 := hide (HB1.out.trans (hb.mono HB1.out.size))
  clear hb Ba1 HB1 ya0 ya1 ya2 ya3
  have ya0 : w2.cell? ⟨w.heap.size, 0, none⟩ = some (.int .i64 ca) := Ba2.out.cell 0
  have ya1 : w2.cell? ⟨w.heap.size, 1, none⟩ = some (.bool na) := Ba2.out.cell 1
  have ya2 : w2.cell? ⟨w.heap.size, 2, none⟩ = some (.string ta) := Ba2.out.cell 2
  have ya3 : w2.cell? ⟨w.heap.size, 3, none⟩ = some (.int .i64 ea) := Ba2.out.cell 3
  go_wp2_with fail
  refine (H2.out _).mono ?_
  rintro e w3 ⟨rfl, hb⟩
  have Ba3 := hide (Ba2.out.below hb Ba2.out.lt)
  have HB3 := hide (HB2.out.trans (hb.mono HB2.out.size))
  clear hb Ba2 HB2 ya0 ya1 ya2 ya3
  have ya0 : w3.cell? ⟨w.heap.size, 0, none⟩ = some (.int .i64 ca) := Ba3.out.cell 0
  have ya1 : w3.cell? ⟨w.heap.size, 1, none⟩ = some (.bool na) := Ba3.out.cell 1
  have ya2 : w3.cell? ⟨w.heap.size, 2, none⟩ = some (.string ta) := Ba3.out.cell 2
  have ya3 : w3.cell? ⟨w.heap.size, 3, none⟩ = some (.int .i64 ea) := Ba3.out.cell 3
  go_wp2_with fail
  refine (H3.out _).mono ?_
  rintro e w4 ⟨rfl, hb⟩
  have Ba4 := hide (Ba3.out.below hb Ba3.out.lt)
  have HB4 := hide (HB3.out.trans (hb.mono HB3.out.size))
  clear hb Ba3 HB3 ya0 ya1 ya2 ya3
  have ya0 : w4.cell? ⟨w.heap.size, 0, none⟩ = some (.int .i64 ca) := Ba4.out.cell 0
  have ya1 : w4.cell? ⟨w.heap.size, 1, none⟩ = some (.bool na) := Ba4.out.cell 1
  have ya2 : w4.cell? ⟨w.heap.size, 2, none⟩ = some (.string ta) := Ba4.out.cell 2
  have ya3 : w4.cell? ⟨w.heap.size, 3, none⟩ = some (.int .i64 ea) := Ba4.out.cell 3
  have Ba5 := hide ((Ba4.out.alloc (.cells #[.int .i64 ca, .bool na, .string ta, .int .i64 ea] 23)))
  have Bx5 := hide ((Blk.newAt w4 (w4.heap.size) (rfl) #[.int .i64 ca, .bool na, .string ta, .int .i64 ea] 23))
  have HB5 : Hid (Below w.heap.size w (w4.alloc (.cells #[.int .i64 ca, .bool na, .string ta, .int .i64 ea] 23))) := (HB4.out.alloc HB4.out.size _)
  clear Ba4 HB4 ya0 ya1 ya2 ya3
  have ya0 : (w4.alloc (.cells #[.int .i64 ca, .bool na, .string ta, .int .i64 ea] 23)).cell? ⟨w.heap.size, 0, none⟩ = some (.int .i64 ca) := Ba5.out.cell 0
  have ya1 : (w4.alloc (.cells #[.int .i64 ca, .bool na, .string ta, .int .i64 ea] 23)).cell? ⟨w.heap.size, 1, none⟩ = some (.bool na) := Ba5.out.cell 1
  have ya2 : (w4.alloc (.cells #[.int .i64 ca, .bool na, .string ta, .int .i64 ea] 23)).cell? ⟨w.heap.size, 2, none⟩ = some (.string ta) := Ba5.out.cell 2
  have ya3 : (w4.alloc (.cells #[.int .i64 ca, .bool na, .string ta, .int .i64 ea] 23)).cell? ⟨w.heap.size, 3, none⟩ = some (.int .i64 ea) := Ba5.out.cell 3
  have yx0 : (w4.alloc (.cells #[.int .i64 ca, .bool na, .string ta, .int .i64 ea] 23)).cell? ⟨w4.heap.size, 0, none⟩ = some (.int .i64 ca) := Bx5.out.cell 0
  have yx1 : (w4.alloc (.cells #[.int .i64 ca, .bool na, .string ta, .int .i64 ea] 23)).cell? ⟨w4.heap.size, 1, none⟩ = some (.bool na) := Bx5.out.cell 1
  have yx2 : (w4.alloc (.cells #[.int .i64 ca, .bool na, .string ta, .int .i64 ea] 23)).cell? ⟨w4.heap.size, 2, none⟩ = some (.string ta) := Bx5.out.cell 2
  have yx3 : (w4.alloc (.cells #[.int .i64 ca, .bool na, .string ta, .int .i64 ea] 23)).cell? ⟨w4.heap.size, 3, none⟩ = some (.int .i64 ea) := Bx5.out.cell 3
  go_wp2_with fail
  refine (H4.out _).mono ?_
  rintro e w6 ⟨rfl, hb⟩
  have Ba6 := hide (Ba5.out.below hb Ba5.out.lt)
  have Bx6 := hide (Bx5.out.below hb Bx5.out.lt)
  have HB6 := hide (HB5.out.trans (hb.mono HB5.out.size))
  clear hb Ba5 Bx5 HB5 ya0 ya1 ya2 ya3 yx0 yx1 yx2 yx3
  have ya0 : w6.cell? ⟨w.heap.size, 0, none⟩ = some (.int .i64 ca) := Ba6.out.cell 0
  have ya1 : w6.cell? ⟨w.heap.size, 1, none⟩ = some (.bool na) := Ba6.out.cell 1
  have ya2 : w6.cell? ⟨w.heap.size, 2, none⟩ = some (.string ta) := Ba6.out.cell 2
  have ya3 : w6.cell? ⟨w.heap.size, 3, none⟩ = some (.int .i64 ea) := Ba6.out.cell 3
  have yx0 : w6.cell? ⟨w4.heap.size, 0, none⟩ = some (.int .i64 ca) := Bx6.out.cell 0
  have yx1 : w6.cell? ⟨w4.heap.size, 1, none⟩ = some (.bool na) := Bx6.out.cell 1
  have yx2 : w6.cell? ⟨w4.heap.size, 2, none⟩ = some (.string ta) := Bx6.out.cell 2
  have yx3 : w6.cell? ⟨w4.heap.size, 3, none⟩ = some (.int .i64 ea) := Bx6.out.cell 3
  have Ba7 := hide ((Ba6.out.alloc (.cells #[.int .i64 cy, .bool ny, .string ty, .int .i64 ey] 23)))
  have Bx7 := hide ((Bx6.out.alloc (.cells #[.int .i64 cy, .bool ny, .string ty, .int .i64 ey] 23)))
  have By7 := hide ((Blk.newAt w6 (w6.heap.size) (rfl) #[.int .i64 cy, .bool ny, .string ty, .int .i64 ey] 23))
  have HB7 : Hid (Below w.heap.size w (w6.alloc (.cells #[.int .i64 cy, .bool ny, .string ty, .int .i64 ey] 23))) := (HB6.out.alloc HB6.out.size _)
  clear Ba6 Bx6 HB6 ya0 ya1 ya2 ya3 yx0 yx1 yx2 yx3
  have ya0 : (w6.alloc (.cells #[.int .i64 cy, .bool ny, .string ty, .int .i64 ey] 23)).cell? ⟨w.heap.size, 0, none⟩ = some (.int .i64 ca) := Ba7.out.cell 0
  have ya1 : (w6.alloc (.cells #[.int .i64 cy, .bool ny, .string ty, .int .i64 ey] 23)).cell? ⟨w.heap.size, 1, none⟩ = some (.bool na) := Ba7.out.cell 1
  have ya2 : (w6.alloc (.cells #[.int .i64 cy, .bool ny, .string ty, .int .i64 ey] 23)).cell? ⟨w.heap.size, 2, none⟩ = some (.string ta) := Ba7.out.cell 2
  have ya3 : (w6.alloc (.cells #[.int .i64 cy, .bool ny, .string ty, .int .i64 ey] 23)).cell? ⟨w.heap.size, 3, none⟩ = some (.int .i64 ea) := Ba7.out.cell 3
  have yx0 : (w6.alloc (.cells #[.int .i64 cy, .bool ny, .string ty, .int .i64 ey] 23)).cell? ⟨w4.heap.size, 0, none⟩ = some (.int .i64 ca) := Bx7.out.cell 0
  have yx1 : (w6.alloc (.cells #[.int .i64 cy, .bool ny, .string ty, .int .i64 ey] 23)).cell? ⟨w4.heap.size, 1, none⟩ = some (.bool na) := Bx7.out.cell 1
  have yx2 : (w6.alloc (.cells #[.int .i64 cy, .bool ny, .string ty, .int .i64 ey] 23)).cell? ⟨w4.heap.size, 2, none⟩ = some (.string ta) := Bx7.out.cell 2
  have yx3 : (w6.alloc (.cells #[.int .i64 cy, .bool ny, .string ty, .int .i64 ey] 23)).cell? ⟨w4.heap.size, 3, none⟩ = some (.int .i64 ea) := Bx7.out.cell 3
  have yy0 : (w6.alloc (.cells #[.int .i64 cy, .bool ny, .string ty, .int .i64 ey] 23)).cell? ⟨w6.heap.size, 0, none⟩ = some (.int .i64 cy) := By7.out.cell 0
  have yy1 : (w6.alloc (.cells #[.int .i64 cy, .bool ny, .string ty, .int .i64 ey] 23)).cell? ⟨w6.heap.size, 1, none⟩ = some (.bool ny) := By7.out.cell 1
  have yy2 : (w6.alloc (.cells #[.int .i64 cy, .bool ny, .string ty, .int .i64 ey] 23)).cell? ⟨w6.heap.size, 2, none⟩ = some (.string ty) := By7.out.cell 2
  have yy3 : (w6.alloc (.cells #[.int .i64 cy, .bool ny, .string ty, .int .i64 ey] 23)).cell? ⟨w6.heap.size, 3, none⟩ = some (.int .i64 ey) := By7.out.cell 3
  go_wp2_with fail
  refine (H5.out _ (HT.out.below HB7.out)).mono ?_
  rintro e w8 ⟨rfl, hb⟩
  have Ba8 := hide (Ba7.out.below hb Ba7.out.lt)
  have Bx8 := hide (Bx7.out.below hb Bx7.out.lt)
  have By8 := hide (By7.out.below hb By7.out.lt)
  have HB8 := hide (HB7.out.trans (hb.mono HB7.out.size))
  clear hb Ba7 Bx7 By7 HB7 ya0 ya1 ya2 ya3 yx0 yx1 yx2 yx3 yy0 yy1 yy2 yy3
  have ya0 : w8.cell? ⟨w.heap.size, 0, none⟩ = some (.int .i64 ca) := Ba8.out.cell 0
  have ya1 : w8.cell? ⟨w.heap.size, 1, none⟩ = some (.bool na) := Ba8.out.cell 1
  have ya2 : w8.cell? ⟨w.heap.size, 2, none⟩ = some (.string ta) := Ba8.out.cell 2
  have ya3 : w8.cell? ⟨w.heap.size, 3, none⟩ = some (.int .i64 ea) := Ba8.out.cell 3
  have yx0 : w8.cell? ⟨w4.heap.size, 0, none⟩ = some (.int .i64 ca) := Bx8.out.cell 0
  have yx1 : w8.cell? ⟨w4.heap.size, 1, none⟩ = some (.bool na) := Bx8.out.cell 1
  have yx2 : w8.cell? ⟨w4.heap.size, 2, none⟩ = some (.string ta) := Bx8.out.cell 2
  have yx3 : w8.cell? ⟨w4.heap.size, 3, none⟩ = some (.int .i64 ea) := Bx8.out.cell 3
  have yy0 : w8.cell? ⟨w6.heap.size, 0, none⟩ = some (.int .i64 cy) := By8.out.cell 0
  have yy1 : w8.cell? ⟨w6.heap.size, 1, none⟩ = some (.bool ny) := By8.out.cell 1
  have yy2 : w8.cell? ⟨w6.heap.size, 2, none⟩ = some (.string ty) := By8.out.cell 2
  have yy3 : w8.cell? ⟨w6.heap.size, 3, none⟩ = some (.int .i64 ey) := By8.out.cell 3
  go_wp2_with fail
  refine (H6.out _).mono ?_
  rintro e w9 ⟨rfl, hb⟩
  have Ba9 := hide (Ba8.out.below hb Ba8.out.lt)
  have Bx9 := hide (Bx8.out.below hb Bx8.out.lt)
  have By9 := hide (By8.out.below hb By8.out.lt)
  have HB9 := hide (HB8.out.trans (hb.mono HB8.out.size))
  clear hb Ba8 Bx8 By8 HB8 ya0 ya1 ya2 ya3 yx0 yx1 yx2 yx3 yy0 yy1 yy2 yy3
  have ya0 : w9.cell? ⟨w.heap.size, 0, none⟩ = some (.int .i64 ca) := Ba9.out.cell 0
  have ya1 : w9.cell? ⟨w.heap.size, 1, none⟩ = some (.bool na) := Ba9.out.cell 1
  have ya2 : w9.cell? ⟨w.heap.size, 2, none⟩ = some (.string ta) := Ba9.out.cell 2
  have ya3 : w9.cell? ⟨w.heap.size, 3, none⟩ = some (.int .i64 ea) := Ba9.out.cell 3
  have yx0 : w9.cell? ⟨w4.heap.size, 0, none⟩ = some (.int .i64 ca) := Bx9.out.cell 0
  have yx1 : w9.cell? ⟨w4.heap.size, 1, none⟩ = some (.bool na) := Bx9.out.cell 1
  have yx2 : w9.cell? ⟨w4.heap.size, 2, none⟩ = some (.string ta) := Bx9.out.cell 2
  have yx3 : w9.cell? ⟨w4.heap.size, 3, none⟩ = some (.int .i64 ea) := Bx9.out.cell 3
  have yy0 : w9.cell? ⟨w6.heap.size, 0, none⟩ = some (.int .i64 cy) := By9.out.cell 0
  have yy1 : w9.cell? ⟨w6.heap.size, 1, none⟩ = some (.bool ny) := By9.out.cell 1
  have yy2 : w9.cell? ⟨w6.heap.size, 2, none⟩ = some (.string ty) := By9.out.cell 2
  have yy3 : w9.cell? ⟨w6.heap.size, 3, none⟩ = some (.int .i64 ey) := By9.out.cell 3
  have Ba10 := hide ((Ba9.out.alloc (.cells #[.int .i64 cy, .bool ny, .string ty, .int .i64 ey] 23)))
  have Bx10 := hide ((Bx9.out.alloc (.cells #[.int .i64 cy, .bool ny, .string ty, .int .i64 ey] 23)))
  have By10 := hide ((By9.out.alloc (.cells #[.int .i64 cy, .bool ny, .string ty, .int .i64 ey] 23)))
  have Bz10 := hide ((Blk.newAt w9 (w9.heap.size) (rfl) #[.int .i64 cy, .bool ny, .string ty, .int .i64 ey] 23))
  have HB10 : Hid (Below w.heap.size w (w9.alloc (.cells #[.int .i64 cy, .bool ny, .string ty, .int .i64 ey] 23))) := (HB9.out.alloc HB9.out.size _)
  clear Ba9 Bx9 By9 HB9 ya0 ya1 ya2 ya3 yx0 yx1 yx2 yx3 yy0 yy1 yy2 yy3
  have ya0 : (w9.alloc (.cells #[.int .i64 cy, .bool ny, .string ty, .int .i64 ey] 23)).cell? ⟨w.heap.size, 0, none⟩ = some (.int .i64 ca) := Ba10.out.cell 0
  have ya1 : (w9.alloc (.cells #[.int .i64 cy, .bool ny, .string ty, .int .i64 ey] 23)).cell? ⟨w.heap.size, 1, none⟩ = some (.bool na) := Ba10.out.cell 1
  have ya2 : (w9.alloc (.cells #[.int .i64 cy, .bool ny, .string ty, .int .i64 ey] 23)).cell? ⟨w.heap.size, 2, none⟩ = some (.string ta) := Ba10.out.cell 2
  have ya3 : (w9.alloc (.cells #[.int .i64 cy, .bool ny, .string ty, .int .i64 ey] 23)).cell? ⟨w.heap.size, 3, none⟩ = some (.int .i64 ea) := Ba10.out.cell 3
  have yx0 : (w9.alloc (.cells #[.int .i64 cy, .bool ny, .string ty, .int .i64 ey] 23)).cell? ⟨w4.heap.size, 0, none⟩ = some (.int .i64 ca) := Bx10.out.cell 0
  have yx1 : (w9.alloc (.cells #[.int .i64 cy, .bool ny, .string ty, .int .i64 ey] 23)).cell? ⟨w4.heap.size, 1, none⟩ = some (.bool na) := Bx10.out.cell 1
  have yx2 : (w9.alloc (.cells #[.int .i64 cy, .bool ny, .string ty, .int .i64 ey] 23)).cell? ⟨w4.heap.size, 2, none⟩ = some (.string ta) := Bx10.out.cell 2
  have yx3 : (w9.alloc (.cells #[.int .i64 cy, .bool ny, .string ty, .int .i64 ey] 23)).cell? ⟨w4.heap.size, 3, none⟩ = some (.int .i64 ea) := Bx10.out.cell 3
  have yy0 : (w9.alloc (.cells #[.int .i64 cy, .bool ny, .string ty, .int .i64 ey] 23)).cell? ⟨w6.heap.size, 0, none⟩ = some (.int .i64 cy) := By10.out.cell 0
  have yy1 : (w9.alloc (.cells #[.int .i64 cy, .bool ny, .string ty, .int .i64 ey] 23)).cell? ⟨w6.heap.size, 1, none⟩ = some (.bool ny) := By10.out.cell 1
  have yy2 : (w9.alloc (.cells #[.int .i64 cy, .bool ny, .string ty, .int .i64 ey] 23)).cell? ⟨w6.heap.size, 2, none⟩ = some (.string ty) := By10.out.cell 2
  have yy3 : (w9.alloc (.cells #[.int .i64 cy, .bool ny, .string ty, .int .i64 ey] 23)).cell? ⟨w6.heap.size, 3, none⟩ = some (.int .i64 ey) := By10.out.cell 3
  have yz0 : (w9.alloc (.cells #[.int .i64 cy, .bool ny, .string ty, .int .i64 ey] 23)).cell? ⟨w9.heap.size, 0, none⟩ = some (.int .i64 cy) := Bz10.out.cell 0
  have yz1 : (w9.alloc (.cells #[.int .i64 cy, .bool ny, .string ty, .int .i64 ey] 23)).cell? ⟨w9.heap.size, 1, none⟩ = some (.bool ny) := Bz10.out.cell 1
  have yz2 : (w9.alloc (.cells #[.int .i64 cy, .bool ny, .string ty, .int .i64 ey] 23)).cell? ⟨w9.heap.size, 2, none⟩ = some (.string ty) := Bz10.out.cell 2
  have yz3 : (w9.alloc (.cells #[.int .i64 cy, .bool ny, .string ty, .int .i64 ey] 23)).cell? ⟨w9.heap.size, 3, none⟩ = some (.int .i64 ey) := Bz10.out.cell 3
  go_wp2_with fail
  refine (H7.out _).mono ?_
  rintro e w11 ⟨rfl, hb⟩
  have Ba11 := hide (Ba10.out.below hb Ba10.out.lt)
  have Bx11 := hide (Bx10.out.below hb Bx10.out.lt)
  have By11 := hide (By10.out.below hb By10.out.lt)
  have Bz11 := hide (Bz10.out.below hb Bz10.out.lt)
  have HB11 := hide (HB10.out.trans (hb.mono HB10.out.size))
  clear hb Ba10 Bx10 By10 Bz10 HB10 ya0 ya1 ya2 ya3 yx0 yx1 yx2 yx3 yy0 yy1 yy2 yy3 yz0 yz1 yz2 yz3
  have ya0 : w11.cell? ⟨w.heap.size, 0, none⟩ = some (.int .i64 ca) := Ba11.out.cell 0
  have ya1 : w11.cell? ⟨w.heap.size, 1, none⟩ = some (.bool na) := Ba11.out.cell 1
  have ya2 : w11.cell? ⟨w.heap.size, 2, none⟩ = some (.string ta) := Ba11.out.cell 2
  have ya3 : w11.cell? ⟨w.heap.size, 3, none⟩ = some (.int .i64 ea) := Ba11.out.cell 3
  have yx0 : w11.cell? ⟨w4.heap.size, 0, none⟩ = some (.int .i64 ca) := Bx11.out.cell 0
  have yx1 : w11.cell? ⟨w4.heap.size, 1, none⟩ = some (.bool na) := Bx11.out.cell 1
  have yx2 : w11.cell? ⟨w4.heap.size, 2, none⟩ = some (.string ta) := Bx11.out.cell 2
  have yx3 : w11.cell? ⟨w4.heap.size, 3, none⟩ = some (.int .i64 ea) := Bx11.out.cell 3
  have yy0 : w11.cell? ⟨w6.heap.size, 0, none⟩ = some (.int .i64 cy) := By11.out.cell 0
  have yy1 : w11.cell? ⟨w6.heap.size, 1, none⟩ = some (.bool ny) := By11.out.cell 1
  have yy2 : w11.cell? ⟨w6.heap.size, 2, none⟩ = some (.string ty) := By11.out.cell 2
  have yy3 : w11.cell? ⟨w6.heap.size, 3, none⟩ = some (.int .i64 ey) := By11.out.cell 3
  have yz0 : w11.cell? ⟨w9.heap.size, 0, none⟩ = some (.int .i64 cy) := Bz11.out.cell 0
  have yz1 : w11.cell? ⟨w9.heap.size, 1, none⟩ = some (.bool ny) := Bz11.out.cell 1
  have yz2 : w11.cell? ⟨w9.heap.size, 2, none⟩ = some (.string ty) := Bz11.out.cell 2
  have yz3 : w11.cell? ⟨w9.heap.size, 3, none⟩ = some (.int .i64 ey) := Bz11.out.cell 3
  go_wp2
  go_ret
  exact ⟨rfl, HB11.out⟩

set_option maxRecDepth 100000 in
set_option maxHeartbeats 4000000 in
theorem back_yn (ca : Int) (na : Bool) (ta : ByteArray) (ea : Int) (s : ByteArray) (T : ByteArray) (g : Int) (hg : g ≠ 0) (w : World) (htab : Tab w) (h1 : ∀ W, Tab W → Calls Tryz.prog 7 #[dcV ca na ta ea] W fun e w' => e = .returned (.tuple #[.string T, .int .i64 0]) ∧ Below W.heap.size W w') (h2 : ∀ W, Calls Tryz.prog 9 #[dcV ca na ta ea] W fun e w' => e = .returned (.bool true) ∧ Below W.heap.size W w') (h3 : ∀ W, Calls Tryz.prog 10 #[.string T] W fun e w' => e = .returned (.tuple #[.agg #[.int .i64 ca, .bool na, .string ta, .int .i64 ea], .int .i64 0]) ∧ Below W.heap.size W w') (h4 : ∀ W, Calls Tryz.prog 10 #[.string s] W fun e w' => e = .returned (.tuple #[.agg #[.int .i64 0, .bool false, .string ⟨#[]⟩, .int .i64 0], .int .i64 g]) ∧ Below W.heap.size W w') : Calls Tryz.prog 3 #[dcV ca na ta ea, .string s] w fun e w' => e = .returned (.bool true) ∧ Below w.heap.size w w' := by
  have H1 := hide h1
  have H2 := hide h2
  have H3 := hide h3
  have H4 := hide h4
  have hg' : (g != 0) = true := by simpa using hg
  clear hg
  have HT := hide htab
  clear htab h1 h2 h3 h4
  have Ba0 := hide (Blk.newAt w (w.heap.size) (rfl) #[.int .i64 ca, .bool na, .string ta, .int .i64 ea] 23)
  have HB0 : Hid (Below w.heap.size w (w.alloc (.cells #[.int .i64 ca, .bool na, .string ta, .int .i64 ea] 23))) := ((Below.refl _ _).alloc (Nat.le_refl _) _)
  go_enter Tryz.func3, Tryz.ntmps3
  go_wp2_with fail
  refine (H1.out _ (HT.out.below HB0.out)).mono ?_
  rintro e w1 ⟨rfl, hb⟩
  have Ba1 := hide (Ba0.out.below hb Ba0.out.lt)
  have HB1 := hide (HB0.out.trans (hb.mono HB0.out.size))
  clear hb Ba0 HB0 
  have ya0 : w1.cell? ⟨w.heap.size, 0, none⟩ = some (.int .i64 ca) := Ba1.out.cell 0
  have ya1 : w1.cell? ⟨w.heap.size, 1, none⟩ = some (.bool na) := Ba1.out.cell 1
  have ya2 : w1.cell? ⟨w.heap.size, 2, none⟩ = some (.string ta) := Ba1.out.cell 2
  have ya3 : w1.cell? ⟨w.heap.size, 3, none⟩ = some (.int .i64 ea) := Ba1.out.cell 3
  go_wp2_with fail
  refine (dawake_any _ (HT.out.below HB1.out)).mono ?_
  rintro e w2 ⟨rfl, hb⟩
  have Ba2 := hide (Ba1.out.below hb Ba1.out.lt)
  have HB2 := hide (HB1.out.trans (hb.mono HB1.out.size))
  clear hb Ba1 HB1 ya0 ya1 ya2 ya3
  have ya0 : w2.cell? ⟨w.heap.size, 0, none⟩ = some (.int .i64 ca) := Ba2.out.cell 0
  have ya1 : w2.cell? ⟨w.heap.size, 1, none⟩ = some (.bool na) := Ba2.out.cell 1
  have ya2 : w2.cell? ⟨w.heap.size, 2, none⟩ = some (.string ta) := Ba2.out.cell 2
  have ya3 : w2.cell? ⟨w.heap.size, 3, none⟩ = some (.int .i64 ea) := Ba2.out.cell 3
  go_wp2_with fail
  refine (H2.out _).mono ?_
  rintro e w3 ⟨rfl, hb⟩
  have Ba3 := hide (Ba2.out.below hb Ba2.out.lt)
  have HB3 := hide (HB2.out.trans (hb.mono HB2.out.size))
  clear hb Ba2 HB2 ya0 ya1 ya2 ya3
  have ya0 : w3.cell? ⟨w.heap.size, 0, none⟩ = some (.int .i64 ca) := Ba3.out.cell 0
  have ya1 : w3.cell? ⟨w.heap.size, 1, none⟩ = some (.bool na) := Ba3.out.cell 1
  have ya2 : w3.cell? ⟨w.heap.size, 2, none⟩ = some (.string ta) := Ba3.out.cell 2
  have ya3 : w3.cell? ⟨w.heap.size, 3, none⟩ = some (.int .i64 ea) := Ba3.out.cell 3
  go_wp2_with fail
  refine (H3.out _).mono ?_
  rintro e w4 ⟨rfl, hb⟩
  have Ba4 := hide (Ba3.out.below hb Ba3.out.lt)
  have HB4 := hide (HB3.out.trans (hb.mono HB3.out.size))
  clear hb Ba3 HB3 ya0 ya1 ya2 ya3
  have ya0 : w4.cell? ⟨w.heap.size, 0, none⟩ = some (.int .i64 ca) := Ba4.out.cell 0
  have ya1 : w4.cell? ⟨w.heap.size, 1, none⟩ = some (.bool na) := Ba4.out.cell 1
  have ya2 : w4.cell? ⟨w.heap.size, 2, none⟩ = some (.string ta) := Ba4.out.cell 2
  have ya3 : w4.cell? ⟨w.heap.size, 3, none⟩ = some (.int .i64 ea) := Ba4.out.cell 3
  have Ba5 := hide ((Ba4.out.alloc (.cells #[.int .i64 ca, .bool na, .string ta, .int .i64 ea] 23)))
  have Bx5 := hide ((Blk.newAt w4 (w4.heap.size) (rfl) #[.int .i64 ca, .bool na, .string ta, .int .i64 ea] 23))
  have HB5 : Hid (Below w.heap.size w (w4.alloc (.cells #[.int .i64 ca, .bool na, .string ta, .int .i64 ea] 23))) := (HB4.out.alloc HB4.out.size _)
  clear Ba4 HB4 ya0 ya1 ya2 ya3
  have ya0 : (w4.alloc (.cells #[.int .i64 ca, .bool na, .string ta, .int .i64 ea] 23)).cell? ⟨w.heap.size, 0, none⟩ = some (.int .i64 ca) := Ba5.out.cell 0
  have ya1 : (w4.alloc (.cells #[.int .i64 ca, .bool na, .string ta, .int .i64 ea] 23)).cell? ⟨w.heap.size, 1, none⟩ = some (.bool na) := Ba5.out.cell 1
  have ya2 : (w4.alloc (.cells #[.int .i64 ca, .bool na, .string ta, .int .i64 ea] 23)).cell? ⟨w.heap.size, 2, none⟩ = some (.string ta) := Ba5.out.cell 2
  have ya3 : (w4.alloc (.cells #[.int .i64 ca, .bool na, .string ta, .int .i64 ea] 23)).cell? ⟨w.heap.size, 3, none⟩ = some (.int .i64 ea) := Ba5.out.cell 3
  have yx0 : (w4.alloc (.cells #[.int .i64 ca, .bool na, .string ta, .int .i64 ea] 23)).cell? ⟨w4.heap.size, 0, none⟩ = some (.int .i64 ca) := Bx5.out.cell 0
  have yx1 : (w4.alloc (.cells #[.int .i64 ca, .bool na, .string ta, .int .i64 ea] 23)).cell? ⟨w4.heap.size, 1, none⟩ = some (.bool na) := Bx5.out.cell 1
  have yx2 : (w4.alloc (.cells #[.int .i64 ca, .bool na, .string ta, .int .i64 ea] 23)).cell? ⟨w4.heap.size, 2, none⟩ = some (.string ta) := Bx5.out.cell 2
  have yx3 : (w4.alloc (.cells #[.int .i64 ca, .bool na, .string ta, .int .i64 ea] 23)).cell? ⟨w4.heap.size, 3, none⟩ = some (.int .i64 ea) := Bx5.out.cell 3
  go_wp2_with fail
  refine (H4.out _).mono ?_
  rintro e w6 ⟨rfl, hb⟩
  have Ba6 := hide (Ba5.out.below hb Ba5.out.lt)
  have Bx6 := hide (Bx5.out.below hb Bx5.out.lt)
  have HB6 := hide (HB5.out.trans (hb.mono HB5.out.size))
  clear hb Ba5 Bx5 HB5 ya0 ya1 ya2 ya3 yx0 yx1 yx2 yx3
  have ya0 : w6.cell? ⟨w.heap.size, 0, none⟩ = some (.int .i64 ca) := Ba6.out.cell 0
  have ya1 : w6.cell? ⟨w.heap.size, 1, none⟩ = some (.bool na) := Ba6.out.cell 1
  have ya2 : w6.cell? ⟨w.heap.size, 2, none⟩ = some (.string ta) := Ba6.out.cell 2
  have ya3 : w6.cell? ⟨w.heap.size, 3, none⟩ = some (.int .i64 ea) := Ba6.out.cell 3
  have yx0 : w6.cell? ⟨w4.heap.size, 0, none⟩ = some (.int .i64 ca) := Bx6.out.cell 0
  have yx1 : w6.cell? ⟨w4.heap.size, 1, none⟩ = some (.bool na) := Bx6.out.cell 1
  have yx2 : w6.cell? ⟨w4.heap.size, 2, none⟩ = some (.string ta) := Bx6.out.cell 2
  have yx3 : w6.cell? ⟨w4.heap.size, 3, none⟩ = some (.int .i64 ea) := Bx6.out.cell 3
  have Ba7 := hide ((Ba6.out.alloc (.cells #[.int .i64 0, .bool false, .string ⟨#[]⟩, .int .i64 0] 23)))
  have Bx7 := hide ((Bx6.out.alloc (.cells #[.int .i64 0, .bool false, .string ⟨#[]⟩, .int .i64 0] 23)))
  have By7 := hide ((Blk.newAt w6 (w6.heap.size) (rfl) #[.int .i64 0, .bool false, .string ⟨#[]⟩, .int .i64 0] 23))
  have HB7 : Hid (Below w.heap.size w (w6.alloc (.cells #[.int .i64 0, .bool false, .string ⟨#[]⟩, .int .i64 0] 23))) := (HB6.out.alloc HB6.out.size _)
  clear Ba6 Bx6 HB6 ya0 ya1 ya2 ya3 yx0 yx1 yx2 yx3
  have ya0 : (w6.alloc (.cells #[.int .i64 0, .bool false, .string ⟨#[]⟩, .int .i64 0] 23)).cell? ⟨w.heap.size, 0, none⟩ = some (.int .i64 ca) := Ba7.out.cell 0
  have ya1 : (w6.alloc (.cells #[.int .i64 0, .bool false, .string ⟨#[]⟩, .int .i64 0] 23)).cell? ⟨w.heap.size, 1, none⟩ = some (.bool na) := Ba7.out.cell 1
  have ya2 : (w6.alloc (.cells #[.int .i64 0, .bool false, .string ⟨#[]⟩, .int .i64 0] 23)).cell? ⟨w.heap.size, 2, none⟩ = some (.string ta) := Ba7.out.cell 2
  have ya3 : (w6.alloc (.cells #[.int .i64 0, .bool false, .string ⟨#[]⟩, .int .i64 0] 23)).cell? ⟨w.heap.size, 3, none⟩ = some (.int .i64 ea) := Ba7.out.cell 3
  have yx0 : (w6.alloc (.cells #[.int .i64 0, .bool false, .string ⟨#[]⟩, .int .i64 0] 23)).cell? ⟨w4.heap.size, 0, none⟩ = some (.int .i64 ca) := Bx7.out.cell 0
  have yx1 : (w6.alloc (.cells #[.int .i64 0, .bool false, .string ⟨#[]⟩, .int .i64 0] 23)).cell? ⟨w4.heap.size, 1, none⟩ = some (.bool na) := Bx7.out.cell 1
  have yx2 : (w6.alloc (.cells #[.int .i64 0, .bool false, .string ⟨#[]⟩, .int .i64 0] 23)).cell? ⟨w4.heap.size, 2, none⟩ = some (.string ta) := Bx7.out.cell 2
  have yx3 : (w6.alloc (.cells #[.int .i64 0, .bool false, .string ⟨#[]⟩, .int .i64 0] 23)).cell? ⟨w4.heap.size, 3, none⟩ = some (.int .i64 ea) := Bx7.out.cell 3
  have yy0 : (w6.alloc (.cells #[.int .i64 0, .bool false, .string ⟨#[]⟩, .int .i64 0] 23)).cell? ⟨w6.heap.size, 0, none⟩ = some (.int .i64 0) := By7.out.cell 0
  have yy1 : (w6.alloc (.cells #[.int .i64 0, .bool false, .string ⟨#[]⟩, .int .i64 0] 23)).cell? ⟨w6.heap.size, 1, none⟩ = some (.bool false) := By7.out.cell 1
  have yy2 : (w6.alloc (.cells #[.int .i64 0, .bool false, .string ⟨#[]⟩, .int .i64 0] 23)).cell? ⟨w6.heap.size, 2, none⟩ = some (.string ⟨#[]⟩) := By7.out.cell 2
  have yy3 : (w6.alloc (.cells #[.int .i64 0, .bool false, .string ⟨#[]⟩, .int .i64 0] 23)).cell? ⟨w6.heap.size, 3, none⟩ = some (.int .i64 0) := By7.out.cell 3
  go_wp2
  go_ret
  exact ⟨rfl, HB7.out⟩

set_option maxRecDepth 100000 in
set_option maxHeartbeats 4000000 in
theorem back_ny (ca : Int) (na : Bool) (ta : ByteArray) (ea : Int) (s : ByteArray) (cy : Int) (ny : Bool) (ty : ByteArray) (ey : Int) (U : ByteArray) (w : World) (htab : Tab w) (h1 : ∀ W, Tab W → Calls Tryz.prog 7 #[dcV ca na ta ea] W fun e w' => e = .returned (.tuple #[.string ⟨#[]⟩, .int .i64 52]) ∧ Below W.heap.size W w') (h2 : ∀ W, Calls Tryz.prog 9 #[dcV ca na ta ea] W fun e w' => e = .returned (.bool false) ∧ Below W.heap.size W w') (h4 : ∀ W, Calls Tryz.prog 10 #[.string s] W fun e w' => e = .returned (.tuple #[.agg #[.int .i64 cy, .bool ny, .string ty, .int .i64 ey], .int .i64 0]) ∧ Below W.heap.size W w') (h5 : ∀ W, Tab W → Calls Tryz.prog 7 #[.agg #[.int .i64 cy, .bool ny, .string ty, .int .i64 ey]] W fun e w' => e = .returned (.tuple #[.string U, .int .i64 0]) ∧ Below W.heap.size W w') (h6 : ∀ W, Calls Tryz.prog 10 #[.string U] W fun e w' => e = .returned (.tuple #[.agg #[.int .i64 cy, .bool ny, .string ty, .int .i64 ey], .int .i64 0]) ∧ Below W.heap.size W w') (h7 : ∀ W, Calls Tryz.prog 9 #[.agg #[.int .i64 cy, .bool ny, .string ty, .int .i64 ey]] W fun e w' => e = .returned (.bool true) ∧ Below W.heap.size W w') : Calls Tryz.prog 3 #[dcV ca na ta ea, .string s] w fun e w' => e = .returned (.bool true) ∧ Below w.heap.size w w' := by
  have H1 := hide h1
  have H2 := hide h2
  have H4 := hide h4
  have H5 := hide h5
  have H6 := hide h6
  have H7 := hide h7
  have HT := hide htab
  clear htab h1 h2 h4 h5 h6 h7
  have Ba0 := hide (Blk.newAt w (w.heap.size) (rfl) #[.int .i64 ca, .bool na, .string ta, .int .i64 ea] 23)
  have HB0 : Hid (Below w.heap.size w (w.alloc (.cells #[.int .i64 ca, .bool na, .string ta, .int .i64 ea] 23))) := ((Below.refl _ _).alloc (Nat.le_refl _) _)
  go_enter Tryz.func3, Tryz.ntmps3
  go_wp2_with fail
  refine (H1.out _ (HT.out.below HB0.out)).mono ?_
  rintro e w1 ⟨rfl, hb⟩
  have Ba1 := hide (Ba0.out.below hb Ba0.out.lt)
  have HB1 := hide (HB0.out.trans (hb.mono HB0.out.size))
  clear hb Ba0 HB0 
  have ya0 : w1.cell? ⟨w.heap.size, 0, none⟩ = some (.int .i64 ca) := Ba1.out.cell 0
  have ya1 : w1.cell? ⟨w.heap.size, 1, none⟩ = some (.bool na) := Ba1.out.cell 1
  have ya2 : w1.cell? ⟨w.heap.size, 2, none⟩ = some (.string ta) := Ba1.out.cell 2
  have ya3 : w1.cell? ⟨w.heap.size, 3, none⟩ = some (.int .i64 ea) := Ba1.out.cell 3
  go_wp2_with fail
  refine (dawake_any _ (HT.out.below HB1.out)).mono ?_
  rintro e w2 ⟨rfl, hb⟩
  have Ba2 := hide (Ba1.out.below hb Ba1.out.lt)
  have HB2 := hide (HB1.out.trans (hb.mono HB1.out.size))
  clear hb Ba1 HB1 ya0 ya1 ya2 ya3
  have ya0 : w2.cell? ⟨w.heap.size, 0, none⟩ = some (.int .i64 ca) := Ba2.out.cell 0
  have ya1 : w2.cell? ⟨w.heap.size, 1, none⟩ = some (.bool na) := Ba2.out.cell 1
  have ya2 : w2.cell? ⟨w.heap.size, 2, none⟩ = some (.string ta) := Ba2.out.cell 2
  have ya3 : w2.cell? ⟨w.heap.size, 3, none⟩ = some (.int .i64 ea) := Ba2.out.cell 3
  go_wp2_with fail
  refine (H2.out _).mono ?_
  rintro e w3 ⟨rfl, hb⟩
  have Ba3 := hide (Ba2.out.below hb Ba2.out.lt)
  have HB3 := hide (HB2.out.trans (hb.mono HB2.out.size))
  clear hb Ba2 HB2 ya0 ya1 ya2 ya3
  have ya0 : w3.cell? ⟨w.heap.size, 0, none⟩ = some (.int .i64 ca) := Ba3.out.cell 0
  have ya1 : w3.cell? ⟨w.heap.size, 1, none⟩ = some (.bool na) := Ba3.out.cell 1
  have ya2 : w3.cell? ⟨w.heap.size, 2, none⟩ = some (.string ta) := Ba3.out.cell 2
  have ya3 : w3.cell? ⟨w.heap.size, 3, none⟩ = some (.int .i64 ea) := Ba3.out.cell 3
  go_wp2_with fail
  refine (H4.out _).mono ?_
  rintro e w4 ⟨rfl, hb⟩
  have Ba4 := hide (Ba3.out.below hb Ba3.out.lt)
  have HB4 := hide (HB3.out.trans (hb.mono HB3.out.size))
  clear hb Ba3 HB3 ya0 ya1 ya2 ya3
  have ya0 : w4.cell? ⟨w.heap.size, 0, none⟩ = some (.int .i64 ca) := Ba4.out.cell 0
  have ya1 : w4.cell? ⟨w.heap.size, 1, none⟩ = some (.bool na) := Ba4.out.cell 1
  have ya2 : w4.cell? ⟨w.heap.size, 2, none⟩ = some (.string ta) := Ba4.out.cell 2
  have ya3 : w4.cell? ⟨w.heap.size, 3, none⟩ = some (.int .i64 ea) := Ba4.out.cell 3
  have Ba5 := hide ((Ba4.out.alloc (.cells #[.int .i64 cy, .bool ny, .string ty, .int .i64 ey] 23)))
  have By5 := hide ((Blk.newAt w4 (w4.heap.size) (rfl) #[.int .i64 cy, .bool ny, .string ty, .int .i64 ey] 23))
  have HB5 : Hid (Below w.heap.size w (w4.alloc (.cells #[.int .i64 cy, .bool ny, .string ty, .int .i64 ey] 23))) := (HB4.out.alloc HB4.out.size _)
  clear Ba4 HB4 ya0 ya1 ya2 ya3
  have ya0 : (w4.alloc (.cells #[.int .i64 cy, .bool ny, .string ty, .int .i64 ey] 23)).cell? ⟨w.heap.size, 0, none⟩ = some (.int .i64 ca) := Ba5.out.cell 0
  have ya1 : (w4.alloc (.cells #[.int .i64 cy, .bool ny, .string ty, .int .i64 ey] 23)).cell? ⟨w.heap.size, 1, none⟩ = some (.bool na) := Ba5.out.cell 1
  have ya2 : (w4.alloc (.cells #[.int .i64 cy, .bool ny, .string ty, .int .i64 ey] 23)).cell? ⟨w.heap.size, 2, none⟩ = some (.string ta) := Ba5.out.cell 2
  have ya3 : (w4.alloc (.cells #[.int .i64 cy, .bool ny, .string ty, .int .i64 ey] 23)).cell? ⟨w.heap.size, 3, none⟩ = some (.int .i64 ea) := Ba5.out.cell 3
  have yy0 : (w4.alloc (.cells #[.int .i64 cy, .bool ny, .string ty, .int .i64 ey] 23)).cell? ⟨w4.heap.size, 0, none⟩ = some (.int .i64 cy) := By5.out.cell 0
  have yy1 : (w4.alloc (.cells #[.int .i64 cy, .bool ny, .string ty, .int .i64 ey] 23)).cell? ⟨w4.heap.size, 1, none⟩ = some (.bool ny) := By5.out.cell 1
  have yy2 : (w4.alloc (.cells #[.int .i64 cy, .bool ny, .string ty, .int .i64 ey] 23)).cell? ⟨w4.heap.size, 2, none⟩ = some (.string ty) := By5.out.cell 2
  have yy3 : (w4.alloc (.cells #[.int .i64 cy, .bool ny, .string ty, .int .i64 ey] 23)).cell? ⟨w4.heap.size, 3, none⟩ = some (.int .i64 ey) := By5.out.cell 3
  go_wp2_with fail
  refine (H5.out _ (HT.out.below HB5.out)).mono ?_
  rintro e w6 ⟨rfl, hb⟩
  have Ba6 := hide (Ba5.out.below hb Ba5.out.lt)
  have By6 := hide (By5.out.below hb By5.out.lt)
  have HB6 := hide (HB5.out.trans (hb.mono HB5.out.size))
  clear hb Ba5 By5 HB5 ya0 ya1 ya2 ya3 yy0 yy1 yy2 yy3
  have ya0 : w6.cell? ⟨w.heap.size, 0, none⟩ = some (.int .i64 ca) := Ba6.out.cell 0
  have ya1 : w6.cell? ⟨w.heap.size, 1, none⟩ = some (.bool na) := Ba6.out.cell 1
  have ya2 : w6.cell? ⟨w.heap.size, 2, none⟩ = some (.string ta) := Ba6.out.cell 2
  have ya3 : w6.cell? ⟨w.heap.size, 3, none⟩ = some (.int .i64 ea) := Ba6.out.cell 3
  have yy0 : w6.cell? ⟨w4.heap.size, 0, none⟩ = some (.int .i64 cy) := By6.out.cell 0
  have yy1 : w6.cell? ⟨w4.heap.size, 1, none⟩ = some (.bool ny) := By6.out.cell 1
  have yy2 : w6.cell? ⟨w4.heap.size, 2, none⟩ = some (.string ty) := By6.out.cell 2
  have yy3 : w6.cell? ⟨w4.heap.size, 3, none⟩ = some (.int .i64 ey) := By6.out.cell 3
  go_wp2_with fail
  refine (H6.out _).mono ?_
  rintro e w7 ⟨rfl, hb⟩
  have Ba7 := hide (Ba6.out.below hb Ba6.out.lt)
  have By7 := hide (By6.out.below hb By6.out.lt)
  have HB7 := hide (HB6.out.trans (hb.mono HB6.out.size))
  clear hb Ba6 By6 HB6 ya0 ya1 ya2 ya3 yy0 yy1 yy2 yy3
  have ya0 : w7.cell? ⟨w.heap.size, 0, none⟩ = some (.int .i64 ca) := Ba7.out.cell 0
  have ya1 : w7.cell? ⟨w.heap.size, 1, none⟩ = some (.bool na) := Ba7.out.cell 1
  have ya2 : w7.cell? ⟨w.heap.size, 2, none⟩ = some (.string ta) := Ba7.out.cell 2
  have ya3 : w7.cell? ⟨w.heap.size, 3, none⟩ = some (.int .i64 ea) := Ba7.out.cell 3
  have yy0 : w7.cell? ⟨w4.heap.size, 0, none⟩ = some (.int .i64 cy) := By7.out.cell 0
  have yy1 : w7.cell? ⟨w4.heap.size, 1, none⟩ = some (.bool ny) := By7.out.cell 1
  have yy2 : w7.cell? ⟨w4.heap.size, 2, none⟩ = some (.string ty) := By7.out.cell 2
  have yy3 : w7.cell? ⟨w4.heap.size, 3, none⟩ = some (.int .i64 ey) := By7.out.cell 3
  have Ba8 := hide ((Ba7.out.alloc (.cells #[.int .i64 cy, .bool ny, .string ty, .int .i64 ey] 23)))
  have By8 := hide ((By7.out.alloc (.cells #[.int .i64 cy, .bool ny, .string ty, .int .i64 ey] 23)))
  have Bz8 := hide ((Blk.newAt w7 (w7.heap.size) (rfl) #[.int .i64 cy, .bool ny, .string ty, .int .i64 ey] 23))
  have HB8 : Hid (Below w.heap.size w (w7.alloc (.cells #[.int .i64 cy, .bool ny, .string ty, .int .i64 ey] 23))) := (HB7.out.alloc HB7.out.size _)
  clear Ba7 By7 HB7 ya0 ya1 ya2 ya3 yy0 yy1 yy2 yy3
  have ya0 : (w7.alloc (.cells #[.int .i64 cy, .bool ny, .string ty, .int .i64 ey] 23)).cell? ⟨w.heap.size, 0, none⟩ = some (.int .i64 ca) := Ba8.out.cell 0
  have ya1 : (w7.alloc (.cells #[.int .i64 cy, .bool ny, .string ty, .int .i64 ey] 23)).cell? ⟨w.heap.size, 1, none⟩ = some (.bool na) := Ba8.out.cell 1
  have ya2 : (w7.alloc (.cells #[.int .i64 cy, .bool ny, .string ty, .int .i64 ey] 23)).cell? ⟨w.heap.size, 2, none⟩ = some (.string ta) := Ba8.out.cell 2
  have ya3 : (w7.alloc (.cells #[.int .i64 cy, .bool ny, .string ty, .int .i64 ey] 23)).cell? ⟨w.heap.size, 3, none⟩ = some (.int .i64 ea) := Ba8.out.cell 3
  have yy0 : (w7.alloc (.cells #[.int .i64 cy, .bool ny, .string ty, .int .i64 ey] 23)).cell? ⟨w4.heap.size, 0, none⟩ = some (.int .i64 cy) := By8.out.cell 0
  have yy1 : (w7.alloc (.cells #[.int .i64 cy, .bool ny, .string ty, .int .i64 ey] 23)).cell? ⟨w4.heap.size, 1, none⟩ = some (.bool ny) := By8.out.cell 1
  have yy2 : (w7.alloc (.cells #[.int .i64 cy, .bool ny, .string ty, .int .i64 ey] 23)).cell? ⟨w4.heap.size, 2, none⟩ = some (.string ty) := By8.out.cell 2
  have yy3 : (w7.alloc (.cells #[.int .i64 cy, .bool ny, .string ty, .int .i64 ey] 23)).cell? ⟨w4.heap.size, 3, none⟩ = some (.int .i64 ey) := By8.out.cell 3
  have yz0 : (w7.alloc (.cells #[.int .i64 cy, .bool ny, .string ty, .int .i64 ey] 23)).cell? ⟨w7.heap.size, 0, none⟩ = some (.int .i64 cy) := Bz8.out.cell 0
  have yz1 : (w7.alloc (.cells #[.int .i64 cy, .bool ny, .string ty, .int .i64 ey] 23)).cell? ⟨w7.heap.size, 1, none⟩ = some (.bool ny) := Bz8.out.cell 1
  have yz2 : (w7.alloc (.cells #[.int .i64 cy, .bool ny, .string ty, .int .i64 ey] 23)).cell? ⟨w7.heap.size, 2, none⟩ = some (.string ty) := Bz8.out.cell 2
  have yz3 : (w7.alloc (.cells #[.int .i64 cy, .bool ny, .string ty, .int .i64 ey] 23)).cell? ⟨w7.heap.size, 3, none⟩ = some (.int .i64 ey) := Bz8.out.cell 3
  go_wp2_with fail
  refine (H7.out _).mono ?_
  rintro e w9 ⟨rfl, hb⟩
  have Ba9 := hide (Ba8.out.below hb Ba8.out.lt)
  have By9 := hide (By8.out.below hb By8.out.lt)
  have Bz9 := hide (Bz8.out.below hb Bz8.out.lt)
  have HB9 := hide (HB8.out.trans (hb.mono HB8.out.size))
  clear hb Ba8 By8 Bz8 HB8 ya0 ya1 ya2 ya3 yy0 yy1 yy2 yy3 yz0 yz1 yz2 yz3
  have ya0 : w9.cell? ⟨w.heap.size, 0, none⟩ = some (.int .i64 ca) := Ba9.out.cell 0
  have ya1 : w9.cell? ⟨w.heap.size, 1, none⟩ = some (.bool na) := Ba9.out.cell 1
  have ya2 : w9.cell? ⟨w.heap.size, 2, none⟩ = some (.string ta) := Ba9.out.cell 2
  have ya3 : w9.cell? ⟨w.heap.size, 3, none⟩ = some (.int .i64 ea) := Ba9.out.cell 3
  have yy0 : w9.cell? ⟨w4.heap.size, 0, none⟩ = some (.int .i64 cy) := By9.out.cell 0
  have yy1 : w9.cell? ⟨w4.heap.size, 1, none⟩ = some (.bool ny) := By9.out.cell 1
  have yy2 : w9.cell? ⟨w4.heap.size, 2, none⟩ = some (.string ty) := By9.out.cell 2
  have yy3 : w9.cell? ⟨w4.heap.size, 3, none⟩ = some (.int .i64 ey) := By9.out.cell 3
  have yz0 : w9.cell? ⟨w7.heap.size, 0, none⟩ = some (.int .i64 cy) := Bz9.out.cell 0
  have yz1 : w9.cell? ⟨w7.heap.size, 1, none⟩ = some (.bool ny) := Bz9.out.cell 1
  have yz2 : w9.cell? ⟨w7.heap.size, 2, none⟩ = some (.string ty) := Bz9.out.cell 2
  have yz3 : w9.cell? ⟨w7.heap.size, 3, none⟩ = some (.int .i64 ey) := Bz9.out.cell 3
  go_wp2
  go_ret
  exact ⟨rfl, HB9.out⟩

set_option maxRecDepth 100000 in
set_option maxHeartbeats 4000000 in
theorem back_nn (ca : Int) (na : Bool) (ta : ByteArray) (ea : Int) (s : ByteArray) (g : Int) (hg : g ≠ 0) (w : World) (htab : Tab w) (h1 : ∀ W, Tab W → Calls Tryz.prog 7 #[dcV ca na ta ea] W fun e w' => e = .returned (.tuple #[.string ⟨#[]⟩, .int .i64 52]) ∧ Below W.heap.size W w') (h2 : ∀ W, Calls Tryz.prog 9 #[dcV ca na ta ea] W fun e w' => e = .returned (.bool false) ∧ Below W.heap.size W w') (h4 : ∀ W, Calls Tryz.prog 10 #[.string s] W fun e w' => e = .returned (.tuple #[.agg #[.int .i64 0, .bool false, .string ⟨#[]⟩, .int .i64 0], .int .i64 g]) ∧ Below W.heap.size W w') : Calls Tryz.prog 3 #[dcV ca na ta ea, .string s] w fun e w' => e = .returned (.bool true) ∧ Below w.heap.size w w' := by
  have H1 := hide h1
  have H2 := hide h2
  have H4 := hide h4
  have hg' : (g != 0) = true := by simpa using hg
  clear hg
  have HT := hide htab
  clear htab h1 h2 h4
  have Ba0 := hide (Blk.newAt w (w.heap.size) (rfl) #[.int .i64 ca, .bool na, .string ta, .int .i64 ea] 23)
  have HB0 : Hid (Below w.heap.size w (w.alloc (.cells #[.int .i64 ca, .bool na, .string ta, .int .i64 ea] 23))) := ((Below.refl _ _).alloc (Nat.le_refl _) _)
  go_enter Tryz.func3, Tryz.ntmps3
  go_wp2_with fail
  refine (H1.out _ (HT.out.below HB0.out)).mono ?_
  rintro e w1 ⟨rfl, hb⟩
  have Ba1 := hide (Ba0.out.below hb Ba0.out.lt)
  have HB1 := hide (HB0.out.trans (hb.mono HB0.out.size))
  clear hb Ba0 HB0 
  have ya0 : w1.cell? ⟨w.heap.size, 0, none⟩ = some (.int .i64 ca) := Ba1.out.cell 0
  have ya1 : w1.cell? ⟨w.heap.size, 1, none⟩ = some (.bool na) := Ba1.out.cell 1
  have ya2 : w1.cell? ⟨w.heap.size, 2, none⟩ = some (.string ta) := Ba1.out.cell 2
  have ya3 : w1.cell? ⟨w.heap.size, 3, none⟩ = some (.int .i64 ea) := Ba1.out.cell 3
  go_wp2_with fail
  refine (dawake_any _ (HT.out.below HB1.out)).mono ?_
  rintro e w2 ⟨rfl, hb⟩
  have Ba2 := hide (Ba1.out.below hb Ba1.out.lt)
  have HB2 := hide (HB1.out.trans (hb.mono HB1.out.size))
  clear hb Ba1 HB1 ya0 ya1 ya2 ya3
  have ya0 : w2.cell? ⟨w.heap.size, 0, none⟩ = some (.int .i64 ca) := Ba2.out.cell 0
  have ya1 : w2.cell? ⟨w.heap.size, 1, none⟩ = some (.bool na) := Ba2.out.cell 1
  have ya2 : w2.cell? ⟨w.heap.size, 2, none⟩ = some (.string ta) := Ba2.out.cell 2
  have ya3 : w2.cell? ⟨w.heap.size, 3, none⟩ = some (.int .i64 ea) := Ba2.out.cell 3
  go_wp2_with fail
  refine (H2.out _).mono ?_
  rintro e w3 ⟨rfl, hb⟩
  have Ba3 := hide (Ba2.out.below hb Ba2.out.lt)
  have HB3 := hide (HB2.out.trans (hb.mono HB2.out.size))
  clear hb Ba2 HB2 ya0 ya1 ya2 ya3
  have ya0 : w3.cell? ⟨w.heap.size, 0, none⟩ = some (.int .i64 ca) := Ba3.out.cell 0
  have ya1 : w3.cell? ⟨w.heap.size, 1, none⟩ = some (.bool na) := Ba3.out.cell 1
  have ya2 : w3.cell? ⟨w.heap.size, 2, none⟩ = some (.string ta) := Ba3.out.cell 2
  have ya3 : w3.cell? ⟨w.heap.size, 3, none⟩ = some (.int .i64 ea) := Ba3.out.cell 3
  go_wp2_with fail
  refine (H4.out _).mono ?_
  rintro e w4 ⟨rfl, hb⟩
  have Ba4 := hide (Ba3.out.below hb Ba3.out.lt)
  have HB4 := hide (HB3.out.trans (hb.mono HB3.out.size))
  clear hb Ba3 HB3 ya0 ya1 ya2 ya3
  have ya0 : w4.cell? ⟨w.heap.size, 0, none⟩ = some (.int .i64 ca) := Ba4.out.cell 0
  have ya1 : w4.cell? ⟨w.heap.size, 1, none⟩ = some (.bool na) := Ba4.out.cell 1
  have ya2 : w4.cell? ⟨w.heap.size, 2, none⟩ = some (.string ta) := Ba4.out.cell 2
  have ya3 : w4.cell? ⟨w.heap.size, 3, none⟩ = some (.int .i64 ea) := Ba4.out.cell 3
  have Ba5 := hide ((Ba4.out.alloc (.cells #[.int .i64 0, .bool false, .string ⟨#[]⟩, .int .i64 0] 23)))
  have By5 := hide ((Blk.newAt w4 (w4.heap.size) (rfl) #[.int .i64 0, .bool false, .string ⟨#[]⟩, .int .i64 0] 23))
  have HB5 : Hid (Below w.heap.size w (w4.alloc (.cells #[.int .i64 0, .bool false, .string ⟨#[]⟩, .int .i64 0] 23))) := (HB4.out.alloc HB4.out.size _)
  clear Ba4 HB4 ya0 ya1 ya2 ya3
  have ya0 : (w4.alloc (.cells #[.int .i64 0, .bool false, .string ⟨#[]⟩, .int .i64 0] 23)).cell? ⟨w.heap.size, 0, none⟩ = some (.int .i64 ca) := Ba5.out.cell 0
  have ya1 : (w4.alloc (.cells #[.int .i64 0, .bool false, .string ⟨#[]⟩, .int .i64 0] 23)).cell? ⟨w.heap.size, 1, none⟩ = some (.bool na) := Ba5.out.cell 1
  have ya2 : (w4.alloc (.cells #[.int .i64 0, .bool false, .string ⟨#[]⟩, .int .i64 0] 23)).cell? ⟨w.heap.size, 2, none⟩ = some (.string ta) := Ba5.out.cell 2
  have ya3 : (w4.alloc (.cells #[.int .i64 0, .bool false, .string ⟨#[]⟩, .int .i64 0] 23)).cell? ⟨w.heap.size, 3, none⟩ = some (.int .i64 ea) := Ba5.out.cell 3
  have yy0 : (w4.alloc (.cells #[.int .i64 0, .bool false, .string ⟨#[]⟩, .int .i64 0] 23)).cell? ⟨w4.heap.size, 0, none⟩ = some (.int .i64 0) := By5.out.cell 0
  have yy1 : (w4.alloc (.cells #[.int .i64 0, .bool false, .string ⟨#[]⟩, .int .i64 0] 23)).cell? ⟨w4.heap.size, 1, none⟩ = some (.bool false) := By5.out.cell 1
  have yy2 : (w4.alloc (.cells #[.int .i64 0, .bool false, .string ⟨#[]⟩, .int .i64 0] 23)).cell? ⟨w4.heap.size, 2, none⟩ = some (.string ⟨#[]⟩) := By5.out.cell 2
  have yy3 : (w4.alloc (.cells #[.int .i64 0, .bool false, .string ⟨#[]⟩, .int .i64 0] 23)).cell? ⟨w4.heap.size, 3, none⟩ = some (.int .i64 0) := By5.out.cell 3
  go_wp2
  go_ret
  exact ⟨rfl, HB5.out⟩

theorem pars_mk (l : List UInt8) (d : DecT) (g : Int) (h : parseD l = (d, g)) (hl : l.length ≤ 100000) (W : World) : Calls Tryz.prog 10 #[.string ⟨l.toArray⟩] W fun e w' => e = .returned (.tuple #[decVal d, .int .i64 g]) ∧ Below W.heap.size W w' := by
  have q := Parse_any ⟨l.toArray⟩ W (by rw [size_mk0]; omega)
  rw [bys_mk, h] at q
  exact q

theorem dback_walk (w : World) (htab : Tab w) (ca : Int) (na : Bool) (ta : ByteArray) (ea : Int) (s : ByteArray) (hs : s.size ≤ 140737488355328) : Calls Tryz.prog 3 #[dcV ca na ta ea, .string s] w fun e w' => e = .returned (.bool true) ∧ Below w.heap.size w w' := by
  have P4 := fun W => Parse_any s W hs
  rcases hp : parseD (bys s) with ⟨y, g⟩
  have hy := parseD_may (bys s)
  rw [hp] at hy P4
  simp only at hy
  by_cases h : MayD ca na (bys ta) ea
  · obtain ⟨d, hd⟩ : ∃ d : DecT, d = ⟨ca.toNat, na, bys ta, ea⟩ := ⟨_, rfl⟩
    have md : May d := by rw [hd]; exact mayD_d h
    have ed : dcV ca na ta ea = decVal d := by rw [hd]; exact dcV_d ca na ta ea (mayD_nn h)
    have e1 := fun W hW => Print_d d W md hW
    have e2 := fun W => dmay_yes ca na ta ea W h
    have e3 := fun W => pars_mk (printT d) d 0 (printT_parse d md) (by have := printT_len d md; omega) W
    rw [← ed] at e1 e3
    rcases hy with ⟨rfl, my⟩ | ⟨hg, rfl⟩
    · have f5 := fun W hW => Print_d y W my hW
      have f6 := fun W => pars_mk (printT y) y 0 (printT_parse y my) (by have := printT_len y my; omega) W
      have f7 := fun W => dmay_d_yes y W my
      exact back_yy ca na ta ea s _ _ _ _ _ _ w htab e1 e2 e3 P4 f5 f6 f7
    · exact back_yn ca na ta ea s _ g (by omega) w htab e1 e2 e3 P4
  · have e1 := fun W (_ : Tab W) => Print_no ca na ta ea W h
    have e2 := fun W => dmay_no ca na ta ea W h
    rcases hy with ⟨rfl, my⟩ | ⟨hg, rfl⟩
    · have f5 := fun W hW => Print_d y W my hW
      have f6 := fun W => pars_mk (printT y) y 0 (printT_parse y my) (by have := printT_len y my; omega) W
      have f7 := fun W => dmay_d_yes y W my
      exact back_ny ca na ta ea s _ _ _ _ _ w htab e1 e2 P4 f5 f6 f7
    · exact back_nn ca na ta ea s g (by omega) w htab e1 e2 P4

end Go.Proofs.YtifpacgacbpalabGreatDoor
