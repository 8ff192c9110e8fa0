/-
  The walk of RoundSigns.
  What At, Digits and Step answer, case by case.
  RoundSigns: what the calls answer of a number and of the one with the other sign.
  What the rows' list of package variables gives, and a world that holds them.
-/
import Derived.Test.YtcclbcnmkaobpaaGreatDoorZB6
import Derived.Test.YtcclbcnmkaobpaaGreatDoorZB9
import Derived.Test.YtcclbcnmkaobpaaGreatDoorRows
import Derived.Lib.LaidTab
import Derived.Deep.DeepHandedRow
namespace Go.Proofs.YtcclbcnmkaobpaaGreatDoor
open Go.RowKit

set_option maxRecDepth 100000 in
set_option maxHeartbeats 4000000 in
theorem signs_0_no (ca : Int) (na : Bool) (ta : ByteArray) (ea : Int) (p : Int) (cn : Int) (nn : Bool) (tn : ByteArray) (en : Int) (cx : Int) (nx : Bool) (tx : ByteArray) (ex : Int) (cy : Int) (ny : Bool) (ty : ByteArray) (ey : Int) (g : Int) (w : World) (htab : Tab w) (h0 : ∀ W, Calls Tryz.prog 22 #[dcV ca na ta ea] W fun e w' => e = .returned (.tuple #[.agg #[.int .i64 cn, .bool nn, .string tn, .int .i64 en], .int .i64 52]) ∧ Below W.heap.size W w') (h1 : ∀ W, Tab W → Calls Tryz.prog 11 #[dcV ca na ta ea, .int .i64 p, .int .i64 0] W fun e w' => e = .returned (.tuple #[.agg #[.int .i64 cx, .bool nx, .string tx, .int .i64 ex], .int .i64 52]) ∧ Below W.heap.size W w') (h2 : ∀ W, Tab W → Calls Tryz.prog 11 #[.agg #[.int .i64 cn, .bool nn, .string tn, .int .i64 en], .int .i64 p, .int .i64 1] W fun e w' => e = .returned (.tuple #[.agg #[.int .i64 cy, .bool ny, .string ty, .int .i64 ey], .int .i64 g]) ∧ Below W.heap.size W w') : Calls Tryz.prog 8 #[dcV ca na ta ea, .int .i64 p, .int .i64 0] w fun e w' => e = .returned (.bool true) ∧ Below w.heap.size w w' := by
  have H0 := hide h0
  have H1 := hide h1
  have H2 := hide h2
  have HT := hide htab
  clear htab h0 h1 h2
  have Ba0 := hide (Blk.newAt w (w.heap.size) (rfl) #[.int .i64 ca, .bool na, .string ta, .int .i64 ea] 23)
  have HB0 : Hid (Below w.heap.size w (w.alloc (.cells #[.int .i64 ca, .bool na, .string ta, .int .i64 ea] 23))) := ((Below.refl _ _).alloc (Nat.le_refl _) _)
  go_enter Tryz.func8, Tryz.ntmps8
  go_wp2_with fail
  refine (rawake_any _ (HT.out.below HB0.out)).mono ?_
  rintro e w1 ⟨rfl, hb⟩
  have Ba1 := hide (Ba0.out.below hb Ba0.out.lt)
  have HB1 := hide (HB0.out.trans (hb.mono HB0.out.size))
  clear hb Ba0 HB0 
  have ya0 : w1.cell? ⟨w.heap.size, 0, none⟩ = some (.int .i64 ca) := Ba1.out.cell 0
  have ya1 : w1.cell? ⟨w.heap.size, 1, none⟩ = some (.bool na) := Ba1.out.cell 1
  have ya2 : w1.cell? ⟨w.heap.size, 2, none⟩ = some (.string ta) := Ba1.out.cell 2
  have ya3 : w1.cell? ⟨w.heap.size, 3, none⟩ = some (.int .i64 ea) := Ba1.out.cell 3
  go_wp2_with fail
  refine (H0.out _).mono ?_
  rintro e w2 ⟨rfl, hb⟩
  have Ba2 := hide (Ba1.out.below hb Ba1.out.lt)
  have HB2 := hide (HB1.out.trans (hb.mono HB1.out.size))
  clear hb Ba1 HB1 ya0 ya1 ya2 ya3
  have ya0 : w2.cell? ⟨w.heap.size, 0, none⟩ = some (.int .i64 ca) := Ba2.out.cell 0
  have ya1 : w2.cell? ⟨w.heap.size, 1, none⟩ = some (.bool na) := Ba2.out.cell 1
  have ya2 : w2.cell? ⟨w.heap.size, 2, none⟩ = some (.string ta) := Ba2.out.cell 2
  have ya3 : w2.cell? ⟨w.heap.size, 3, none⟩ = some (.int .i64 ea) := Ba2.out.cell 3
  have Ba3 := hide ((Ba2.out.alloc (.cells #[.int .i64 cn, .bool nn, .string tn, .int .i64 en] 23)))
  have Bn3 := hide ((Blk.newAt w2 (w2.heap.size) (rfl) #[.int .i64 cn, .bool nn, .string tn, .int .i64 en] 23))
  have HB3 : Hid (Below w.heap.size w (w2.alloc (.cells #[.int .i64 cn, .bool nn, .string tn, .int .i64 en] 23))) := (HB2.out.alloc HB2.out.size _)
  clear Ba2 HB2 ya0 ya1 ya2 ya3
  have ya0 : (w2.alloc (.cells #[.int .i64 cn, .bool nn, .string tn, .int .i64 en] 23)).cell? ⟨w.heap.size, 0, none⟩ = some (.int .i64 ca) := Ba3.out.cell 0
  have ya1 : (w2.alloc (.cells #[.int .i64 cn, .bool nn, .string tn, .int .i64 en] 23)).cell? ⟨w.heap.size, 1, none⟩ = some (.bool na) := Ba3.out.cell 1
  have ya2 : (w2.alloc (.cells #[.int .i64 cn, .bool nn, .string tn, .int .i64 en] 23)).cell? ⟨w.heap.size, 2, none⟩ = some (.string ta) := Ba3.out.cell 2
  have ya3 : (w2.alloc (.cells #[.int .i64 cn, .bool nn, .string tn, .int .i64 en] 23)).cell? ⟨w.heap.size, 3, none⟩ = some (.int .i64 ea) := Ba3.out.cell 3
  have yn0 : (w2.alloc (.cells #[.int .i64 cn, .bool nn, .string tn, .int .i64 en] 23)).cell? ⟨w2.heap.size, 0, none⟩ = some (.int .i64 cn) := Bn3.out.cell 0
  have yn1 : (w2.alloc (.cells #[.int .i64 cn, .bool nn, .string tn, .int .i64 en] 23)).cell? ⟨w2.heap.size, 1, none⟩ = some (.bool nn) := Bn3.out.cell 1
  have yn2 : (w2.alloc (.cells #[.int .i64 cn, .bool nn, .string tn, .int .i64 en] 23)).cell? ⟨w2.heap.size, 2, none⟩ = some (.string tn) := Bn3.out.cell 2
  have yn3 : (w2.alloc (.cells #[.int .i64 cn, .bool nn, .string tn, .int .i64 en] 23)).cell? ⟨w2.heap.size, 3, none⟩ = some (.int .i64 en) := Bn3.out.cell 3
  go_wp2_with fail
  refine (H1.out _ (HT.out.below HB3.out)).mono ?_
  rintro e w4 ⟨rfl, hb⟩
  have Ba4 := hide (Ba3.out.below hb Ba3.out.lt)
  have Bn4 := hide (Bn3.out.below hb Bn3.out.lt)
  have HB4 := hide (HB3.out.trans (hb.mono HB3.out.size))
  clear hb Ba3 Bn3 HB3 ya0 ya1 ya2 ya3 yn0 yn1 yn2 yn3
  have ya0 : w4.cell? ⟨w.heap.size, 0, none⟩ = some (.int .i64 ca) := Ba4.out.cell 0
  have ya1 : w4.cell? ⟨w.heap.size, 1, none⟩ = some (.bool na) := Ba4.out.cell 1
  have ya2 : w4.cell? ⟨w.heap.size, 2, none⟩ = some (.string ta) := Ba4.out.cell 2
  have ya3 : w4.cell? ⟨w.heap.size, 3, none⟩ = some (.int .i64 ea) := Ba4.out.cell 3
  have yn0 : w4.cell? ⟨w2.heap.size, 0, none⟩ = some (.int .i64 cn) := Bn4.out.cell 0
  have yn1 : w4.cell? ⟨w2.heap.size, 1, none⟩ = some (.bool nn) := Bn4.out.cell 1
  have yn2 : w4.cell? ⟨w2.heap.size, 2, none⟩ = some (.string tn) := Bn4.out.cell 2
  have yn3 : w4.cell? ⟨w2.heap.size, 3, none⟩ = some (.int .i64 en) := Bn4.out.cell 3
  have Ba5 := hide ((Ba4.out.alloc (.cells #[.int .i64 cx, .bool nx, .string tx, .int .i64 ex] 23)))
  have Bn5 := hide ((Bn4.out.alloc (.cells #[.int .i64 cx, .bool nx, .string tx, .int .i64 ex] 23)))
  have Bx5 := hide ((Blk.newAt w4 (w4.heap.size) (rfl) #[.int .i64 cx, .bool nx, .string tx, .int .i64 ex] 23))
  have HB5 : Hid (Below w.heap.size w (w4.alloc (.cells #[.int .i64 cx, .bool nx, .string tx, .int .i64 ex] 23))) := (HB4.out.alloc HB4.out.size _)
  clear Ba4 Bn4 HB4 ya0 ya1 ya2 ya3 yn0 yn1 yn2 yn3
  have ya0 : (w4.alloc (.cells #[.int .i64 cx, .bool nx, .string tx, .int .i64 ex] 23)).cell? ⟨w.heap.size, 0, none⟩ = some (.int .i64 ca) := Ba5.out.cell 0
  have ya1 : (w4.alloc (.cells #[.int .i64 cx, .bool nx, .string tx, .int .i64 ex] 23)).cell? ⟨w.heap.size, 1, none⟩ = some (.bool na) := Ba5.out.cell 1
  have ya2 : (w4.alloc (.cells #[.int .i64 cx, .bool nx, .string tx, .int .i64 ex] 23)).cell? ⟨w.heap.size, 2, none⟩ = some (.string ta) := Ba5.out.cell 2
  have ya3 : (w4.alloc (.cells #[.int .i64 cx, .bool nx, .string tx, .int .i64 ex] 23)).cell? ⟨w.heap.size, 3, none⟩ = some (.int .i64 ea) := Ba5.out.cell 3
  have yn0 : (w4.alloc (.cells #[.int .i64 cx, .bool nx, .string tx, .int .i64 ex] 23)).cell? ⟨w2.heap.size, 0, none⟩ = some (.int .i64 cn) := Bn5.out.cell 0
  have yn1 : (w4.alloc (.cells #[.int .i64 cx, .bool nx, .string tx, .int .i64 ex] 23)).cell? ⟨w2.heap.size, 1, none⟩ = some (.bool nn) := Bn5.out.cell 1
  have yn2 : (w4.alloc (.cells #[.int .i64 cx, .bool nx, .string tx, .int .i64 ex] 23)).cell? ⟨w2.heap.size, 2, none⟩ = some (.string tn) := Bn5.out.cell 2
  have yn3 : (w4.alloc (.cells #[.int .i64 cx, .bool nx, .string tx, .int .i64 ex] 23)).cell? ⟨w2.heap.size, 3, none⟩ = some (.int .i64 en) := Bn5.out.cell 3
  have yx0 : (w4.alloc (.cells #[.int .i64 cx, .bool nx, .string tx, .int .i64 ex] 23)).cell? ⟨w4.heap.size, 0, none⟩ = some (.int .i64 cx) := Bx5.out.cell 0
  have yx1 : (w4.alloc (.cells #[.int .i64 cx, .bool nx, .string tx, .int .i64 ex] 23)).cell? ⟨w4.heap.size, 1, none⟩ = some (.bool nx) := Bx5.out.cell 1
  have yx2 : (w4.alloc (.cells #[.int .i64 cx, .bool nx, .string tx, .int .i64 ex] 23)).cell? ⟨w4.heap.size, 2, none⟩ = some (.string tx) := Bx5.out.cell 2
  have yx3 : (w4.alloc (.cells #[.int .i64 cx, .bool nx, .string tx, .int .i64 ex] 23)).cell? ⟨w4.heap.size, 3, none⟩ = some (.int .i64 ex) := Bx5.out.cell 3
  go_wp2_with fail
  refine (H2.out _ (HT.out.below HB5.out)).mono ?_
  rintro e w6 ⟨rfl, hb⟩
  have Ba6 := hide (Ba5.out.below hb Ba5.out.lt)
  have Bn6 := hide (Bn5.out.below hb Bn5.out.lt)
  have Bx6 := hide (Bx5.out.below hb Bx5.out.lt)
  have HB6 := hide (HB5.out.trans (hb.mono HB5.out.size))
  clear hb Ba5 Bn5 Bx5 HB5 ya0 ya1 ya2 ya3 yn0 yn1 yn2 yn3 yx0 yx1 yx2 yx3
  have ya0 : w6.cell? ⟨w.heap.size, 0, none⟩ = some (.int .i64 ca) := Ba6.out.cell 0
  have ya1 : w6.cell? ⟨w.heap.size, 1, none⟩ = some (.bool na) := Ba6.out.cell 1
  have ya2 : w6.cell? ⟨w.heap.size, 2, none⟩ = some (.string ta) := Ba6.out.cell 2
  have ya3 : w6.cell? ⟨w.heap.size, 3, none⟩ = some (.int .i64 ea) := Ba6.out.cell 3
  have yn0 : w6.cell? ⟨w2.heap.size, 0, none⟩ = some (.int .i64 cn) := Bn6.out.cell 0
  have yn1 : w6.cell? ⟨w2.heap.size, 1, none⟩ = some (.bool nn) := Bn6.out.cell 1
  have yn2 : w6.cell? ⟨w2.heap.size, 2, none⟩ = some (.string tn) := Bn6.out.cell 2
  have yn3 : w6.cell? ⟨w2.heap.size, 3, none⟩ = some (.int .i64 en) := Bn6.out.cell 3
  have yx0 : w6.cell? ⟨w4.heap.size, 0, none⟩ = some (.int .i64 cx) := Bx6.out.cell 0
  have yx1 : w6.cell? ⟨w4.heap.size, 1, none⟩ = some (.bool nx) := Bx6.out.cell 1
  have yx2 : w6.cell? ⟨w4.heap.size, 2, none⟩ = some (.string tx) := Bx6.out.cell 2
  have yx3 : w6.cell? ⟨w4.heap.size, 3, none⟩ = some (.int .i64 ex) := Bx6.out.cell 3
  have Ba7 := hide ((Ba6.out.alloc (.cells #[.int .i64 cy, .bool ny, .string ty, .int .i64 ey] 23)))
  have Bn7 := hide ((Bn6.out.alloc (.cells #[.int .i64 cy, .bool ny, .string ty, .int .i64 ey] 23)))
  have Bx7 := hide ((Bx6.out.alloc (.cells #[.int .i64 cy, .bool ny, .string ty, .int .i64 ey] 23)))
  have By7 := hide ((Blk.newAt w6 (w6.heap.size) (rfl) #[.int .i64 cy, .bool ny, .string ty, .int .i64 ey] 23))
  have HB7 : Hid (Below w.heap.size w (w6.alloc (.cells #[.int .i64 cy, .bool ny, .string ty, .int .i64 ey] 23))) := (HB6.out.alloc HB6.out.size _)
  clear Ba6 Bn6 Bx6 HB6 ya0 ya1 ya2 ya3 yn0 yn1 yn2 yn3 yx0 yx1 yx2 yx3
  have ya0 : (w6.alloc (.cells #[.int .i64 cy, .bool ny, .string ty, .int .i64 ey] 23)).cell? ⟨w.heap.size, 0, none⟩ = some (.int .i64 ca) := Ba7.out.cell 0
  have ya1 : (w6.alloc (.cells #[.int .i64 cy, .bool ny, .string ty, .int .i64 ey] 23)).cell? ⟨w.heap.size, 1, none⟩ = some (.bool na) := Ba7.out.cell 1
  have ya2 : (w6.alloc (.cells #[.int .i64 cy, .bool ny, .string ty, .int .i64 ey] 23)).cell? ⟨w.heap.size, 2, none⟩ = some (.string ta) := Ba7.out.cell 2
  have ya3 : (w6.alloc (.cells #[.int .i64 cy, .bool ny, .string ty, .int .i64 ey] 23)).cell? ⟨w.heap.size, 3, none⟩ = some (.int .i64 ea) := Ba7.out.cell 3
  have yn0 : (w6.alloc (.cells #[.int .i64 cy, .bool ny, .string ty, .int .i64 ey] 23)).cell? ⟨w2.heap.size, 0, none⟩ = some (.int .i64 cn) := Bn7.out.cell 0
  have yn1 : (w6.alloc (.cells #[.int .i64 cy, .bool ny, .string ty, .int .i64 ey] 23)).cell? ⟨w2.heap.size, 1, none⟩ = some (.bool nn) := Bn7.out.cell 1
  have yn2 : (w6.alloc (.cells #[.int .i64 cy, .bool ny, .string ty, .int .i64 ey] 23)).cell? ⟨w2.heap.size, 2, none⟩ = some (.string tn) := Bn7.out.cell 2
  have yn3 : (w6.alloc (.cells #[.int .i64 cy, .bool ny, .string ty, .int .i64 ey] 23)).cell? ⟨w2.heap.size, 3, none⟩ = some (.int .i64 en) := Bn7.out.cell 3
  have yx0 : (w6.alloc (.cells #[.int .i64 cy, .bool ny, .string ty, .int .i64 ey] 23)).cell? ⟨w4.heap.size, 0, none⟩ = some (.int .i64 cx) := Bx7.out.cell 0
  have yx1 : (w6.alloc (.cells #[.int .i64 cy, .bool ny, .string ty, .int .i64 ey] 23)).cell? ⟨w4.heap.size, 1, none⟩ = some (.bool nx) := Bx7.out.cell 1
  have yx2 : (w6.alloc (.cells #[.int .i64 cy, .bool ny, .string ty, .int .i64 ey] 23)).cell? ⟨w4.heap.size, 2, none⟩ = some (.string tx) := Bx7.out.cell 2
  have yx3 : (w6.alloc (.cells #[.int .i64 cy, .bool ny, .string ty, .int .i64 ey] 23)).cell? ⟨w4.heap.size, 3, none⟩ = some (.int .i64 ex) := Bx7.out.cell 3
  have yy0 : (w6.alloc (.cells #[.int .i64 cy, .bool ny, .string ty, .int .i64 ey] 23)).cell? ⟨w6.heap.size, 0, none⟩ = some (.int .i64 cy) := By7.out.cell 0
  have yy1 : (w6.alloc (.cells #[.int .i64 cy, .bool ny, .string ty, .int .i64 ey] 23)).cell? ⟨w6.heap.size, 1, none⟩ = some (.bool ny) := By7.out.cell 1
  have yy2 : (w6.alloc (.cells #[.int .i64 cy, .bool ny, .string ty, .int .i64 ey] 23)).cell? ⟨w6.heap.size, 2, none⟩ = some (.string ty) := By7.out.cell 2
  have yy3 : (w6.alloc (.cells #[.int .i64 cy, .bool ny, .string ty, .int .i64 ey] 23)).cell? ⟨w6.heap.size, 3, none⟩ = some (.int .i64 ey) := By7.out.cell 3
  go_wp2
  go_ret
  exact ⟨rfl, HB7.out⟩

set_option maxRecDepth 100000 in
set_option maxHeartbeats 4000000 in
theorem signs_0_bad (ca : Int) (na : Bool) (ta : ByteArray) (ea : Int) (p : Int) (cn : Int) (nn : Bool) (tn : ByteArray) (en : Int) (cx : Int) (nx : Bool) (tx : ByteArray) (ex : Int) (cy : Int) (ny : Bool) (ty : ByteArray) (ey : Int) (cz : Int) (nz : Bool) (tz : ByteArray) (ez : Int) (f : Int) (k : Int) (w : World) (htab : Tab w) (h0 : ∀ W, Calls Tryz.prog 22 #[dcV ca na ta ea] W fun e w' => e = .returned (.tuple #[.agg #[.int .i64 cn, .bool nn, .string tn, .int .i64 en], .int .i64 0]) ∧ Below W.heap.size W w') (h1 : ∀ W, Tab W → Calls Tryz.prog 11 #[dcV ca na ta ea, .int .i64 p, .int .i64 0] W fun e w' => e = .returned (.tuple #[.agg #[.int .i64 cx, .bool nx, .string tx, .int .i64 ex], .int .i64 f]) ∧ Below W.heap.size W w') (h2 : ∀ W, Tab W → Calls Tryz.prog 11 #[.agg #[.int .i64 cn, .bool nn, .string tn, .int .i64 en], .int .i64 p, .int .i64 1] W fun e w' => e = .returned (.tuple #[.agg #[.int .i64 cy, .bool ny, .string ty, .int .i64 ey], .int .i64 f]) ∧ Below W.heap.size W w') (h3 : ∀ W, Calls Tryz.prog 22 #[.agg #[.int .i64 cx, .bool nx, .string tx, .int .i64 ex]] W fun e w' => e = .returned (.tuple #[.agg #[.int .i64 cz, .bool nz, .string tz, .int .i64 ez], .int .i64 k]) ∧ Below W.heap.size W w') (hf : ¬ f = 0) : Calls Tryz.prog 8 #[dcV ca na ta ea, .int .i64 p, .int .i64 0] w fun e w' => e = .returned (.bool true) ∧ Below w.heap.size w w' := by
  have q2 : (f != 0) = true := by simpa using hf
  clear hf
  have H0 := hide h0
  have H1 := hide h1
  have H2 := hide h2
  have H3 := hide h3
  have HT := hide htab
  clear htab h0 h1 h2 h3
  have Ba0 := hide (Blk.newAt w (w.heap.size) (rfl) #[.int .i64 ca, .bool na, .string ta, .int .i64 ea] 23)
  have HB0 : Hid (Below w.heap.size w (w.alloc (.cells #[.int .i64 ca, .bool na, .string ta, .int .i64 ea] 23))) := ((Below.refl _ _).alloc (Nat.le_refl _) _)
  go_enter Tryz.func8, Tryz.ntmps8
  go_wp2_with fail
  refine (rawake_any _ (HT.out.below HB0.out)).mono ?_
  rintro e w1 ⟨rfl, hb⟩
  have Ba1 := hide (Ba0.out.below hb Ba0.out.lt)
  have HB1 := hide (HB0.out.trans (hb.mono HB0.out.size))
  clear hb Ba0 HB0 
  have ya0 : w1.cell? ⟨w.heap.size, 0, none⟩ = some (.int .i64 ca) := Ba1.out.cell 0
  have ya1 : w1.cell? ⟨w.heap.size, 1, none⟩ = some (.bool na) := Ba1.out.cell 1
  have ya2 : w1.cell? ⟨w.heap.size, 2, none⟩ = some (.string ta) := Ba1.out.cell 2
  have ya3 : w1.cell? ⟨w.heap.size, 3, none⟩ = some (.int .i64 ea) := Ba1.out.cell 3
  go_wp2_with fail
  refine (H0.out _).mono ?_
  rintro e w2 ⟨rfl, hb⟩
  have Ba2 := hide (Ba1.out.below hb Ba1.out.lt)
  have HB2 := hide (HB1.out.trans (hb.mono HB1.out.size))
  clear hb Ba1 HB1 ya0 ya1 ya2 ya3
  have ya0 : w2.cell? ⟨w.heap.size, 0, none⟩ = some (.int .i64 ca) := Ba2.out.cell 0
  have ya1 : w2.cell? ⟨w.heap.size, 1, none⟩ = some (.bool na) := Ba2.out.cell 1
  have ya2 : w2.cell? ⟨w.heap.size, 2, none⟩ = some (.string ta) := Ba2.out.cell 2
  have ya3 : w2.cell? ⟨w.heap.size, 3, none⟩ = some (.int .i64 ea) := Ba2.out.cell 3
  have Ba3 := hide ((Ba2.out.alloc (.cells #[.int .i64 cn, .bool nn, .string tn, .int .i64 en] 23)))
  have Bn3 := hide ((Blk.newAt w2 (w2.heap.size) (rfl) #[.int .i64 cn, .bool nn, .string tn, .int .i64 en] 23))
  have HB3 : Hid (Below w.heap.size w (w2.alloc (.cells #[.int .i64 cn, .bool nn, .string tn, .int .i64 en] 23))) := (HB2.out.alloc HB2.out.size _)
  clear Ba2 HB2 ya0 ya1 ya2 ya3
  have ya0 : (w2.alloc (.cells #[.int .i64 cn, .bool nn, .string tn, .int .i64 en] 23)).cell? ⟨w.heap.size, 0, none⟩ = some (.int .i64 ca) := Ba3.out.cell 0
  have ya1 : (w2.alloc (.cells #[.int .i64 cn, .bool nn, .string tn, .int .i64 en] 23)).cell? ⟨w.heap.size, 1, none⟩ = some (.bool na) := Ba3.out.cell 1
  have ya2 : (w2.alloc (.cells #[.int .i64 cn, .bool nn, .string tn, .int .i64 en] 23)).cell? ⟨w.heap.size, 2, none⟩ = some (.string ta) := Ba3.out.cell 2
  have ya3 : (w2.alloc (.cells #[.int .i64 cn, .bool nn, .string tn, .int .i64 en] 23)).cell? ⟨w.heap.size, 3, none⟩ = some (.int .i64 ea) := Ba3.out.cell 3
  have yn0 : (w2.alloc (.cells #[.int .i64 cn, .bool nn, .string tn, .int .i64 en] 23)).cell? ⟨w2.heap.size, 0, none⟩ = some (.int .i64 cn) := Bn3.out.cell 0
  have yn1 : (w2.alloc (.cells #[.int .i64 cn, .bool nn, .string tn, .int .i64 en] 23)).cell? ⟨w2.heap.size, 1, none⟩ = some (.bool nn) := Bn3.out.cell 1
  have yn2 : (w2.alloc (.cells #[.int .i64 cn, .bool nn, .string tn, .int .i64 en] 23)).cell? ⟨w2.heap.size, 2, none⟩ = some (.string tn) := Bn3.out.cell 2
  have yn3 : (w2.alloc (.cells #[.int .i64 cn, .bool nn, .string tn, .int .i64 en] 23)).cell? ⟨w2.heap.size, 3, none⟩ = some (.int .i64 en) := Bn3.out.cell 3
  go_wp2_with fail
  refine (H1.out _ (HT.out.below HB3.out)).mono ?_
  rintro e w4 ⟨rfl, hb⟩
  have Ba4 := hide (Ba3.out.below hb Ba3.out.lt)
  have Bn4 := hide (Bn3.out.below hb Bn3.out.lt)
  have HB4 := hide (HB3.out.trans (hb.mono HB3.out.size))
  clear hb Ba3 Bn3 HB3 ya0 ya1 ya2 ya3 yn0 yn1 yn2 yn3
  have ya0 : w4.cell? ⟨w.heap.size, 0, none⟩ = some (.int .i64 ca) := Ba4.out.cell 0
  have ya1 : w4.cell? ⟨w.heap.size, 1, none⟩ = some (.bool na) := Ba4.out.cell 1
  have ya2 : w4.cell? ⟨w.heap.size, 2, none⟩ = some (.string ta) := Ba4.out.cell 2
  have ya3 : w4.cell? ⟨w.heap.size, 3, none⟩ = some (.int .i64 ea) := Ba4.out.cell 3
  have yn0 : w4.cell? ⟨w2.heap.size, 0, none⟩ = some (.int .i64 cn) := Bn4.out.cell 0
  have yn1 : w4.cell? ⟨w2.heap.size, 1, none⟩ = some (.bool nn) := Bn4.out.cell 1
  have yn2 : w4.cell? ⟨w2.heap.size, 2, none⟩ = some (.string tn) := Bn4.out.cell 2
  have yn3 : w4.cell? ⟨w2.heap.size, 3, none⟩ = some (.int .i64 en) := Bn4.out.cell 3
  have Ba5 := hide ((Ba4.out.alloc (.cells #[.int .i64 cx, .bool nx, .string tx, .int .i64 ex] 23)))
  have Bn5 := hide ((Bn4.out.alloc (.cells #[.int .i64 cx, .bool nx, .string tx, .int .i64 ex] 23)))
  have Bx5 := hide ((Blk.newAt w4 (w4.heap.size) (rfl) #[.int .i64 cx, .bool nx, .string tx, .int .i64 ex] 23))
  have HB5 : Hid (Below w.heap.size w (w4.alloc (.cells #[.int .i64 cx, .bool nx, .string tx, .int .i64 ex] 23))) := (HB4.out.alloc HB4.out.size _)
  clear Ba4 Bn4 HB4 ya0 ya1 ya2 ya3 yn0 yn1 yn2 yn3
  have ya0 : (w4.alloc (.cells #[.int .i64 cx, .bool nx, .string tx, .int .i64 ex] 23)).cell? ⟨w.heap.size, 0, none⟩ = some (.int .i64 ca) := Ba5.out.cell 0
  have ya1 : (w4.alloc (.cells #[.int .i64 cx, .bool nx, .string tx, .int .i64 ex] 23)).cell? ⟨w.heap.size, 1, none⟩ = some (.bool na) := Ba5.out.cell 1
  have ya2 : (w4.alloc (.cells #[.int .i64 cx, .bool nx, .string tx, .int .i64 ex] 23)).cell? ⟨w.heap.size, 2, none⟩ = some (.string ta) := Ba5.out.cell 2
  have ya3 : (w4.alloc (.cells #[.int .i64 cx, .bool nx, .string tx, .int .i64 ex] 23)).cell? ⟨w.heap.size, 3, none⟩ = some (.int .i64 ea) := Ba5.out.cell 3
  have yn0 : (w4.alloc (.cells #[.int .i64 cx, .bool nx, .string tx, .int .i64 ex] 23)).cell? ⟨w2.heap.size, 0, none⟩ = some (.int .i64 cn) := Bn5.out.cell 0
  have yn1 : (w4.alloc (.cells #[.int .i64 cx, .bool nx, .string tx, .int .i64 ex] 23)).cell? ⟨w2.heap.size, 1, none⟩ = some (.bool nn) := Bn5.out.cell 1
  have yn2 : (w4.alloc (.cells #[.int .i64 cx, .bool nx, .string tx, .int .i64 ex] 23)).cell? ⟨w2.heap.size, 2, none⟩ = some (.string tn) := Bn5.out.cell 2
  have yn3 : (w4.alloc (.cells #[.int .i64 cx, .bool nx, .string tx, .int .i64 ex] 23)).cell? ⟨w2.heap.size, 3, none⟩ = some (.int .i64 en) := Bn5.out.cell 3
  have yx0 : (w4.alloc (.cells #[.int .i64 cx, .bool nx, .string tx, .int .i64 ex] 23)).cell? ⟨w4.heap.size, 0, none⟩ = some (.int .i64 cx) := Bx5.out.cell 0
  have yx1 : (w4.alloc (.cells #[.int .i64 cx, .bool nx, .string tx, .int .i64 ex] 23)).cell? ⟨w4.heap.size, 1, none⟩ = some (.bool nx) := Bx5.out.cell 1
  have yx2 : (w4.alloc (.cells #[.int .i64 cx, .bool nx, .string tx, .int .i64 ex] 23)).cell? ⟨w4.heap.size, 2, none⟩ = some (.string tx) := Bx5.out.cell 2
  have yx3 : (w4.alloc (.cells #[.int .i64 cx, .bool nx, .string tx, .int .i64 ex] 23)).cell? ⟨w4.heap.size, 3, none⟩ = some (.int .i64 ex) := Bx5.out.cell 3
  go_wp2_with fail
  refine (H2.out _ (HT.out.below HB5.out)).mono ?_
  rintro e w6 ⟨rfl, hb⟩
  have Ba6 := hide (Ba5.out.below hb Ba5.out.lt)
  have Bn6 := hide (Bn5.out.below hb Bn5.out.lt)
  have Bx6 := hide (Bx5.out.below hb Bx5.out.lt)
  have HB6 := hide (HB5.out.trans (hb.mono HB5.out.size))
  clear hb Ba5 Bn5 Bx5 HB5 ya0 ya1 ya2 ya3 yn0 yn1 yn2 yn3 yx0 yx1 yx2 yx3
  have ya0 : w6.cell? ⟨w.heap.size, 0, none⟩ = some (.int .i64 ca) := Ba6.out.cell 0
  have ya1 : w6.cell? ⟨w.heap.size, 1, none⟩ = some (.bool na) := Ba6.out.cell 1
  have ya2 : w6.cell? ⟨w.heap.size, 2, none⟩ = some (.string ta) := Ba6.out.cell 2
  have ya3 : w6.cell? ⟨w.heap.size, 3, none⟩ = some (.int .i64 ea) := Ba6.out.cell 3
  have yn0 : w6.cell? ⟨w2.heap.size, 0, none⟩ = some (.int .i64 cn) := Bn6.out.cell 0
  have yn1 : w6.cell? ⟨w2.heap.size, 1, none⟩ = some (.bool nn) := Bn6.out.cell 1
  have yn2 : w6.cell? ⟨w2.heap.size, 2, none⟩ = some (.string tn) := Bn6.out.cell 2
  have yn3 : w6.cell? ⟨w2.heap.size, 3, none⟩ = some (.int .i64 en) := Bn6.out.cell 3
  have yx0 : w6.cell? ⟨w4.heap.size, 0, none⟩ = some (.int .i64 cx) := Bx6.out.cell 0
  have yx1 : w6.cell? ⟨w4.heap.size, 1, none⟩ = some (.bool nx) := Bx6.out.cell 1
  have yx2 : w6.cell? ⟨w4.heap.size, 2, none⟩ = some (.string tx) := Bx6.out.cell 2
  have yx3 : w6.cell? ⟨w4.heap.size, 3, none⟩ = some (.int .i64 ex) := Bx6.out.cell 3
  have Ba7 := hide ((Ba6.out.alloc (.cells #[.int .i64 cy, .bool ny, .string ty, .int .i64 ey] 23)))
  have Bn7 := hide ((Bn6.out.alloc (.cells #[.int .i64 cy, .bool ny, .string ty, .int .i64 ey] 23)))
  have Bx7 := hide ((Bx6.out.alloc (.cells #[.int .i64 cy, .bool ny, .string ty, .int .i64 ey] 23)))
  have By7 := hide ((Blk.newAt w6 (w6.heap.size) (rfl) #[.int .i64 cy, .bool ny, .string ty, .int .i64 ey] 23))
  have HB7 : Hid (Below w.heap.size w (w6.alloc (.cells #[.int .i64 cy, .bool ny, .string ty, .int .i64 ey] 23))) := (HB6.out.alloc HB6.out.size _)
  clear Ba6 Bn6 Bx6 HB6 ya0 ya1 ya2 ya3 yn0 yn1 yn2 yn3 yx0 yx1 yx2 yx3
  have ya0 : (w6.alloc (.cells #[.int .i64 cy, .bool ny, .string ty, .int .i64 ey] 23)).cell? ⟨w.heap.size, 0, none⟩ = some (.int .i64 ca) := Ba7.out.cell 0
  have ya1 : (w6.alloc (.cells #[.int .i64 cy, .bool ny, .string ty, .int .i64 ey] 23)).cell? ⟨w.heap.size, 1, none⟩ = some (.bool na) := Ba7.out.cell 1
  have ya2 : (w6.alloc (.cells #[.int .i64 cy, .bool ny, .string ty, .int .i64 ey] 23)).cell? ⟨w.heap.size, 2, none⟩ = some (.string ta) := Ba7.out.cell 2
  have ya3 : (w6.alloc (.cells #[.int .i64 cy, .bool ny, .string ty, .int .i64 ey] 23)).cell? ⟨w.heap.size, 3, none⟩ = some (.int .i64 ea) := Ba7.out.cell 3
  have yn0 : (w6.alloc (.cells #[.int .i64 cy, .bool ny, .string ty, .int .i64 ey] 23)).cell? ⟨w2.heap.size, 0, none⟩ = some (.int .i64 cn) := Bn7.out.cell 0
  have yn1 : (w6.alloc (.cells #[.int .i64 cy, .bool ny, .string ty, .int .i64 ey] 23)).cell? ⟨w2.heap.size, 1, none⟩ = some (.bool nn) := Bn7.out.cell 1
  have yn2 : (w6.alloc (.cells #[.int .i64 cy, .bool ny, .string ty, .int .i64 ey] 23)).cell? ⟨w2.heap.size, 2, none⟩ = some (.string tn) := Bn7.out.cell 2
  have yn3 : (w6.alloc (.cells #[.int .i64 cy, .bool ny, .string ty, .int .i64 ey] 23)).cell? ⟨w2.heap.size, 3, none⟩ = some (.int .i64 en) := Bn7.out.cell 3
  have yx0 : (w6.alloc (.cells #[.int .i64 cy, .bool ny, .string ty, .int .i64 ey] 23)).cell? ⟨w4.heap.size, 0, none⟩ = some (.int .i64 cx) := Bx7.out.cell 0
  have yx1 : (w6.alloc (.cells #[.int .i64 cy, .bool ny, .string ty, .int .i64 ey] 23)).cell? ⟨w4.heap.size, 1, none⟩ = some (.bool nx) := Bx7.out.cell 1
  have yx2 : (w6.alloc (.cells #[.int .i64 cy, .bool ny, .string ty, .int .i64 ey] 23)).cell? ⟨w4.heap.size, 2, none⟩ = some (.string tx) := Bx7.out.cell 2
  have yx3 : (w6.alloc (.cells #[.int .i64 cy, .bool ny, .string ty, .int .i64 ey] 23)).cell? ⟨w4.heap.size, 3, none⟩ = some (.int .i64 ex) := Bx7.out.cell 3
  have yy0 : (w6.alloc (.cells #[.int .i64 cy, .bool ny, .string ty, .int .i64 ey] 23)).cell? ⟨w6.heap.size, 0, none⟩ = some (.int .i64 cy) := By7.out.cell 0
  have yy1 : (w6.alloc (.cells #[.int .i64 cy, .bool ny, .string ty, .int .i64 ey] 23)).cell? ⟨w6.heap.size, 1, none⟩ = some (.bool ny) := By7.out.cell 1
  have yy2 : (w6.alloc (.cells #[.int .i64 cy, .bool ny, .string ty, .int .i64 ey] 23)).cell? ⟨w6.heap.size, 2, none⟩ = some (.string ty) := By7.out.cell 2
  have yy3 : (w6.alloc (.cells #[.int .i64 cy, .bool ny, .string ty, .int .i64 ey] 23)).cell? ⟨w6.heap.size, 3, none⟩ = some (.int .i64 ey) := By7.out.cell 3
  go_wp2_with fail
  refine (H3.out _).mono ?_
  rintro e w8 ⟨rfl, hb⟩
  have Ba8 := hide (Ba7.out.below hb Ba7.out.lt)
  have Bn8 := hide (Bn7.out.below hb Bn7.out.lt)
  have Bx8 := hide (Bx7.out.below hb Bx7.out.lt)
  have By8 := hide (By7.out.below hb By7.out.lt)
  have HB8 := hide (HB7.out.trans (hb.mono HB7.out.size))
  clear hb Ba7 Bn7 Bx7 By7 HB7 ya0 ya1 ya2 ya3 yn0 yn1 yn2 yn3 yx0 yx1 yx2 yx3 yy0 yy1 yy2 yy3
  have ya0 : w8.cell? ⟨w.heap.size, 0, none⟩ = some (.int .i64 ca) := Ba8.out.cell 0
  have ya1 : w8.cell? ⟨w.heap.size, 1, none⟩ = some (.bool na) := Ba8.out.cell 1
  have ya2 : w8.cell? ⟨w.heap.size, 2, none⟩ = some (.string ta) := Ba8.out.cell 2
  have ya3 : w8.cell? ⟨w.heap.size, 3, none⟩ = some (.int .i64 ea) := Ba8.out.cell 3
  have yn0 : w8.cell? ⟨w2.heap.size, 0, none⟩ = some (.int .i64 cn) := Bn8.out.cell 0
  have yn1 : w8.cell? ⟨w2.heap.size, 1, none⟩ = some (.bool nn) := Bn8.out.cell 1
  have yn2 : w8.cell? ⟨w2.heap.size, 2, none⟩ = some (.string tn) := Bn8.out.cell 2
  have yn3 : w8.cell? ⟨w2.heap.size, 3, none⟩ = some (.int .i64 en) := Bn8.out.cell 3
  have yx0 : w8.cell? ⟨w4.heap.size, 0, none⟩ = some (.int .i64 cx) := Bx8.out.cell 0
  have yx1 : w8.cell? ⟨w4.heap.size, 1, none⟩ = some (.bool nx) := Bx8.out.cell 1
  have yx2 : w8.cell? ⟨w4.heap.size, 2, none⟩ = some (.string tx) := Bx8.out.cell 2
  have yx3 : w8.cell? ⟨w4.heap.size, 3, none⟩ = some (.int .i64 ex) := Bx8.out.cell 3
  have yy0 : w8.cell? ⟨w6.heap.size, 0, none⟩ = some (.int .i64 cy) := By8.out.cell 0
  have yy1 : w8.cell? ⟨w6.heap.size, 1, none⟩ = some (.bool ny) := By8.out.cell 1
  have yy2 : w8.cell? ⟨w6.heap.size, 2, none⟩ = some (.string ty) := By8.out.cell 2
  have yy3 : w8.cell? ⟨w6.heap.size, 3, none⟩ = some (.int .i64 ey) := By8.out.cell 3
  have Ba9 := hide ((Ba8.out.alloc (.cells #[.int .i64 cz, .bool nz, .string tz, .int .i64 ez] 23)))
  have Bn9 := hide ((Bn8.out.alloc (.cells #[.int .i64 cz, .bool nz, .string tz, .int .i64 ez] 23)))
  have Bx9 := hide ((Bx8.out.alloc (.cells #[.int .i64 cz, .bool nz, .string tz, .int .i64 ez] 23)))
  have By9 := hide ((By8.out.alloc (.cells #[.int .i64 cz, .bool nz, .string tz, .int .i64 ez] 23)))
  have Bz9 := hide ((Blk.newAt w8 (w8.heap.size) (rfl) #[.int .i64 cz, .bool nz, .string tz, .int .i64 ez] 23))
  have HB9 : Hid (Below w.heap.size w (w8.alloc (.cells #[.int .i64 cz, .bool nz, .string tz, .int .i64 ez] 23))) := (HB8.out.alloc HB8.out.size _)
  clear Ba8 Bn8 Bx8 By8 HB8 ya0 ya1 ya2 ya3 yn0 yn1 yn2 yn3 yx0 yx1 yx2 yx3 yy0 yy1 yy2 yy3
  have ya0 : (w8.alloc (.cells #[.int .i64 cz, .bool nz, .string tz, .int .i64 ez] 23)).cell? ⟨w.heap.size, 0, none⟩ = some (.int .i64 ca) := Ba9.out.cell 0
  have ya1 : (w8.alloc (.cells #[.int .i64 cz, .bool nz, .string tz, .int .i64 ez] 23)).cell? ⟨w.heap.size, 1, none⟩ = some (.bool na) := Ba9.out.cell 1
  have ya2 : (w8.alloc (.cells #[.int .i64 cz, .bool nz, .string tz, .int .i64 ez] 23)).cell? ⟨w.heap.size, 2, none⟩ = some (.string ta) := Ba9.out.cell 2
  have ya3 : (w8.alloc (.cells #[.int .i64 cz, .bool nz, .string tz, .int .i64 ez] 23)).cell? ⟨w.heap.size, 3, none⟩ = some (.int .i64 ea) := Ba9.out.cell 3
  have yn0 : (w8.alloc (.cells #[.int .i64 cz, .bool nz, .string tz, .int .i64 ez] 23)).cell? ⟨w2.heap.size, 0, none⟩ = some (.int .i64 cn) := Bn9.out.cell 0
  have yn1 : (w8.alloc (.cells #[.int .i64 cz, .bool nz, .string tz, .int .i64 ez] 23)).cell? ⟨w2.heap.size, 1, none⟩ = some (.bool nn) := Bn9.out.cell 1
  have yn2 : (w8.alloc (.cells #[.int .i64 cz, .bool nz, .string tz, .int .i64 ez] 23)).cell? ⟨w2.heap.size, 2, none⟩ = some (.string tn) := Bn9.out.cell 2
  have yn3 : (w8.alloc (.cells #[.int .i64 cz, .bool nz, .string tz, .int .i64 ez] 23)).cell? ⟨w2.heap.size, 3, none⟩ = some (.int .i64 en) := Bn9.out.cell 3
  have yx0 : (w8.alloc (.cells #[.int .i64 cz, .bool nz, .string tz, .int .i64 ez] 23)).cell? ⟨w4.heap.size, 0, none⟩ = some (.int .i64 cx) := Bx9.out.cell 0
  have yx1 : (w8.alloc (.cells #[.int .i64 cz, .bool nz, .string tz, .int .i64 ez] 23)).cell? ⟨w4.heap.size, 1, none⟩ = some (.bool nx) := Bx9.out.cell 1
  have yx2 : (w8.alloc (.cells #[.int .i64 cz, .bool nz, .string tz, .int .i64 ez] 23)).cell? ⟨w4.heap.size, 2, none⟩ = some (.string tx) := Bx9.out.cell 2
  have yx3 : (w8.alloc (.cells #[.int .i64 cz, .bool nz, .string tz, .int .i64 ez] 23)).cell? ⟨w4.heap.size, 3, none⟩ = some (.int .i64 ex) := Bx9.out.cell 3
  have yy0 : (w8.alloc (.cells #[.int .i64 cz, .bool nz, .string tz, .int .i64 ez] 23)).cell? ⟨w6.heap.size, 0, none⟩ = some (.int .i64 cy) := By9.out.cell 0
  have yy1 : (w8.alloc (.cells #[.int .i64 cz, .bool nz, .string tz, .int .i64 ez] 23)).cell? ⟨w6.heap.size, 1, none⟩ = some (.bool ny) := By9.out.cell 1
  have yy2 : (w8.alloc (.cells #[.int .i64 cz, .bool nz, .string tz, .int .i64 ez] 23)).cell? ⟨w6.heap.size, 2, none⟩ = some (.string ty) := By9.out.cell 2
  have yy3 : (w8.alloc (.cells #[.int .i64 cz, .bool nz, .string tz, .int .i64 ez] 23)).cell? ⟨w6.heap.size, 3, none⟩ = some (.int .i64 ey) := By9.out.cell 3
  have yz0 : (w8.alloc (.cells #[.int .i64 cz, .bool nz, .string tz, .int .i64 ez] 23)).cell? ⟨w8.heap.size, 0, none⟩ = some (.int .i64 cz) := Bz9.out.cell 0
  have yz1 : (w8.alloc (.cells #[.int .i64 cz, .bool nz, .string tz, .int .i64 ez] 23)).cell? ⟨w8.heap.size, 1, none⟩ = some (.bool nz) := Bz9.out.cell 1
  have yz2 : (w8.alloc (.cells #[.int .i64 cz, .bool nz, .string tz, .int .i64 ez] 23)).cell? ⟨w8.heap.size, 2, none⟩ = some (.string tz) := Bz9.out.cell 2
  have yz3 : (w8.alloc (.cells #[.int .i64 cz, .bool nz, .string tz, .int .i64 ez] 23)).cell? ⟨w8.heap.size, 3, none⟩ = some (.int .i64 ez) := Bz9.out.cell 3
  go_wp2
  go_ret
  exact ⟨rfl, HB9.out⟩

set_option maxRecDepth 100000 in
set_option maxHeartbeats 4000000 in
theorem signs_0_ok (ca : Int) (na : Bool) (ta : ByteArray) (ea : Int) (p : Int) (cn : Int) (nn : Bool) (tn : ByteArray) (en : Int) (cx : Int) (nx : Bool) (tx : ByteArray) (ex : Int) (cy : Int) (ny : Bool) (ty : ByteArray) (ey : Int) (k : Int) (w : World) (htab : Tab w) (h0 : ∀ W, Calls Tryz.prog 22 #[dcV ca na ta ea] W fun e w' => e = .returned (.tuple #[.agg #[.int .i64 cn, .bool nn, .string tn, .int .i64 en], .int .i64 0]) ∧ Below W.heap.size W w') (h1 : ∀ W, Tab W → Calls Tryz.prog 11 #[dcV ca na ta ea, .int .i64 p, .int .i64 0] W fun e w' => e = .returned (.tuple #[.agg #[.int .i64 cx, .bool nx, .string tx, .int .i64 ex], .int .i64 0]) ∧ Below W.heap.size W w') (h2 : ∀ W, Tab W → Calls Tryz.prog 11 #[.agg #[.int .i64 cn, .bool nn, .string tn, .int .i64 en], .int .i64 p, .int .i64 1] W fun e w' => e = .returned (.tuple #[.agg #[.int .i64 cy, .bool ny, .string ty, .int .i64 ey], .int .i64 0]) ∧ Below W.heap.size W w') (h3 : ∀ W, Calls Tryz.prog 22 #[.agg #[.int .i64 cx, .bool nx, .string tx, .int .i64 ex]] W fun e w' => e = .returned (.tuple #[.agg #[.int .i64 cy, .bool ny, .string ty, .int .i64 ey], .int .i64 k]) ∧ Below W.heap.size W w') : Calls Tryz.prog 8 #[dcV ca na ta ea, .int .i64 p, .int .i64 0] w fun e w' => e = .returned (.bool true) ∧ Below w.heap.size w w' := by
  have H0 := hide h0
  have H1 := hide h1
  have H2 := hide h2
  have H3 := hide h3
  have HT := hide htab
  clear htab h0 h1 h2 h3
  have Ba0 := hide (Blk.newAt w (w.heap.size) (rfl) #[.int .i64 ca, .bool na, .string ta, .int .i64 ea] 23)
  have HB0 : Hid (Below w.heap.size w (w.alloc (.cells #[.int .i64 ca, .bool na, .string ta, .int .i64 ea] 23))) := ((Below.refl _ _).alloc (Nat.le_refl _) _)
  go_enter Tryz.func8, Tryz.ntmps8
  go_wp2_with fail
  refine (rawake_any _ (HT.out.below HB0.out)).mono ?_
  rintro e w1 ⟨rfl, hb⟩
  have Ba1 := hide (Ba0.out.below hb Ba0.out.lt)
  have HB1 := hide (HB0.out.trans (hb.mono HB0.out.size))
  clear hb Ba0 HB0 
  have ya0 : w1.cell? ⟨w.heap.size, 0, none⟩ = some (.int .i64 ca) := Ba1.out.cell 0
  have ya1 : w1.cell? ⟨w.heap.size, 1, none⟩ = some (.bool na) := Ba1.out.cell 1
  have ya2 : w1.cell? ⟨w.heap.size, 2, none⟩ = some (.string ta) := Ba1.out.cell 2
  have ya3 : w1.cell? ⟨w.heap.size, 3, none⟩ = some (.int .i64 ea) := Ba1.out.cell 3
  go_wp2_with fail
  refine (H0.out _).mono ?_
  rintro e w2 ⟨rfl, hb⟩
  have Ba2 := hide (Ba1.out.below hb Ba1.out.lt)
  have HB2 := hide (HB1.out.trans (hb.mono HB1.out.size))
  clear hb Ba1 HB1 ya0 ya1 ya2 ya3
  have ya0 : w2.cell? ⟨w.heap.size, 0, none⟩ = some (.int .i64 ca) := Ba2.out.cell 0
  have ya1 : w2.cell? ⟨w.heap.size, 1, none⟩ = some (.bool na) := Ba2.out.cell 1
  have ya2 : w2.cell? ⟨w.heap.size, 2, none⟩ = some (.string ta) := Ba2.out.cell 2
  have ya3 : w2.cell? ⟨w.heap.size, 3, none⟩ = some (.int .i64 ea) := Ba2.out.cell 3
  have Ba3 := hide ((Ba2.out.alloc (.cells #[.int .i64 cn, .bool nn, .string tn, .int .i64 en] 23)))
  have Bn3 := hide ((Blk.newAt w2 (w2.heap.size) (rfl) #[.int .i64 cn, .bool nn, .string tn, .int .i64 en] 23))
  have HB3 : Hid (Below w.heap.size w (w2.alloc (.cells #[.int .i64 cn, .bool nn, .string tn, .int .i64 en] 23))) := (HB2.out.alloc HB2.out.size _)
  clear Ba2 HB2 ya0 ya1 ya2 ya3
  have ya0 : (w2.alloc (.cells #[.int .i64 cn, .bool nn, .string tn, .int .i64 en] 23)).cell? ⟨w.heap.size, 0, none⟩ = some (.int .i64 ca) := Ba3.out.cell 0
  have ya1 : (w2.alloc (.cells #[.int .i64 cn, .bool nn, .string tn, .int .i64 en] 23)).cell? ⟨w.heap.size, 1, none⟩ = some (.bool na) := Ba3.out.cell 1
  have ya2 : (w2.alloc (.cells #[.int .i64 cn, .bool nn, .string tn, .int .i64 en] 23)).cell? ⟨w.heap.size, 2, none⟩ = some (.string ta) := Ba3.out.cell 2
  have ya3 : (w2.alloc (.cells #[.int .i64 cn, .bool nn, .string tn, .int .i64 en] 23)).cell? ⟨w.heap.size, 3, none⟩ = some (.int .i64 ea) := Ba3.out.cell 3
  have yn0 : (w2.alloc (.cells #[.int .i64 cn, .bool nn, .string tn, .int .i64 en] 23)).cell? ⟨w2.heap.size, 0, none⟩ = some (.int .i64 cn) := Bn3.out.cell 0
  have yn1 : (w2.alloc (.cells #[.int .i64 cn, .bool nn, .string tn, .int .i64 en] 23)).cell? ⟨w2.heap.size, 1, none⟩ = some (.bool nn) := Bn3.out.cell 1
  have yn2 : (w2.alloc (.cells #[.int .i64 cn, .bool nn, .string tn, .int .i64 en] 23)).cell? ⟨w2.heap.size, 2, none⟩ = some (.string tn) := Bn3.out.cell 2
  have yn3 : (w2.alloc (.cells #[.int .i64 cn, .bool nn, .string tn, .int .i64 en] 23)).cell? ⟨w2.heap.size, 3, none⟩ = some (.int .i64 en) := Bn3.out.cell 3
  go_wp2_with fail
  refine (H1.out _ (HT.out.below HB3.out)).mono ?_
  rintro e w4 ⟨rfl, hb⟩
  have Ba4 := hide (Ba3.out.below hb Ba3.out.lt)
  have Bn4 := hide (Bn3.out.below hb Bn3.out.lt)
  have HB4 := hide (HB3.out.trans (hb.mono HB3.out.size))
  clear hb Ba3 Bn3 HB3 ya0 ya1 ya2 ya3 yn0 yn1 yn2 yn3
  have ya0 : w4.cell? ⟨w.heap.size, 0, none⟩ = some (.int .i64 ca) := Ba4.out.cell 0
  have ya1 : w4.cell? ⟨w.heap.size, 1, none⟩ = some (.bool na) := Ba4.out.cell 1
  have ya2 : w4.cell? ⟨w.heap.size, 2, none⟩ = some (.string ta) := Ba4.out.cell 2
  have ya3 : w4.cell? ⟨w.heap.size, 3, none⟩ = some (.int .i64 ea) := Ba4.out.cell 3
  have yn0 : w4.cell? ⟨w2.heap.size, 0, none⟩ = some (.int .i64 cn) := Bn4.out.cell 0
  have yn1 : w4.cell? ⟨w2.heap.size, 1, none⟩ = some (.bool nn) := Bn4.out.cell 1
  have yn2 : w4.cell? ⟨w2.heap.size, 2, none⟩ = some (.string tn) := Bn4.out.cell 2
  have yn3 : w4.cell? ⟨w2.heap.size, 3, none⟩ = some (.int .i64 en) := Bn4.out.cell 3
  have Ba5 := hide ((Ba4.out.alloc (.cells #[.int .i64 cx, .bool nx, .string tx, .int .i64 ex] 23)))
  have Bn5 := hide ((Bn4.out.alloc (.cells #[.int .i64 cx, .bool nx, .string tx, .int .i64 ex] 23)))
  have Bx5 := hide ((Blk.newAt w4 (w4.heap.size) (rfl) #[.int .i64 cx, .bool nx, .string tx, .int .i64 ex] 23))
  have HB5 : Hid (Below w.heap.size w (w4.alloc (.cells #[.int .i64 cx, .bool nx, .string tx, .int .i64 ex] 23))) := (HB4.out.alloc HB4.out.size _)
  clear Ba4 Bn4 HB4 ya0 ya1 ya2 ya3 yn0 yn1 yn2 yn3
  have ya0 : (w4.alloc (.cells #[.int .i64 cx, .bool nx, .string tx, .int .i64 ex] 23)).cell? ⟨w.heap.size, 0, none⟩ = some (.int .i64 ca) := Ba5.out.cell 0
  have ya1 : (w4.alloc (.cells #[.int .i64 cx, .bool nx, .string tx, .int .i64 ex] 23)).cell? ⟨w.heap.size, 1, none⟩ = some (.bool na) := Ba5.out.cell 1
  have ya2 : (w4.alloc (.cells #[.int .i64 cx, .bool nx, .string tx, .int .i64 ex] 23)).cell? ⟨w.heap.size, 2, none⟩ = some (.string ta) := Ba5.out.cell 2
  have ya3 : (w4.alloc (.cells #[.int .i64 cx, .bool nx, .string tx, .int .i64 ex] 23)).cell? ⟨w.heap.size, 3, none⟩ = some (.int .i64 ea) := Ba5.out.cell 3
  have yn0 : (w4.alloc (.cells #[.int .i64 cx, .bool nx, .string tx, .int .i64 ex] 23)).cell? ⟨w2.heap.size, 0, none⟩ = some (.int .i64 cn) := Bn5.out.cell 0
  have yn1 : (w4.alloc (.cells #[.int .i64 cx, .bool nx, .string tx, .int .i64 ex] 23)).cell? ⟨w2.heap.size, 1, none⟩ = some (.bool nn) := Bn5.out.cell 1
  have yn2 : (w4.alloc (.cells #[.int .i64 cx, .bool nx, .string tx, .int .i64 ex] 23)).cell? ⟨w2.heap.size, 2, none⟩ = some (.string tn) := Bn5.out.cell 2
  have yn3 : (w4.alloc (.cells #[.int .i64 cx, .bool nx, .string tx, .int .i64 ex] 23)).cell? ⟨w2.heap.size, 3, none⟩ = some (.int .i64 en) := Bn5.out.cell 3
  have yx0 : (w4.alloc (.cells #[.int .i64 cx, .bool nx, .string tx, .int .i64 ex] 23)).cell? ⟨w4.heap.size, 0, none⟩ = some (.int .i64 cx) := Bx5.out.cell 0
  have yx1 : (w4.alloc (.cells #[.int .i64 cx, .bool nx, .string tx, .int .i64 ex] 23)).cell? ⟨w4.heap.size, 1, none⟩ = some (.bool nx) := Bx5.out.cell 1
  have yx2 : (w4.alloc (.cells #[.int .i64 cx, .bool nx, .string tx, .int .i64 ex] 23)).cell? ⟨w4.heap.size, 2, none⟩ = some (.string tx) := Bx5.out.cell 2
  have yx3 : (w4.alloc (.cells #[.int .i64 cx, .bool nx, .string tx, .int .i64 ex] 23)).cell? ⟨w4.heap.size, 3, none⟩ = some (.int .i64 ex) := Bx5.out.cell 3
  go_wp2_with fail
  refine (H2.out _ (HT.out.below HB5.out)).mono ?_
  rintro e w6 ⟨rfl, hb⟩
  have Ba6 := hide (Ba5.out.below hb Ba5.out.lt)
  have Bn6 := hide (Bn5.out.below hb Bn5.out.lt)
  have Bx6 := hide (Bx5.out.below hb Bx5.out.lt)
  have HB6 := hide (HB5.out.trans (hb.mono HB5.out.size))
  clear hb Ba5 Bn5 Bx5 HB5 ya0 ya1 ya2 ya3 yn0 yn1 yn2 yn3 yx0 yx1 yx2 yx3
  have ya0 : w6.cell? ⟨w.heap.size, 0, none⟩ = some (.int .i64 ca) := Ba6.out.cell 0
  have ya1 : w6.cell? ⟨w.heap.size, 1, none⟩ = some (.bool na) := Ba6.out.cell 1
  have ya2 : w6.cell? ⟨w.heap.size, 2, none⟩ = some (.string ta) := Ba6.out.cell 2
  have ya3 : w6.cell? ⟨w.heap.size, 3, none⟩ = some (.int .i64 ea) := Ba6.out.cell 3
  have yn0 : w6.cell? ⟨w2.heap.size, 0, none⟩ = some (.int .i64 cn) := Bn6.out.cell 0
  have yn1 : w6.cell? ⟨w2.heap.size, 1, none⟩ = some (.bool nn) := Bn6.out.cell 1
  have yn2 : w6.cell? ⟨w2.heap.size, 2, none⟩ = some (.string tn) := Bn6.out.cell 2
  have yn3 : w6.cell? ⟨w2.heap.size, 3, none⟩ = some (.int .i64 en) := Bn6.out.cell 3
  have yx0 : w6.cell? ⟨w4.heap.size, 0, none⟩ = some (.int .i64 cx) := Bx6.out.cell 0
  have yx1 : w6.cell? ⟨w4.heap.size, 1, none⟩ = some (.bool nx) := Bx6.out.cell 1
  have yx2 : w6.cell? ⟨w4.heap.size, 2, none⟩ = some (.string tx) := Bx6.out.cell 2
  have yx3 : w6.cell? ⟨w4.heap.size, 3, none⟩ = some (.int .i64 ex) := Bx6.out.cell 3
  have Ba7 := hide ((Ba6.out.alloc (.cells #[.int .i64 cy, .bool ny, .string ty, .int .i64 ey] 23)))
  have Bn7 := hide ((Bn6.out.alloc (.cells #[.int .i64 cy, .bool ny, .string ty, .int .i64 ey] 23)))
  have Bx7 := hide ((Bx6.out.alloc (.cells #[.int .i64 cy, .bool ny, .string ty, .int .i64 ey] 23)))
  have By7 := hide ((Blk.newAt w6 (w6.heap.size) (rfl) #[.int .i64 cy, .bool ny, .string ty, .int .i64 ey] 23))
  have HB7 : Hid (Below w.heap.size w (w6.alloc (.cells #[.int .i64 cy, .bool ny, .string ty, .int .i64 ey] 23))) := (HB6.out.alloc HB6.out.size _)
  clear Ba6 Bn6 Bx6 HB6 ya0 ya1 ya2 ya3 yn0 yn1 yn2 yn3 yx0 yx1 yx2 yx3
  have ya0 : (w6.alloc (.cells #[.int .i64 cy, .bool ny, .string ty, .int .i64 ey] 23)).cell? ⟨w.heap.size, 0, none⟩ = some (.int .i64 ca) := Ba7.out.cell 0
  have ya1 : (w6.alloc (.cells #[.int .i64 cy, .bool ny, .string ty, .int .i64 ey] 23)).cell? ⟨w.heap.size, 1, none⟩ = some (.bool na) := Ba7.out.cell 1
  have ya2 : (w6.alloc (.cells #[.int .i64 cy, .bool ny, .string ty, .int .i64 ey] 23)).cell? ⟨w.heap.size, 2, none⟩ = some (.string ta) := Ba7.out.cell 2
  have ya3 : (w6.alloc (.cells #[.int .i64 cy, .bool ny, .string ty, .int .i64 ey] 23)).cell? ⟨w.heap.size, 3, none⟩ = some (.int .i64 ea) := Ba7.out.cell 3
  have yn0 : (w6.alloc (.cells #[.int .i64 cy, .bool ny, .string ty, .int .i64 ey] 23)).cell? ⟨w2.heap.size, 0, none⟩ = some (.int .i64 cn) := Bn7.out.cell 0
  have yn1 : (w6.alloc (.cells #[.int .i64 cy, .bool ny, .string ty, .int .i64 ey] 23)).cell? ⟨w2.heap.size, 1, none⟩ = some (.bool nn) := Bn7.out.cell 1
  have yn2 : (w6.alloc (.cells #[.int .i64 cy, .bool ny, .string ty, .int .i64 ey] 23)).cell? ⟨w2.heap.size, 2, none⟩ = some (.string tn) := Bn7.out.cell 2
  have yn3 : (w6.alloc (.cells #[.int .i64 cy, .bool ny, .string ty, .int .i64 ey] 23)).cell? ⟨w2.heap.size, 3, none⟩ = some (.int .i64 en) := Bn7.out.cell 3
  have yx0 : (w6.alloc (.cells #[.int .i64 cy, .bool ny, .string ty, .int .i64 ey] 23)).cell? ⟨w4.heap.size, 0, none⟩ = some (.int .i64 cx) := Bx7.out.cell 0
  have yx1 : (w6.alloc (.cells #[.int .i64 cy, .bool ny, .string ty, .int .i64 ey] 23)).cell? ⟨w4.heap.size, 1, none⟩ = some (.bool nx) := Bx7.out.cell 1
  have yx2 : (w6.alloc (.cells #[.int .i64 cy, .bool ny, .string ty, .int .i64 ey] 23)).cell? ⟨w4.heap.size, 2, none⟩ = some (.string tx) := Bx7.out.cell 2
  have yx3 : (w6.alloc (.cells #[.int .i64 cy, .bool ny, .string ty, .int .i64 ey] 23)).cell? ⟨w4.heap.size, 3, none⟩ = some (.int .i64 ex) := Bx7.out.cell 3
  have yy0 : (w6.alloc (.cells #[.int .i64 cy, .bool ny, .string ty, .int .i64 ey] 23)).cell? ⟨w6.heap.size, 0, none⟩ = some (.int .i64 cy) := By7.out.cell 0
  have yy1 : (w6.alloc (.cells #[.int .i64 cy, .bool ny, .string ty, .int .i64 ey] 23)).cell? ⟨w6.heap.size, 1, none⟩ = some (.bool ny) := By7.out.cell 1
  have yy2 : (w6.alloc (.cells #[.int .i64 cy, .bool ny, .string ty, .int .i64 ey] 23)).cell? ⟨w6.heap.size, 2, none⟩ = some (.string ty) := By7.out.cell 2
  have yy3 : (w6.alloc (.cells #[.int .i64 cy, .bool ny, .string ty, .int .i64 ey] 23)).cell? ⟨w6.heap.size, 3, none⟩ = some (.int .i64 ey) := By7.out.cell 3
  go_wp2_with fail
  refine (H3.out _).mono ?_
  rintro e w8 ⟨rfl, hb⟩
  have Ba8 := hide (Ba7.out.below hb Ba7.out.lt)
  have Bn8 := hide (Bn7.out.below hb Bn7.out.lt)
  have Bx8 := hide (Bx7.out.below hb Bx7.out.lt)
  have By8 := hide (By7.out.below hb By7.out.lt)
  have HB8 := hide (HB7.out.trans (hb.mono HB7.out.size))
  clear hb Ba7 Bn7 Bx7 By7 HB7 ya0 ya1 ya2 ya3 yn0 yn1 yn2 yn3 yx0 yx1 yx2 yx3 yy0 yy1 yy2 yy3
  have ya0 : w8.cell? ⟨w.heap.size, 0, none⟩ = some (.int .i64 ca) := Ba8.out.cell 0
  have ya1 : w8.cell? ⟨w.heap.size, 1, none⟩ = some (.bool na) := Ba8.out.cell 1
  have ya2 : w8.cell? ⟨w.heap.size, 2, none⟩ = some (.string ta) := Ba8.out.cell 2
  have ya3 : w8.cell? ⟨w.heap.size, 3, none⟩ = some (.int .i64 ea) := Ba8.out.cell 3
  have yn0 : w8.cell? ⟨w2.heap.size, 0, none⟩ = some (.int .i64 cn) := Bn8.out.cell 0
  have yn1 : w8.cell? ⟨w2.heap.size, 1, none⟩ = some (.bool nn) := Bn8.out.cell 1
  have yn2 : w8.cell? ⟨w2.heap.size, 2, none⟩ = some (.string tn) := Bn8.out.cell 2
  have yn3 : w8.cell? ⟨w2.heap.size, 3, none⟩ = some (.int .i64 en) := Bn8.out.cell 3
  have yx0 : w8.cell? ⟨w4.heap.size, 0, none⟩ = some (.int .i64 cx) := Bx8.out.cell 0
  have yx1 : w8.cell? ⟨w4.heap.size, 1, none⟩ = some (.bool nx) := Bx8.out.cell 1
  have yx2 : w8.cell? ⟨w4.heap.size, 2, none⟩ = some (.string tx) := Bx8.out.cell 2
  have yx3 : w8.cell? ⟨w4.heap.size, 3, none⟩ = some (.int .i64 ex) := Bx8.out.cell 3
  have yy0 : w8.cell? ⟨w6.heap.size, 0, none⟩ = some (.int .i64 cy) := By8.out.cell 0
  have yy1 : w8.cell? ⟨w6.heap.size, 1, none⟩ = some (.bool ny) := By8.out.cell 1
  have yy2 : w8.cell? ⟨w6.heap.size, 2, none⟩ = some (.string ty) := By8.out.cell 2
  have yy3 : w8.cell? ⟨w6.heap.size, 3, none⟩ = some (.int .i64 ey) := By8.out.cell 3
  have Ba9 := hide ((Ba8.out.alloc (.cells #[.int .i64 cy, .bool ny, .string ty, .int .i64 ey] 23)))
  have Bn9 := hide ((Bn8.out.alloc (.cells #[.int .i64 cy, .bool ny, .string ty, .int .i64 ey] 23)))
  have Bx9 := hide ((Bx8.out.alloc (.cells #[.int .i64 cy, .bool ny, .string ty, .int .i64 ey] 23)))
  have By9 := hide ((By8.out.alloc (.cells #[.int .i64 cy, .bool ny, .string ty, .int .i64 ey] 23)))
  have Bz9 := hide ((Blk.newAt w8 (w8.heap.size) (rfl) #[.int .i64 cy, .bool ny, .string ty, .int .i64 ey] 23))
  have HB9 : Hid (Below w.heap.size w (w8.alloc (.cells #[.int .i64 cy, .bool ny, .string ty, .int .i64 ey] 23))) := (HB8.out.alloc HB8.out.size _)
  clear Ba8 Bn8 Bx8 By8 HB8 ya0 ya1 ya2 ya3 yn0 yn1 yn2 yn3 yx0 yx1 yx2 yx3 yy0 yy1 yy2 yy3
  have ya0 : (w8.alloc (.cells #[.int .i64 cy, .bool ny, .string ty, .int .i64 ey] 23)).cell? ⟨w.heap.size, 0, none⟩ = some (.int .i64 ca) := Ba9.out.cell 0
  have ya1 : (w8.alloc (.cells #[.int .i64 cy, .bool ny, .string ty, .int .i64 ey] 23)).cell? ⟨w.heap.size, 1, none⟩ = some (.bool na) := Ba9.out.cell 1
  have ya2 : (w8.alloc (.cells #[.int .i64 cy, .bool ny, .string ty, .int .i64 ey] 23)).cell? ⟨w.heap.size, 2, none⟩ = some (.string ta) := Ba9.out.cell 2
  have ya3 : (w8.alloc (.cells #[.int .i64 cy, .bool ny, .string ty, .int .i64 ey] 23)).cell? ⟨w.heap.size, 3, none⟩ = some (.int .i64 ea) := Ba9.out.cell 3
  have yn0 : (w8.alloc (.cells #[.int .i64 cy, .bool ny, .string ty, .int .i64 ey] 23)).cell? ⟨w2.heap.size, 0, none⟩ = some (.int .i64 cn) := Bn9.out.cell 0
  have yn1 : (w8.alloc (.cells #[.int .i64 cy, .bool ny, .string ty, .int .i64 ey] 23)).cell? ⟨w2.heap.size, 1, none⟩ = some (.bool nn) := Bn9.out.cell 1
  have yn2 : (w8.alloc (.cells #[.int .i64 cy, .bool ny, .string ty, .int .i64 ey] 23)).cell? ⟨w2.heap.size, 2, none⟩ = some (.string tn) := Bn9.out.cell 2
  have yn3 : (w8.alloc (.cells #[.int .i64 cy, .bool ny, .string ty, .int .i64 ey] 23)).cell? ⟨w2.heap.size, 3, none⟩ = some (.int .i64 en) := Bn9.out.cell 3
  have yx0 : (w8.alloc (.cells #[.int .i64 cy, .bool ny, .string ty, .int .i64 ey] 23)).cell? ⟨w4.heap.size, 0, none⟩ = some (.int .i64 cx) := Bx9.out.cell 0
  have yx1 : (w8.alloc (.cells #[.int .i64 cy, .bool ny, .string ty, .int .i64 ey] 23)).cell? ⟨w4.heap.size, 1, none⟩ = some (.bool nx) := Bx9.out.cell 1
  have yx2 : (w8.alloc (.cells #[.int .i64 cy, .bool ny, .string ty, .int .i64 ey] 23)).cell? ⟨w4.heap.size, 2, none⟩ = some (.string tx) := Bx9.out.cell 2
  have yx3 : (w8.alloc (.cells #[.int .i64 cy, .bool ny, .string ty, .int .i64 ey] 23)).cell? ⟨w4.heap.size, 3, none⟩ = some (.int .i64 ex) := Bx9.out.cell 3
  have yy0 : (w8.alloc (.cells #[.int .i64 cy, .bool ny, .string ty, .int .i64 ey] 23)).cell? ⟨w6.heap.size, 0, none⟩ = some (.int .i64 cy) := By9.out.cell 0
  have yy1 : (w8.alloc (.cells #[.int .i64 cy, .bool ny, .string ty, .int .i64 ey] 23)).cell? ⟨w6.heap.size, 1, none⟩ = some (.bool ny) := By9.out.cell 1
  have yy2 : (w8.alloc (.cells #[.int .i64 cy, .bool ny, .string ty, .int .i64 ey] 23)).cell? ⟨w6.heap.size, 2, none⟩ = some (.string ty) := By9.out.cell 2
  have yy3 : (w8.alloc (.cells #[.int .i64 cy, .bool ny, .string ty, .int .i64 ey] 23)).cell? ⟨w6.heap.size, 3, none⟩ = some (.int .i64 ey) := By9.out.cell 3
  have yz0 : (w8.alloc (.cells #[.int .i64 cy, .bool ny, .string ty, .int .i64 ey] 23)).cell? ⟨w8.heap.size, 0, none⟩ = some (.int .i64 cy) := Bz9.out.cell 0
  have yz1 : (w8.alloc (.cells #[.int .i64 cy, .bool ny, .string ty, .int .i64 ey] 23)).cell? ⟨w8.heap.size, 1, none⟩ = some (.bool ny) := Bz9.out.cell 1
  have yz2 : (w8.alloc (.cells #[.int .i64 cy, .bool ny, .string ty, .int .i64 ey] 23)).cell? ⟨w8.heap.size, 2, none⟩ = some (.string ty) := Bz9.out.cell 2
  have yz3 : (w8.alloc (.cells #[.int .i64 cy, .bool ny, .string ty, .int .i64 ey] 23)).cell? ⟨w8.heap.size, 3, none⟩ = some (.int .i64 ey) := Bz9.out.cell 3
  go_wp2
  go_ret
  exact ⟨rfl, HB9.out⟩

set_option maxRecDepth 100000 in
set_option maxHeartbeats 4000000 in
theorem signs_1_no (ca : Int) (na : Bool) (ta : ByteArray) (ea : Int) (p : Int) (cn : Int) (nn : Bool) (tn : ByteArray) (en : Int) (cx : Int) (nx : Bool) (tx : ByteArray) (ex : Int) (cy : Int) (ny : Bool) (ty : ByteArray) (ey : Int) (g : Int) (w : World) (htab : Tab w) (h0 : ∀ W, Calls Tryz.prog 22 #[dcV ca na ta ea] W fun e w' => e = .returned (.tuple #[.agg #[.int .i64 cn, .bool nn, .string tn, .int .i64 en], .int .i64 52]) ∧ Below W.heap.size W w') (h1 : ∀ W, Tab W → Calls Tryz.prog 11 #[dcV ca na ta ea, .int .i64 p, .int .i64 1] W fun e w' => e = .returned (.tuple #[.agg #[.int .i64 cx, .bool nx, .string tx, .int .i64 ex], .int .i64 52]) ∧ Below W.heap.size W w') (h2 : ∀ W, Tab W → Calls Tryz.prog 11 #[.agg #[.int .i64 cn, .bool nn, .string tn, .int .i64 en], .int .i64 p, .int .i64 0] W fun e w' => e = .returned (.tuple #[.agg #[.int .i64 cy, .bool ny, .string ty, .int .i64 ey], .int .i64 g]) ∧ Below W.heap.size W w') : Calls Tryz.prog 8 #[dcV ca na ta ea, .int .i64 p, .int .i64 1] w fun e w' => e = .returned (.bool true) ∧ Below w.heap.size w w' := by
  have H0 := hide h0
  have H1 := hide h1
  have H2 := hide h2
  have HT := hide htab
  clear htab h0 h1 h2
  have Ba0 := hide (Blk.newAt w (w.heap.size) (rfl) #[.int .i64 ca, .bool na, .string ta, .int .i64 ea] 23)
  have HB0 : Hid (Below w.heap.size w (w.alloc (.cells #[.int .i64 ca, .bool na, .string ta, .int .i64 ea] 23))) := ((Below.refl _ _).alloc (Nat.le_refl _) _)
  go_enter Tryz.func8, Tryz.ntmps8
  go_wp2_with fail
  refine (rawake_any _ (HT.out.below HB0.out)).mono ?_
  rintro e w1 ⟨rfl, hb⟩
  have Ba1 := hide (Ba0.out.below hb Ba0.out.lt)
  have HB1 := hide (HB0.out.trans (hb.mono HB0.out.size))
  clear hb Ba0 HB0 
  have ya0 : w1.cell? ⟨w.heap.size, 0, none⟩ = some (.int .i64 ca) := Ba1.out.cell 0
  have ya1 : w1.cell? ⟨w.heap.size, 1, none⟩ = some (.bool na) := Ba1.out.cell 1
  have ya2 : w1.cell? ⟨w.heap.size, 2, none⟩ = some (.string ta) := Ba1.out.cell 2
  have ya3 : w1.cell? ⟨w.heap.size, 3, none⟩ = some (.int .i64 ea) := Ba1.out.cell 3
  go_wp2_with fail
  refine (H0.out _).mono ?_
  rintro e w2 ⟨rfl, hb⟩
  have Ba2 := hide (Ba1.out.below hb Ba1.out.lt)
  have HB2 := hide (HB1.out.trans (hb.mono HB1.out.size))
  clear hb Ba1 HB1 ya0 ya1 ya2 ya3
  have ya0 : w2.cell? ⟨w.heap.size, 0, none⟩ = some (.int .i64 ca) := Ba2.out.cell 0
  have ya1 : w2.cell? ⟨w.heap.size, 1, none⟩ = some (.bool na) := Ba2.out.cell 1
  have ya2 : w2.cell? ⟨w.heap.size, 2, none⟩ = some (.string ta) := Ba2.out.cell 2
  have ya3 : w2.cell? ⟨w.heap.size, 3, none⟩ = some (.int .i64 ea) := Ba2.out.cell 3
  have Ba3 := hide ((Ba2.out.alloc (.cells #[.int .i64 cn, .bool nn, .string tn, .int .i64 en] 23)))
  have Bn3 := hide ((Blk.newAt w2 (w2.heap.size) (rfl) #[.int .i64 cn, .bool nn, .string tn, .int .i64 en] 23))
  have HB3 : Hid (Below w.heap.size w (w2.alloc (.cells #[.int .i64 cn, .bool nn, .string tn, .int .i64 en] 23))) := (HB2.out.alloc HB2.out.size _)
  clear Ba2 HB2 ya0 ya1 ya2 ya3
  have ya0 : (w2.alloc (.cells #[.int .i64 cn, .bool nn, .string tn, .int .i64 en] 23)).cell? ⟨w.heap.size, 0, none⟩ = some (.int .i64 ca) := Ba3.out.cell 0
  have ya1 : (w2.alloc (.cells #[.int .i64 cn, .bool nn, .string tn, .int .i64 en] 23)).cell? ⟨w.heap.size, 1, none⟩ = some (.bool na) := Ba3.out.cell 1
  have ya2 : (w2.alloc (.cells #[.int .i64 cn, .bool nn, .string tn, .int .i64 en] 23)).cell? ⟨w.heap.size, 2, none⟩ = some (.string ta) := Ba3.out.cell 2
  have ya3 : (w2.alloc (.cells #[.int .i64 cn, .bool nn, .string tn, .int .i64 en] 23)).cell? ⟨w.heap.size, 3, none⟩ = some (.int .i64 ea) := Ba3.out.cell 3
  have yn0 : (w2.alloc (.cells #[.int .i64 cn, .bool nn, .string tn, .int .i64 en] 23)).cell? ⟨w2.heap.size, 0, none⟩ = some (.int .i64 cn) := Bn3.out.cell 0
  have yn1 : (w2.alloc (.cells #[.int .i64 cn, .bool nn, .string tn, .int .i64 en] 23)).cell? ⟨w2.heap.size, 1, none⟩ = some (.bool nn) := Bn3.out.cell 1
  have yn2 : (w2.alloc (.cells #[.int .i64 cn, .bool nn, .string tn, .int .i64 en] 23)).cell? ⟨w2.heap.size, 2, none⟩ = some (.string tn) := Bn3.out.cell 2
  have yn3 : (w2.alloc (.cells #[.int .i64 cn, .bool nn, .string tn, .int .i64 en] 23)).cell? ⟨w2.heap.size, 3, none⟩ = some (.int .i64 en) := Bn3.out.cell 3
  go_wp2_with fail
  refine (H1.out _ (HT.out.below HB3.out)).mono ?_
  rintro e w4 ⟨rfl, hb⟩
  have Ba4 := hide (Ba3.out.below hb Ba3.out.lt)
  have Bn4 := hide (Bn3.out.below hb Bn3.out.lt)
  have HB4 := hide (HB3.out.trans (hb.mono HB3.out.size))
  clear hb Ba3 Bn3 HB3 ya0 ya1 ya2 ya3 yn0 yn1 yn2 yn3
  have ya0 : w4.cell? ⟨w.heap.size, 0, none⟩ = some (.int .i64 ca) := Ba4.out.cell 0
  have ya1 : w4.cell? ⟨w.heap.size, 1, none⟩ = some (.bool na) := Ba4.out.cell 1
  have ya2 : w4.cell? ⟨w.heap.size, 2, none⟩ = some (.string ta) := Ba4.out.cell 2
  have ya3 : w4.cell? ⟨w.heap.size, 3, none⟩ = some (.int .i64 ea) := Ba4.out.cell 3
  have yn0 : w4.cell? ⟨w2.heap.size, 0, none⟩ = some (.int .i64 cn) := Bn4.out.cell 0
  have yn1 : w4.cell? ⟨w2.heap.size, 1, none⟩ = some (.bool nn) := Bn4.out.cell 1
  have yn2 : w4.cell? ⟨w2.heap.size, 2, none⟩ = some (.string tn) := Bn4.out.cell 2
  have yn3 : w4.cell? ⟨w2.heap.size, 3, none⟩ = some (.int .i64 en) := Bn4.out.cell 3
  have Ba5 := hide ((Ba4.out.alloc (.cells #[.int .i64 cx, .bool nx, .string tx, .int .i64 ex] 23)))
  have Bn5 := hide ((Bn4.out.alloc (.cells #[.int .i64 cx, .bool nx, .string tx, .int .i64 ex] 23)))
  have Bx5 := hide ((Blk.newAt w4 (w4.heap.size) (rfl) #[.int .i64 cx, .bool nx, .string tx, .int .i64 ex] 23))
  have HB5 : Hid (Below w.heap.size w (w4.alloc (.cells #[.int .i64 cx, .bool nx, .string tx, .int .i64 ex] 23))) := (HB4.out.alloc HB4.out.size _)
  clear Ba4 Bn4 HB4 ya0 ya1 ya2 ya3 yn0 yn1 yn2 yn3
  have ya0 : (w4.alloc (.cells #[.int .i64 cx, .bool nx, .string tx, .int .i64 ex] 23)).cell? ⟨w.heap.size, 0, none⟩ = some (.int .i64 ca) := Ba5.out.cell 0
  have ya1 : (w4.alloc (.cells #[.int .i64 cx, .bool nx, .string tx, .int .i64 ex] 23)).cell? ⟨w.heap.size, 1, none⟩ = some (.bool na) := Ba5.out.cell 1
  have ya2 : (w4.alloc (.cells #[.int .i64 cx, .bool nx, .string tx, .int .i64 ex] 23)).cell? ⟨w.heap.size, 2, none⟩ = some (.string ta) := Ba5.out.cell 2
  have ya3 : (w4.alloc (.cells #[.int .i64 cx, .bool nx, .string tx, .int .i64 ex] 23)).cell? ⟨w.heap.size, 3, none⟩ = some (.int .i64 ea) := Ba5.out.cell 3
  have yn0 : (w4.alloc (.cells #[.int .i64 cx, .bool nx, .string tx, .int .i64 ex] 23)).cell? ⟨w2.heap.size, 0, none⟩ = some (.int .i64 cn) := Bn5.out.cell 0
  have yn1 : (w4.alloc (.cells #[.int .i64 cx, .bool nx, .string tx, .int .i64 ex] 23)).cell? ⟨w2.heap.size, 1, none⟩ = some (.bool nn) := Bn5.out.cell 1
  have yn2 : (w4.alloc (.cells #[.int .i64 cx, .bool nx, .string tx, .int .i64 ex] 23)).cell? ⟨w2.heap.size, 2, none⟩ = some (.string tn) := Bn5.out.cell 2
  have yn3 : (w4.alloc (.cells #[.int .i64 cx, .bool nx, .string tx, .int .i64 ex] 23)).cell? ⟨w2.heap.size, 3, none⟩ = some (.int .i64 en) := Bn5.out.cell 3
  have yx0 : (w4.alloc (.cells #[.int .i64 cx, .bool nx, .string tx, .int .i64 ex] 23)).cell? ⟨w4.heap.size, 0, none⟩ = some (.int .i64 cx) := Bx5.out.cell 0
  have yx1 : (w4.alloc (.cells #[.int .i64 cx, .bool nx, .string tx, .int .i64 ex] 23)).cell? ⟨w4.heap.size, 1, none⟩ = some (.bool nx) := Bx5.out.cell 1
  have yx2 : (w4.alloc (.cells #[.int .i64 cx, .bool nx, .string tx, .int .i64 ex] 23)).cell? ⟨w4.heap.size, 2, none⟩ = some (.string tx) := Bx5.out.cell 2
  have yx3 : (w4.alloc (.cells #[.int .i64 cx, .bool nx, .string tx, .int .i64 ex] 23)).cell? ⟨w4.heap.size, 3, none⟩ = some (.int .i64 ex) := Bx5.out.cell 3
  go_wp2_with fail
  refine (H2.out _ (HT.out.below HB5.out)).mono ?_
  rintro e w6 ⟨rfl, hb⟩
  have Ba6 := hide (Ba5.out.below hb Ba5.out.lt)
  have Bn6 := hide (Bn5.out.below hb Bn5.out.lt)
  have Bx6 := hide (Bx5.out.below hb Bx5.out.lt)
  have HB6 := hide (HB5.out.trans (hb.mono HB5.out.size))
  clear hb Ba5 Bn5 Bx5 HB5 ya0 ya1 ya2 ya3 yn0 yn1 yn2 yn3 yx0 yx1 yx2 yx3
  have ya0 : w6.cell? ⟨w.heap.size, 0, none⟩ = some (.int .i64 ca) := Ba6.out.cell 0
  have ya1 : w6.cell? ⟨w.heap.size, 1, none⟩ = some (.bool na) := Ba6.out.cell 1
  have ya2 : w6.cell? ⟨w.heap.size, 2, none⟩ = some (.string ta) := Ba6.out.cell 2
  have ya3 : w6.cell? ⟨w.heap.size, 3, none⟩ = some (.int .i64 ea) := Ba6.out.cell 3
  have yn0 : w6.cell? ⟨w2.heap.size, 0, none⟩ = some (.int .i64 cn) := Bn6.out.cell 0
  have yn1 : w6.cell? ⟨w2.heap.size, 1, none⟩ = some (.bool nn) := Bn6.out.cell 1
  have yn2 : w6.cell? ⟨w2.heap.size, 2, none⟩ = some (.string tn) := Bn6.out.cell 2
  have yn3 : w6.cell? ⟨w2.heap.size, 3, none⟩ = some (.int .i64 en) := Bn6.out.cell 3
  have yx0 : w6.cell? ⟨w4.heap.size, 0, none⟩ = some (.int .i64 cx) := Bx6.out.cell 0
  have yx1 : w6.cell? ⟨w4.heap.size, 1, none⟩ = some (.bool nx) := Bx6.out.cell 1
  have yx2 : w6.cell? ⟨w4.heap.size, 2, none⟩ = some (.string tx) := Bx6.out.cell 2
  have yx3 : w6.cell? ⟨w4.heap.size, 3, none⟩ = some (.int .i64 ex) := Bx6.out.cell 3
  have Ba7 := hide ((Ba6.out.alloc (.cells #[.int .i64 cy, .bool ny, .string ty, .int .i64 ey] 23)))
  have Bn7 := hide ((Bn6.out.alloc (.cells #[.int .i64 cy, .bool ny, .string ty, .int .i64 ey] 23)))
  have Bx7 := hide ((Bx6.out.alloc (.cells #[.int .i64 cy, .bool ny, .string ty, .int .i64 ey] 23)))
  have By7 := hide ((Blk.newAt w6 (w6.heap.size) (rfl) #[.int .i64 cy, .bool ny, .string ty, .int .i64 ey] 23))
  have HB7 : Hid (Below w.heap.size w (w6.alloc (.cells #[.int .i64 cy, .bool ny, .string ty, .int .i64 ey] 23))) := (HB6.out.alloc HB6.out.size _)
  clear Ba6 Bn6 Bx6 HB6 ya0 ya1 ya2 ya3 yn0 yn1 yn2 yn3 yx0 yx1 yx2 yx3
  have ya0 : (w6.alloc (.cells #[.int .i64 cy, .bool ny, .string ty, .int .i64 ey] 23)).cell? ⟨w.heap.size, 0, none⟩ = some (.int .i64 ca) := Ba7.out.cell 0
  have ya1 : (w6.alloc (.cells #[.int .i64 cy, .bool ny, .string ty, .int .i64 ey] 23)).cell? ⟨w.heap.size, 1, none⟩ = some (.bool na) := Ba7.out.cell 1
  have ya2 : (w6.alloc (.cells #[.int .i64 cy, .bool ny, .string ty, .int .i64 ey] 23)).cell? ⟨w.heap.size, 2, none⟩ = some (.string ta) := Ba7.out.cell 2
  have ya3 : (w6.alloc (.cells #[.int .i64 cy, .bool ny, .string ty, .int .i64 ey] 23)).cell? ⟨w.heap.size, 3, none⟩ = some (.int .i64 ea) := Ba7.out.cell 3
  have yn0 : (w6.alloc (.cells #[.int .i64 cy, .bool ny, .string ty, .int .i64 ey] 23)).cell? ⟨w2.heap.size, 0, none⟩ = some (.int .i64 cn) := Bn7.out.cell 0
  have yn1 : (w6.alloc (.cells #[.int .i64 cy, .bool ny, .string ty, .int .i64 ey] 23)).cell? ⟨w2.heap.size, 1, none⟩ = some (.bool nn) := Bn7.out.cell 1
  have yn2 : (w6.alloc (.cells #[.int .i64 cy, .bool ny, .string ty, .int .i64 ey] 23)).cell? ⟨w2.heap.size, 2, none⟩ = some (.string tn) := Bn7.out.cell 2
  have yn3 : (w6.alloc (.cells #[.int .i64 cy, .bool ny, .string ty, .int .i64 ey] 23)).cell? ⟨w2.heap.size, 3, none⟩ = some (.int .i64 en) := Bn7.out.cell 3
  have yx0 : (w6.alloc (.cells #[.int .i64 cy, .bool ny, .string ty, .int .i64 ey] 23)).cell? ⟨w4.heap.size, 0, none⟩ = some (.int .i64 cx) := Bx7.out.cell 0
  have yx1 : (w6.alloc (.cells #[.int .i64 cy, .bool ny, .string ty, .int .i64 ey] 23)).cell? ⟨w4.heap.size, 1, none⟩ = some (.bool nx) := Bx7.out.cell 1
  have yx2 : (w6.alloc (.cells #[.int .i64 cy, .bool ny, .string ty, .int .i64 ey] 23)).cell? ⟨w4.heap.size, 2, none⟩ = some (.string tx) := Bx7.out.cell 2
  have yx3 : (w6.alloc (.cells #[.int .i64 cy, .bool ny, .string ty, .int .i64 ey] 23)).cell? ⟨w4.heap.size, 3, none⟩ = some (.int .i64 ex) := Bx7.out.cell 3
  have yy0 : (w6.alloc (.cells #[.int .i64 cy, .bool ny, .string ty, .int .i64 ey] 23)).cell? ⟨w6.heap.size, 0, none⟩ = some (.int .i64 cy) := By7.out.cell 0
  have yy1 : (w6.alloc (.cells #[.int .i64 cy, .bool ny, .string ty, .int .i64 ey] 23)).cell? ⟨w6.heap.size, 1, none⟩ = some (.bool ny) := By7.out.cell 1
  have yy2 : (w6.alloc (.cells #[.int .i64 cy, .bool ny, .string ty, .int .i64 ey] 23)).cell? ⟨w6.heap.size, 2, none⟩ = some (.string ty) := By7.out.cell 2
  have yy3 : (w6.alloc (.cells #[.int .i64 cy, .bool ny, .string ty, .int .i64 ey] 23)).cell? ⟨w6.heap.size, 3, none⟩ = some (.int .i64 ey) := By7.out.cell 3
  go_wp2
  go_ret
  exact ⟨rfl, HB7.out⟩

set_option maxRecDepth 100000 in
set_option maxHeartbeats 4000000 in
theorem signs_1_bad (ca : Int) (na : Bool) (ta : ByteArray) (ea : Int) (p : Int) (cn : Int) (nn : Bool) (tn : ByteArray) (en : Int) (cx : Int) (nx : Bool) (tx : ByteArray) (ex : Int) (cy : Int) (ny : Bool) (ty : ByteArray) (ey : Int) (cz : Int) (nz : Bool) (tz : ByteArray) (ez : Int) (f : Int) (k : Int) (w : World) (htab : Tab w) (h0 : ∀ W, Calls Tryz.prog 22 #[dcV ca na ta ea] W fun e w' => e = .returned (.tuple #[.agg #[.int .i64 cn, .bool nn, .string tn, .int .i64 en], .int .i64 0]) ∧ Below W.heap.size W w') (h1 : ∀ W, Tab W → Calls Tryz.prog 11 #[dcV ca na ta ea, .int .i64 p, .int .i64 1] W fun e w' => e = .returned (.tuple #[.agg #[.int .i64 cx, .bool nx, .string tx, .int .i64 ex], .int .i64 f]) ∧ Below W.heap.size W w') (h2 : ∀ W, Tab W → Calls Tryz.prog 11 #[.agg #[.int .i64 cn, .bool nn, .string tn, .int .i64 en], .int .i64 p, .int .i64 0] W fun e w' => e = .returned (.tuple #[.agg #[.int .i64 cy, .bool ny, .string ty, .int .i64 ey], .int .i64 f]) ∧ Below W.heap.size W w') (h3 : ∀ W, Calls Tryz.prog 22 #[.agg #[.int .i64 cx, .bool nx, .string tx, .int .i64 ex]] W fun e w' => e = .returned (.tuple #[.agg #[.int .i64 cz, .bool nz, .string tz, .int .i64 ez], .int .i64 k]) ∧ Below W.heap.size W w') (hf : ¬ f = 0) : Calls Tryz.prog 8 #[dcV ca na ta ea, .int .i64 p, .int .i64 1] w fun e w' => e = .returned (.bool true) ∧ Below w.heap.size w w' := by
  have q2 : (f != 0) = true := by simpa using hf
  clear hf
  have H0 := hide h0
  have H1 := hide h1
  have H2 := hide h2
  have H3 := hide h3
  have HT := hide htab
  clear htab h0 h1 h2 h3
  have Ba0 := hide (Blk.newAt w (w.heap.size) (rfl) #[.int .i64 ca, .bool na, .string ta, .int .i64 ea] 23)
  have HB0 : Hid (Below w.heap.size w (w.alloc (.cells #[.int .i64 ca, .bool na, .string ta, .int .i64 ea] 23))) := ((Below.refl _ _).alloc (Nat.le_refl _) _)
  go_enter Tryz.func8, Tryz.ntmps8
  go_wp2_with fail
  refine (rawake_any _ (HT.out.below HB0.out)).mono ?_
  rintro e w1 ⟨rfl, hb⟩
  have Ba1 := hide (Ba0.out.below hb Ba0.out.lt)
  have HB1 := hide (HB0.out.trans (hb.mono HB0.out.size))
  clear hb Ba0 HB0 
  have ya0 : w1.cell? ⟨w.heap.size, 0, none⟩ = some (.int .i64 ca) := Ba1.out.cell 0
  have ya1 : w1.cell? ⟨w.heap.size, 1, none⟩ = some (.bool na) := Ba1.out.cell 1
  have ya2 : w1.cell? ⟨w.heap.size, 2, none⟩ = some (.string ta) := Ba1.out.cell 2
  have ya3 : w1.cell? ⟨w.heap.size, 3, none⟩ = some (.int .i64 ea) := Ba1.out.cell 3
  go_wp2_with fail
  refine (H0.out _).mono ?_
  rintro e w2 ⟨rfl, hb⟩
  have Ba2 := hide (Ba1.out.below hb Ba1.out.lt)
  have HB2 := hide (HB1.out.trans (hb.mono HB1.out.size))
  clear hb Ba1 HB1 ya0 ya1 ya2 ya3
  have ya0 : w2.cell? ⟨w.heap.size, 0, none⟩ = some (.int .i64 ca) := Ba2.out.cell 0
  have ya1 : w2.cell? ⟨w.heap.size, 1, none⟩ = some (.bool na) := Ba2.out.cell 1
  have ya2 : w2.cell? ⟨w.heap.size, 2, none⟩ = some (.string ta) := Ba2.out.cell 2
  have ya3 : w2.cell? ⟨w.heap.size, 3, none⟩ = some (.int .i64 ea) := Ba2.out.cell 3
  have Ba3 := hide ((Ba2.out.alloc (.cells #[.int .i64 cn, .bool nn, .string tn, .int .i64 en] 23)))
  have Bn3 := hide ((Blk.newAt w2 (w2.heap.size) (rfl) #[.int .i64 cn, .bool nn, .string tn, .int .i64 en] 23))
  have HB3 : Hid (Below w.heap.size w (w2.alloc (.cells #[.int .i64 cn, .bool nn, .string tn, .int .i64 en] 23))) := (HB2.out.alloc HB2.out.size _)
  clear Ba2 HB2 ya0 ya1 ya2 ya3
  have ya0 : (w2.alloc (.cells #[.int .i64 cn, .bool nn, .string tn, .int .i64 en] 23)).cell? ⟨w.heap.size, 0, none⟩ = some (.int .i64 ca) := Ba3.out.cell 0
  have ya1 : (w2.alloc (.cells #[.int .i64 cn, .bool nn, .string tn, .int .i64 en] 23)).cell? ⟨w.heap.size, 1, none⟩ = some (.bool na) := Ba3.out.cell 1
  have ya2 : (w2.alloc (.cells #[.int .i64 cn, .bool nn, .string tn, .int .i64 en] 23)).cell? ⟨w.heap.size, 2, none⟩ = some (.string ta) := Ba3.out.cell 2
  have ya3 : (w2.alloc (.cells #[.int .i64 cn, .bool nn, .string tn, .int .i64 en] 23)).cell? ⟨w.heap.size, 3, none⟩ = some (.int .i64 ea) := Ba3.out.cell 3
  have yn0 : (w2.alloc (.cells #[.int .i64 cn, .bool nn, .string tn, .int .i64 en] 23)).cell? ⟨w2.heap.size, 0, none⟩ = some (.int .i64 cn) := Bn3.out.cell 0
  have yn1 : (w2.alloc (.cells #[.int .i64 cn, .bool nn, .string tn, .int .i64 en] 23)).cell? ⟨w2.heap.size, 1, none⟩ = some (.bool nn) := Bn3.out.cell 1
  have yn2 : (w2.alloc (.cells #[.int .i64 cn, .bool nn, .string tn, .int .i64 en] 23)).cell? ⟨w2.heap.size, 2, none⟩ = some (.string tn) := Bn3.out.cell 2
  have yn3 : (w2.alloc (.cells #[.int .i64 cn, .bool nn, .string tn, .int .i64 en] 23)).cell? ⟨w2.heap.size, 3, none⟩ = some (.int .i64 en) := Bn3.out.cell 3
  go_wp2_with fail
  refine (H1.out _ (HT.out.below HB3.out)).mono ?_
  rintro e w4 ⟨rfl, hb⟩
  have Ba4 := hide (Ba3.out.below hb Ba3.out.lt)
  have Bn4 := hide (Bn3.out.below hb Bn3.out.lt)
  have HB4 := hide (HB3.out.trans (hb.mono HB3.out.size))
  clear hb Ba3 Bn3 HB3 ya0 ya1 ya2 ya3 yn0 yn1 yn2 yn3
  have ya0 : w4.cell? ⟨w.heap.size, 0, none⟩ = some (.int .i64 ca) := Ba4.out.cell 0
  have ya1 : w4.cell? ⟨w.heap.size, 1, none⟩ = some (.bool na) := Ba4.out.cell 1
  have ya2 : w4.cell? ⟨w.heap.size, 2, none⟩ = some (.string ta) := Ba4.out.cell 2
  have ya3 : w4.cell? ⟨w.heap.size, 3, none⟩ = some (.int .i64 ea) := Ba4.out.cell 3
  have yn0 : w4.cell? ⟨w2.heap.size, 0, none⟩ = some (.int .i64 cn) := Bn4.out.cell 0
  have yn1 : w4.cell? ⟨w2.heap.size, 1, none⟩ = some (.bool nn) := Bn4.out.cell 1
  have yn2 : w4.cell? ⟨w2.heap.size, 2, none⟩ = some (.string tn) := Bn4.out.cell 2
  have yn3 : w4.cell? ⟨w2.heap.size, 3, none⟩ = some (.int .i64 en) := Bn4.out.cell 3
  have Ba5 := hide ((Ba4.out.alloc (.cells #[.int .i64 cx, .bool nx, .string tx, .int .i64 ex] 23)))
  have Bn5 := hide ((Bn4.out.alloc (.cells #[.int .i64 cx, .bool nx, .string tx, .int .i64 ex] 23)))
  have Bx5 := hide ((Blk.newAt w4 (w4.heap.size) (rfl) #[.int .i64 cx, .bool nx, .string tx, .int .i64 ex] 23))
  have HB5 : Hid (Below w.heap.size w (w4.alloc (.cells #[.int .i64 cx, .bool nx, .string tx, .int .i64 ex] 23))) := (HB4.out.alloc HB4.out.size _)
  clear Ba4 Bn4 HB4 ya0 ya1 ya2 ya3 yn0 yn1 yn2 yn3
  have ya0 : (w4.alloc (.cells #[.int .i64 cx, .bool nx, .string tx, .int .i64 ex] 23)).cell? ⟨w.heap.size, 0, none⟩ = some (.int .i64 ca) := Ba5.out.cell 0
  have ya1 : (w4.alloc (.cells #[.int .i64 cx, .bool nx, .string tx, .int .i64 ex] 23)).cell? ⟨w.heap.size, 1, none⟩ = some (.bool na) := Ba5.out.cell 1
  have ya2 : (w4.alloc (.cells #[.int .i64 cx, .bool nx, .string tx, .int .i64 ex] 23)).cell? ⟨w.heap.size, 2, none⟩ = some (.string ta) := Ba5.out.cell 2
  have ya3 : (w4.alloc (.cells #[.int .i64 cx, .bool nx, .string tx, .int .i64 ex] 23)).cell? ⟨w.heap.size, 3, none⟩ = some (.int .i64 ea) := Ba5.out.cell 3
  have yn0 : (w4.alloc (.cells #[.int .i64 cx, .bool nx, .string tx, .int .i64 ex] 23)).cell? ⟨w2.heap.size, 0, none⟩ = some (.int .i64 cn) := Bn5.out.cell 0
  have yn1 : (w4.alloc (.cells #[.int .i64 cx, .bool nx, .string tx, .int .i64 ex] 23)).cell? ⟨w2.heap.size, 1, none⟩ = some (.bool nn) := Bn5.out.cell 1
  have yn2 : (w4.alloc (.cells #[.int .i64 cx, .bool nx, .string tx, .int .i64 ex] 23)).cell? ⟨w2.heap.size, 2, none⟩ = some (.string tn) := Bn5.out.cell 2
  have yn3 : (w4.alloc (.cells #[.int .i64 cx, .bool nx, .string tx, .int .i64 ex] 23)).cell? ⟨w2.heap.size, 3, none⟩ = some (.int .i64 en) := Bn5.out.cell 3
  have yx0 : (w4.alloc (.cells #[.int .i64 cx, .bool nx, .string tx, .int .i64 ex] 23)).cell? ⟨w4.heap.size, 0, none⟩ = some (.int .i64 cx) := Bx5.out.cell 0
  have yx1 : (w4.alloc (.cells #[.int .i64 cx, .bool nx, .string tx, .int .i64 ex] 23)).cell? ⟨w4.heap.size, 1, none⟩ = some (.bool nx) := Bx5.out.cell 1
  have yx2 : (w4.alloc (.cells #[.int .i64 cx, .bool nx, .string tx, .int .i64 ex] 23)).cell? ⟨w4.heap.size, 2, none⟩ = some (.string tx) := Bx5.out.cell 2
  have yx3 : (w4.alloc (.cells #[.int .i64 cx, .bool nx, .string tx, .int .i64 ex] 23)).cell? ⟨w4.heap.size, 3, none⟩ = some (.int .i64 ex) := Bx5.out.cell 3
  go_wp2_with fail
  refine (H2.out _ (HT.out.below HB5.out)).mono ?_
  rintro e w6 ⟨rfl, hb⟩
  have Ba6 := hide (Ba5.out.below hb Ba5.out.lt)
  have Bn6 := hide (Bn5.out.below hb Bn5.out.lt)
  have Bx6 := hide (Bx5.out.below hb Bx5.out.lt)
  have HB6 := hide (HB5.out.trans (hb.mono HB5.out.size))
  clear hb Ba5 Bn5 Bx5 HB5 ya0 ya1 ya2 ya3 yn0 yn1 yn2 yn3 yx0 yx1 yx2 yx3
  have ya0 : w6.cell? ⟨w.heap.size, 0, none⟩ = some (.int .i64 ca) := Ba6.out.cell 0
  have ya1 : w6.cell? ⟨w.heap.size, 1, none⟩ = some (.bool na) := Ba6.out.cell 1
  have ya2 : w6.cell? ⟨w.heap.size, 2, none⟩ = some (.string ta) := Ba6.out.cell 2
  have ya3 : w6.cell? ⟨w.heap.size, 3, none⟩ = some (.int .i64 ea) := Ba6.out.cell 3
  have yn0 : w6.cell? ⟨w2.heap.size, 0, none⟩ = some (.int .i64 cn) := Bn6.out.cell 0
  have yn1 : w6.cell? ⟨w2.heap.size, 1, none⟩ = some (.bool nn) := Bn6.out.cell 1
  have yn2 : w6.cell? ⟨w2.heap.size, 2, none⟩ = some (.string tn) := Bn6.out.cell 2
  have yn3 : w6.cell? ⟨w2.heap.size, 3, none⟩ = some (.int .i64 en) := Bn6.out.cell 3
  have yx0 : w6.cell? ⟨w4.heap.size, 0, none⟩ = some (.int .i64 cx) := Bx6.out.cell 0
  have yx1 : w6.cell? ⟨w4.heap.size, 1, none⟩ = some (.bool nx) := Bx6.out.cell 1
  have yx2 : w6.cell? ⟨w4.heap.size, 2, none⟩ = some (.string tx) := Bx6.out.cell 2
  have yx3 : w6.cell? ⟨w4.heap.size, 3, none⟩ = some (.int .i64 ex) := Bx6.out.cell 3
  have Ba7 := hide ((Ba6.out.alloc (.cells #[.int .i64 cy, .bool ny, .string ty, .int .i64 ey] 23)))
  have Bn7 := hide ((Bn6.out.alloc (.cells #[.int .i64 cy, .bool ny, .string ty, .int .i64 ey] 23)))
  have Bx7 := hide ((Bx6.out.alloc (.cells #[.int .i64 cy, .bool ny, .string ty, .int .i64 ey] 23)))
  have By7 := hide ((Blk.newAt w6 (w6.heap.size) (rfl) #[.int .i64 cy, .bool ny, .string ty, .int .i64 ey] 23))
  have HB7 : Hid (Below w.heap.size w (w6.alloc (.cells #[.int .i64 cy, .bool ny, .string ty, .int .i64 ey] 23))) := (HB6.out.alloc HB6.out.size _)
  clear Ba6 Bn6 Bx6 HB6 ya0 ya1 ya2 ya3 yn0 yn1 yn2 yn3 yx0 yx1 yx2 yx3
  have ya0 : (w6.alloc (.cells #[.int .i64 cy, .bool ny, .string ty, .int .i64 ey] 23)).cell? ⟨w.heap.size, 0, none⟩ = some (.int .i64 ca) := Ba7.out.cell 0
  have ya1 : (w6.alloc (.cells #[.int .i64 cy, .bool ny, .string ty, .int .i64 ey] 23)).cell? ⟨w.heap.size, 1, none⟩ = some (.bool na) := Ba7.out.cell 1
  have ya2 : (w6.alloc (.cells #[.int .i64 cy, .bool ny, .string ty, .int .i64 ey] 23)).cell? ⟨w.heap.size, 2, none⟩ = some (.string ta) := Ba7.out.cell 2
  have ya3 : (w6.alloc (.cells #[.int .i64 cy, .bool ny, .string ty, .int .i64 ey] 23)).cell? ⟨w.heap.size, 3, none⟩ = some (.int .i64 ea) := Ba7.out.cell 3
  have yn0 : (w6.alloc (.cells #[.int .i64 cy, .bool ny, .string ty, .int .i64 ey] 23)).cell? ⟨w2.heap.size, 0, none⟩ = some (.int .i64 cn) := Bn7.out.cell 0
  have yn1 : (w6.alloc (.cells #[.int .i64 cy, .bool ny, .string ty, .int .i64 ey] 23)).cell? ⟨w2.heap.size, 1, none⟩ = some (.bool nn) := Bn7.out.cell 1
  have yn2 : (w6.alloc (.cells #[.int .i64 cy, .bool ny, .string ty, .int .i64 ey] 23)).cell? ⟨w2.heap.size, 2, none⟩ = some (.string tn) := Bn7.out.cell 2
  have yn3 : (w6.alloc (.cells #[.int .i64 cy, .bool ny, .string ty, .int .i64 ey] 23)).cell? ⟨w2.heap.size, 3, none⟩ = some (.int .i64 en) := Bn7.out.cell 3
  have yx0 : (w6.alloc (.cells #[.int .i64 cy, .bool ny, .string ty, .int .i64 ey] 23)).cell? ⟨w4.heap.size, 0, none⟩ = some (.int .i64 cx) := Bx7.out.cell 0
  have yx1 : (w6.alloc (.cells #[.int .i64 cy, .bool ny, .string ty, .int .i64 ey] 23)).cell? ⟨w4.heap.size, 1, none⟩ = some (.bool nx) := Bx7.out.cell 1
  have yx2 : (w6.alloc (.cells #[.int .i64 cy, .bool ny, .string ty, .int .i64 ey] 23)).cell? ⟨w4.heap.size, 2, none⟩ = some (.string tx) := Bx7.out.cell 2
  have yx3 : (w6.alloc (.cells #[.int .i64 cy, .bool ny, .string ty, .int .i64 ey] 23)).cell? ⟨w4.heap.size, 3, none⟩ = some (.int .i64 ex) := Bx7.out.cell 3
  have yy0 : (w6.alloc (.cells #[.int .i64 cy, .bool ny, .string ty, .int .i64 ey] 23)).cell? ⟨w6.heap.size, 0, none⟩ = some (.int .i64 cy) := By7.out.cell 0
  have yy1 : (w6.alloc (.cells #[.int .i64 cy, .bool ny, .string ty, .int .i64 ey] 23)).cell? ⟨w6.heap.size, 1, none⟩ = some (.bool ny) := By7.out.cell 1
  have yy2 : (w6.alloc (.cells #[.int .i64 cy, .bool ny, .string ty, .int .i64 ey] 23)).cell? ⟨w6.heap.size, 2, none⟩ = some (.string ty) := By7.out.cell 2
  have yy3 : (w6.alloc (.cells #[.int .i64 cy, .bool ny, .string ty, .int .i64 ey] 23)).cell? ⟨w6.heap.size, 3, none⟩ = some (.int .i64 ey) := By7.out.cell 3
  go_wp2_with fail
  refine (H3.out _).mono ?_
  rintro e w8 ⟨rfl, hb⟩
  have Ba8 := hide (Ba7.out.below hb Ba7.out.lt)
  have Bn8 := hide (Bn7.out.below hb Bn7.out.lt)
  have Bx8 := hide (Bx7.out.below hb Bx7.out.lt)
  have By8 := hide (By7.out.below hb By7.out.lt)
  have HB8 := hide (HB7.out.trans (hb.mono HB7.out.size))
  clear hb Ba7 Bn7 Bx7 By7 HB7 ya0 ya1 ya2 ya3 yn0 yn1 yn2 yn3 yx0 yx1 yx2 yx3 yy0 yy1 yy2 yy3
  have ya0 : w8.cell? ⟨w.heap.size, 0, none⟩ = some (.int .i64 ca) := Ba8.out.cell 0
  have ya1 : w8.cell? ⟨w.heap.size, 1, none⟩ = some (.bool na) := Ba8.out.cell 1
  have ya2 : w8.cell? ⟨w.heap.size, 2, none⟩ = some (.string ta) := Ba8.out.cell 2
  have ya3 : w8.cell? ⟨w.heap.size, 3, none⟩ = some (.int .i64 ea) := Ba8.out.cell 3
  have yn0 : w8.cell? ⟨w2.heap.size, 0, none⟩ = some (.int .i64 cn) := Bn8.out.cell 0
  have yn1 : w8.cell? ⟨w2.heap.size, 1, none⟩ = some (.bool nn) := Bn8.out.cell 1
  have yn2 : w8.cell? ⟨w2.heap.size, 2, none⟩ = some (.string tn) := Bn8.out.cell 2
  have yn3 : w8.cell? ⟨w2.heap.size, 3, none⟩ = some (.int .i64 en) := Bn8.out.cell 3
  have yx0 : w8.cell? ⟨w4.heap.size, 0, none⟩ = some (.int .i64 cx) := Bx8.out.cell 0
  have yx1 : w8.cell? ⟨w4.heap.size, 1, none⟩ = some (.bool nx) := Bx8.out.cell 1
  have yx2 : w8.cell? ⟨w4.heap.size, 2, none⟩ = some (.string tx) := Bx8.out.cell 2
  have yx3 : w8.cell? ⟨w4.heap.size, 3, none⟩ = some (.int .i64 ex) := Bx8.out.cell 3
  have yy0 : w8.cell? ⟨w6.heap.size, 0, none⟩ = some (.int .i64 cy) := By8.out.cell 0
  have yy1 : w8.cell? ⟨w6.heap.size, 1, none⟩ = some (.bool ny) := By8.out.cell 1
  have yy2 : w8.cell? ⟨w6.heap.size, 2, none⟩ = some (.string ty) := By8.out.cell 2
  have yy3 : w8.cell? ⟨w6.heap.size, 3, none⟩ = some (.int .i64 ey) := By8.out.cell 3
  have Ba9 := hide ((Ba8.out.alloc (.cells #[.int .i64 cz, .bool nz, .string tz, .int .i64 ez] 23)))
  have Bn9 := hide ((Bn8.out.alloc (.cells #[.int .i64 cz, .bool nz, .string tz, .int .i64 ez] 23)))
  have Bx9 := hide ((Bx8.out.alloc (.cells #[.int .i64 cz, .bool nz, .string tz, .int .i64 ez] 23)))
  have By9 := hide ((By8.out.alloc (.cells #[.int .i64 cz, .bool nz, .string tz, .int .i64 ez] 23)))
  have Bz9 := hide ((Blk.newAt w8 (w8.heap.size) (rfl) #[.int .i64 cz, .bool nz, .string tz, .int .i64 ez] 23))
  have HB9 : Hid (Below w.heap.size w (w8.alloc (.cells #[.int .i64 cz, .bool nz, .string tz, .int .i64 ez] 23))) := (HB8.out.alloc HB8.out.size _)
  clear Ba8 Bn8 Bx8 By8 HB8 ya0 ya1 ya2 ya3 yn0 yn1 yn2 yn3 yx0 yx1 yx2 yx3 yy0 yy1 yy2 yy3
  have ya0 : (w8.alloc (.cells #[.int .i64 cz, .bool nz, .string tz, .int .i64 ez] 23)).cell? ⟨w.heap.size, 0, none⟩ = some (.int .i64 ca) := Ba9.out.cell 0
  have ya1 : (w8.alloc (.cells #[.int .i64 cz, .bool nz, .string tz, .int .i64 ez] 23)).cell? ⟨w.heap.size, 1, none⟩ = some (.bool na) := Ba9.out.cell 1
  have ya2 : (w8.alloc (.cells #[.int .i64 cz, .bool nz, .string tz, .int .i64 ez] 23)).cell? ⟨w.heap.size, 2, none⟩ = some (.string ta) := Ba9.out.cell 2
  have ya3 : (w8.alloc (.cells #[.int .i64 cz, .bool nz, .string tz, .int .i64 ez] 23)).cell? ⟨w.heap.size, 3, none⟩ = some (.int .i64 ea) := Ba9.out.cell 3
  have yn0 : (w8.alloc (.cells #[.int .i64 cz, .bool nz, .string tz, .int .i64 ez] 23)).cell? ⟨w2.heap.size, 0, none⟩ = some (.int .i64 cn) := Bn9.out.cell 0
  have yn1 : (w8.alloc (.cells #[.int .i64 cz, .bool nz, .string tz, .int .i64 ez] 23)).cell? ⟨w2.heap.size, 1, none⟩ = some (.bool nn) := Bn9.out.cell 1
  have yn2 : (w8.alloc (.cells #[.int .i64 cz, .bool nz, .string tz, .int .i64 ez] 23)).cell? ⟨w2.heap.size, 2, none⟩ = some (.string tn) := Bn9.out.cell 2
  have yn3 : (w8.alloc (.cells #[.int .i64 cz, .bool nz, .string tz, .int .i64 ez] 23)).cell? ⟨w2.heap.size, 3, none⟩ = some (.int .i64 en) := Bn9.out.cell 3
  have yx0 : (w8.alloc (.cells #[.int .i64 cz, .bool nz, .string tz, .int .i64 ez] 23)).cell? ⟨w4.heap.size, 0, none⟩ = some (.int .i64 cx) := Bx9.out.cell 0
  have yx1 : (w8.alloc (.cells #[.int .i64 cz, .bool nz, .string tz, .int .i64 ez] 23)).cell? ⟨w4.heap.size, 1, none⟩ = some (.bool nx) := Bx9.out.cell 1
  have yx2 : (w8.alloc (.cells #[.int .i64 cz, .bool nz, .string tz, .int .i64 ez] 23)).cell? ⟨w4.heap.size, 2, none⟩ = some (.string tx) := Bx9.out.cell 2
  have yx3 : (w8.alloc (.cells #[.int .i64 cz, .bool nz, .string tz, .int .i64 ez] 23)).cell? ⟨w4.heap.size, 3, none⟩ = some (.int .i64 ex) := Bx9.out.cell 3
  have yy0 : (w8.alloc (.cells #[.int .i64 cz, .bool nz, .string tz, .int .i64 ez] 23)).cell? ⟨w6.heap.size, 0, none⟩ = some (.int .i64 cy) := By9.out.cell 0
  have yy1 : (w8.alloc (.cells #[.int .i64 cz, .bool nz, .string tz, .int .i64 ez] 23)).cell? ⟨w6.heap.size, 1, none⟩ = some (.bool ny) := By9.out.cell 1
  have yy2 : (w8.alloc (.cells #[.int .i64 cz, .bool nz, .string tz, .int .i64 ez] 23)).cell? ⟨w6.heap.size, 2, none⟩ = some (.string ty) := By9.out.cell 2
  have yy3 : (w8.alloc (.cells #[.int .i64 cz, .bool nz, .string tz, .int .i64 ez] 23)).cell? ⟨w6.heap.size, 3, none⟩ = some (.int .i64 ey) := By9.out.cell 3
  have yz0 : (w8.alloc (.cells #[.int .i64 cz, .bool nz, .string tz, .int .i64 ez] 23)).cell? ⟨w8.heap.size, 0, none⟩ = some (.int .i64 cz) := Bz9.out.cell 0
  have yz1 : (w8.alloc (.cells #[.int .i64 cz, .bool nz, .string tz, .int .i64 ez] 23)).cell? ⟨w8.heap.size, 1, none⟩ = some (.bool nz) := Bz9.out.cell 1
  have yz2 : (w8.alloc (.cells #[.int .i64 cz, .bool nz, .string tz, .int .i64 ez] 23)).cell? ⟨w8.heap.size, 2, none⟩ = some (.string tz) := Bz9.out.cell 2
  have yz3 : (w8.alloc (.cells #[.int .i64 cz, .bool nz, .string tz, .int .i64 ez] 23)).cell? ⟨w8.heap.size, 3, none⟩ = some (.int .i64 ez) := Bz9.out.cell 3
  go_wp2
  go_ret
  exact ⟨rfl, HB9.out⟩

set_option maxRecDepth 100000 in
set_option maxHeartbeats 4000000 in
theorem signs_1_ok (ca : Int) (na : Bool) (ta : ByteArray) (ea : Int) (p : Int) (cn : Int) (nn : Bool) (tn : ByteArray) (en : Int) (cx : Int) (nx : Bool) (tx : ByteArray) (ex : Int) (cy : Int) (ny : Bool) (ty : ByteArray) (ey : Int) (k : Int) (w : World) (htab : Tab w) (h0 : ∀ W, Calls Tryz.prog 22 #[dcV ca na ta ea] W fun e w' => e = .returned (.tuple #[.agg #[.int .i64 cn, .bool nn, .string tn, .int .i64 en], .int .i64 0]) ∧ Below W.heap.size W w') (h1 : ∀ W, Tab W → Calls Tryz.prog 11 #[dcV ca na ta ea, .int .i64 p, .int .i64 1] W fun e w' => e = .returned (.tuple #[.agg #[.int .i64 cx, .bool nx, .string tx, .int .i64 ex], .int .i64 0]) ∧ Below W.heap.size W w') (h2 : ∀ W, Tab W → Calls Tryz.prog 11 #[.agg #[.int .i64 cn, .bool nn, .string tn, .int .i64 en], .int .i64 p, .int .i64 0] W fun e w' => e = .returned (.tuple #[.agg #[.int .i64 cy, .bool ny, .string ty, .int .i64 ey], .int .i64 0]) ∧ Below W.heap.size W w') (h3 : ∀ W, Calls Tryz.prog 22 #[.agg #[.int .i64 cx, .bool nx, .string tx, .int .i64 ex]] W fun e w' => e = .returned (.tuple #[.agg #[.int .i64 cy, .bool ny, .string ty, .int .i64 ey], .int .i64 k]) ∧ Below W.heap.size W w') : Calls Tryz.prog 8 #[dcV ca na ta ea, .int .i64 p, .int .i64 1] w fun e w' => e = .returned (.bool true) ∧ Below w.heap.size w w' := by
  have H0 := hide h0
  have H1 := hide h1
  have H2 := hide h2
  have H3 := hide h3
  have HT := hide htab
  clear htab h0 h1 h2 h3
  have Ba0 := hide (Blk.newAt w (w.heap.size) (rfl) #[.int .i64 ca, .bool na, .string ta, .int .i64 ea] 23)
  have HB0 : Hid (Below w.heap.size w (w.alloc (.cells #[.int .i64 ca, .bool na, .string ta, .int .i64 ea] 23))) := ((Below.refl _ _).alloc (Nat.le_refl _) _)
  go_enter Tryz.func8, Tryz.ntmps8
  go_wp2_with fail
  refine (rawake_any _ (HT.out.below HB0.out)).mono ?_
  rintro e w1 ⟨rfl, hb⟩
  have Ba1 := hide (Ba0.out.below hb Ba0.out.lt)
  have HB1 := hide (HB0.out.trans (hb.mono HB0.out.size))
  clear hb Ba0 HB0 
  have ya0 : w1.cell? ⟨w.heap.size, 0, none⟩ = some (.int .i64 ca) := Ba1.out.cell 0
  have ya1 : w1.cell? ⟨w.heap.size, 1, none⟩ = some (.bool na) := Ba1.out.cell 1
  have ya2 : w1.cell? ⟨w.heap.size, 2, none⟩ = some (.string ta) := Ba1.out.cell 2
  have ya3 : w1.cell? ⟨w.heap.size, 3, none⟩ = some (.int .i64 ea) := Ba1.out.cell 3
  go_wp2_with fail
  refine (H0.out _).mono ?_
  rintro e w2 ⟨rfl, hb⟩
  have Ba2 := hide (Ba1.out.below hb Ba1.out.lt)
  have HB2 := hide (HB1.out.trans (hb.mono HB1.out.size))
  clear hb Ba1 HB1 ya0 ya1 ya2 ya3
  have ya0 : w2.cell? ⟨w.heap.size, 0, none⟩ = some (.int .i64 ca) := Ba2.out.cell 0
  have ya1 : w2.cell? ⟨w.heap.size, 1, none⟩ = some (.bool na) := Ba2.out.cell 1
  have ya2 : w2.cell? ⟨w.heap.size, 2, none⟩ = some (.string ta) := Ba2.out.cell 2
  have ya3 : w2.cell? ⟨w.heap.size, 3, none⟩ = some (.int .i64 ea) := Ba2.out.cell 3
  have Ba3 := hide ((Ba2.out.alloc (.cells #[.int .i64 cn, .bool nn, .string tn, .int .i64 en] 23)))
  have Bn3 := hide ((Blk.newAt w2 (w2.heap.size) (rfl) #[.int .i64 cn, .bool nn, .string tn, .int .i64 en] 23))
  have HB3 : Hid (Below w.heap.size w (w2.alloc (.cells #[.int .i64 cn, .bool nn, .string tn, .int .i64 en] 23))) := (HB2.out.alloc HB2.out.size _)
  clear Ba2 HB2 ya0 ya1 ya2 ya3
  have ya0 : (w2.alloc (.cells #[.int .i64 cn, .bool nn, .string tn, .int .i64 en] 23)).cell? ⟨w.heap.size, 0, none⟩ = some (.int .i64 ca) := Ba3.out.cell 0
  have ya1 : (w2.alloc (.cells #[.int .i64 cn, .bool nn, .string tn, .int .i64 en] 23)).cell? ⟨w.heap.size, 1, none⟩ = some (.bool na) := Ba3.out.cell 1
  have ya2 : (w2.alloc (.cells #[.int .i64 cn, .bool nn, .string tn, .int .i64 en] 23)).cell? ⟨w.heap.size, 2, none⟩ = some (.string ta) := Ba3.out.cell 2
  have ya3 : (w2.alloc (.cells #[.int .i64 cn, .bool nn, .string tn, .int .i64 en] 23)).cell? ⟨w.heap.size, 3, none⟩ = some (.int .i64 ea) := Ba3.out.cell 3
  have yn0 : (w2.alloc (.cells #[.int .i64 cn, .bool nn, .string tn, .int .i64 en] 23)).cell? ⟨w2.heap.size, 0, none⟩ = some (.int .i64 cn) := Bn3.out.cell 0
  have yn1 : (w2.alloc (.cells #[.int .i64 cn, .bool nn, .string tn, .int .i64 en] 23)).cell? ⟨w2.heap.size, 1, none⟩ = some (.bool nn) := Bn3.out.cell 1
  have yn2 : (w2.alloc (.cells #[.int .i64 cn, .bool nn, .string tn, .int .i64 en] 23)).cell? ⟨w2.heap.size, 2, none⟩ = some (.string tn) := Bn3.out.cell 2
  have yn3 : (w2.alloc (.cells #[.int .i64 cn, .bool nn, .string tn, .int .i64 en] 23)).cell? ⟨w2.heap.size, 3, none⟩ = some (.int .i64 en) := Bn3.out.cell 3
  go_wp2_with fail
  refine (H1.out _ (HT.out.below HB3.out)).mono ?_
  rintro e w4 ⟨rfl, hb⟩
  have Ba4 := hide (Ba3.out.below hb Ba3.out.lt)
  have Bn4 := hide (Bn3.out.below hb Bn3.out.lt)
  have HB4 := hide (HB3.out.trans (hb.mono HB3.out.size))
  clear hb Ba3 Bn3 HB3 ya0 ya1 ya2 ya3 yn0 yn1 yn2 yn3
  have ya0 : w4.cell? ⟨w.heap.size, 0, none⟩ = some (.int .i64 ca) := Ba4.out.cell 0
  have ya1 : w4.cell? ⟨w.heap.size, 1, none⟩ = some (.bool na) := Ba4.out.cell 1
  have ya2 : w4.cell? ⟨w.heap.size, 2, none⟩ = some (.string ta) := Ba4.out.cell 2
  have ya3 : w4.cell? ⟨w.heap.size, 3, none⟩ = some (.int .i64 ea) := Ba4.out.cell 3
  have yn0 : w4.cell? ⟨w2.heap.size, 0, none⟩ = some (.int .i64 cn) := Bn4.out.cell 0
  have yn1 : w4.cell? ⟨w2.heap.size, 1, none⟩ = some (.bool nn) := Bn4.out.cell 1
  have yn2 : w4.cell? ⟨w2.heap.size, 2, none⟩ = some (.string tn) := Bn4.out.cell 2
  have yn3 : w4.cell? ⟨w2.heap.size, 3, none⟩ = some (.int .i64 en) := Bn4.out.cell 3
  have Ba5 := hide ((Ba4.out.alloc (.cells #[.int .i64 cx, .bool nx, .string tx, .int .i64 ex] 23)))
  have Bn5 := hide ((Bn4.out.alloc (.cells #[.int .i64 cx, .bool nx, .string tx, .int .i64 ex] 23)))
  have Bx5 := hide ((Blk.newAt w4 (w4.heap.size) (rfl) #[.int .i64 cx, .bool nx, .string tx, .int .i64 ex] 23))
  have HB5 : Hid (Below w.heap.size w (w4.alloc (.cells #[.int .i64 cx, .bool nx, .string tx, .int .i64 ex] 23))) := (HB4.out.alloc HB4.out.size _)
  clear Ba4 Bn4 HB4 ya0 ya1 ya2 ya3 yn0 yn1 yn2 yn3
  have ya0 : (w4.alloc (.cells #[.int .i64 cx, .bool nx, .string tx, .int .i64 ex] 23)).cell? ⟨w.heap.size, 0, none⟩ = some (.int .i64 ca) := Ba5.out.cell 0
  have ya1 : (w4.alloc (.cells #[.int .i64 cx, .bool nx, .string tx, .int .i64 ex] 23)).cell? ⟨w.heap.size, 1, none⟩ = some (.bool na) := Ba5.out.cell 1
  have ya2 : (w4.alloc (.cells #[.int .i64 cx, .bool nx, .string tx, .int .i64 ex] 23)).cell? ⟨w.heap.size, 2, none⟩ = some (.string ta) := Ba5.out.cell 2
  have ya3 : (w4.alloc (.cells #[.int .i64 cx, .bool nx, .string tx, .int .i64 ex] 23)).cell? ⟨w.heap.size, 3, none⟩ = some (.int .i64 ea) := Ba5.out.cell 3
  have yn0 : (w4.alloc (.cells #[.int .i64 cx, .bool nx, .string tx, .int .i64 ex] 23)).cell? ⟨w2.heap.size, 0, none⟩ = some (.int .i64 cn) := Bn5.out.cell 0
  have yn1 : (w4.alloc (.cells #[.int .i64 cx, .bool nx, .string tx, .int .i64 ex] 23)).cell? ⟨w2.heap.size, 1, none⟩ = some (.bool nn) := Bn5.out.cell 1
  have yn2 : (w4.alloc (.cells #[.int .i64 cx, .bool nx, .string tx, .int .i64 ex] 23)).cell? ⟨w2.heap.size, 2, none⟩ = some (.string tn) := Bn5.out.cell 2
  have yn3 : (w4.alloc (.cells #[.int .i64 cx, .bool nx, .string tx, .int .i64 ex] 23)).cell? ⟨w2.heap.size, 3, none⟩ = some (.int .i64 en) := Bn5.out.cell 3
  have yx0 : (w4.alloc (.cells #[.int .i64 cx, .bool nx, .string tx, .int .i64 ex] 23)).cell? ⟨w4.heap.size, 0, none⟩ = some (.int .i64 cx) := Bx5.out.cell 0
  have yx1 : (w4.alloc (.cells #[.int .i64 cx, .bool nx, .string tx, .int .i64 ex] 23)).cell? ⟨w4.heap.size, 1, none⟩ = some (.bool nx) := Bx5.out.cell 1
  have yx2 : (w4.alloc (.cells #[.int .i64 cx, .bool nx, .string tx, .int .i64 ex] 23)).cell? ⟨w4.heap.size, 2, none⟩ = some (.string tx) := Bx5.out.cell 2
  have yx3 : (w4.alloc (.cells #[.int .i64 cx, .bool nx, .string tx, .int .i64 ex] 23)).cell? ⟨w4.heap.size, 3, none⟩ = some (.int .i64 ex) := Bx5.out.cell 3
  go_wp2_with fail
  refine (H2.out _ (HT.out.below HB5.out)).mono ?_
  rintro e w6 ⟨rfl, hb⟩
  have Ba6 := hide (Ba5.out.below hb Ba5.out.lt)
  have Bn6 := hide (Bn5.out.below hb Bn5.out.lt)
  have Bx6 := hide (Bx5.out.below hb Bx5.out.lt)
  have HB6 := hide (HB5.out.trans (hb.mono HB5.out.size))
  clear hb Ba5 Bn5 Bx5 HB5 ya0 ya1 ya2 ya3 yn0 yn1 yn2 yn3 yx0 yx1 yx2 yx3
  have ya0 : w6.cell? ⟨w.heap.size, 0, none⟩ = some (.int .i64 ca) := Ba6.out.cell 0
  have ya1 : w6.cell? ⟨w.heap.size, 1, none⟩ = some (.bool na) := Ba6.out.cell 1
  have ya2 : w6.cell? ⟨w.heap.size, 2, none⟩ = some (.string ta) := Ba6.out.cell 2
  have ya3 : w6.cell? ⟨w.heap.size, 3, none⟩ = some (.int .i64 ea) := Ba6.out.cell 3
  have yn0 : w6.cell? ⟨w2.heap.size, 0, none⟩ = some (.int .i64 cn) := Bn6.out.cell 0
  have yn1 : w6.cell? ⟨w2.heap.size, 1, none⟩ = some (.bool nn) := Bn6.out.cell 1
  have yn2 : w6.cell? ⟨w2.heap.size, 2, none⟩ = some (.string tn) := Bn6.out.cell 2
  have yn3 : w6.cell? ⟨w2.heap.size, 3, none⟩ = some (.int .i64 en) := Bn6.out.cell 3
  have yx0 : w6.cell? ⟨w4.heap.size, 0, none⟩ = some (.int .i64 cx) := Bx6.out.cell 0
  have yx1 : w6.cell? ⟨w4.heap.size, 1, none⟩ = some (.bool nx) := Bx6.out.cell 1
  have yx2 : w6.cell? ⟨w4.heap.size, 2, none⟩ = some (.string tx) := Bx6.out.cell 2
  have yx3 : w6.cell? ⟨w4.heap.size, 3, none⟩ = some (.int .i64 ex) := Bx6.out.cell 3
  have Ba7 := hide ((Ba6.out.alloc (.cells #[.int .i64 cy, .bool ny, .string ty, .int .i64 ey] 23)))
  have Bn7 := hide ((Bn6.out.alloc (.cells #[.int .i64 cy, .bool ny, .string ty, .int .i64 ey] 23)))
  have Bx7 := hide ((Bx6.out.alloc (.cells #[.int .i64 cy, .bool ny, .string ty, .int .i64 ey] 23)))
  have By7 := hide ((Blk.newAt w6 (w6.heap.size) (rfl) #[.int .i64 cy, .bool ny, .string ty, .int .i64 ey] 23))
  have HB7 : Hid (Below w.heap.size w (w6.alloc (.cells #[.int .i64 cy, .bool ny, .string ty, .int .i64 ey] 23))) := (HB6.out.alloc HB6.out.size _)
  clear Ba6 Bn6 Bx6 HB6 ya0 ya1 ya2 ya3 yn0 yn1 yn2 yn3 yx0 yx1 yx2 yx3
  have ya0 : (w6.alloc (.cells #[.int .i64 cy, .bool ny, .string ty, .int .i64 ey] 23)).cell? ⟨w.heap.size, 0, none⟩ = some (.int .i64 ca) := Ba7.out.cell 0
  have ya1 : (w6.alloc (.cells #[.int .i64 cy, .bool ny, .string ty, .int .i64 ey] 23)).cell? ⟨w.heap.size, 1, none⟩ = some (.bool na) := Ba7.out.cell 1
  have ya2 : (w6.alloc (.cells #[.int .i64 cy, .bool ny, .string ty, .int .i64 ey] 23)).cell? ⟨w.heap.size, 2, none⟩ = some (.string ta) := Ba7.out.cell 2
  have ya3 : (w6.alloc (.cells #[.int .i64 cy, .bool ny, .string ty, .int .i64 ey] 23)).cell? ⟨w.heap.size, 3, none⟩ = some (.int .i64 ea) := Ba7.out.cell 3
  have yn0 : (w6.alloc (.cells #[.int .i64 cy, .bool ny, .string ty, .int .i64 ey] 23)).cell? ⟨w2.heap.size, 0, none⟩ = some (.int .i64 cn) := Bn7.out.cell 0
  have yn1 : (w6.alloc (.cells #[.int .i64 cy, .bool ny, .string ty, .int .i64 ey] 23)).cell? ⟨w2.heap.size, 1, none⟩ = some (.bool nn) := Bn7.out.cell 1
  have yn2 : (w6.alloc (.cells #[.int .i64 cy, .bool ny, .string ty, .int .i64 ey] 23)).cell? ⟨w2.heap.size, 2, none⟩ = some (.string tn) := Bn7.out.cell 2
  have yn3 : (w6.alloc (.cells #[.int .i64 cy, .bool ny, .string ty, .int .i64 ey] 23)).cell? ⟨w2.heap.size, 3, none⟩ = some (.int .i64 en) := Bn7.out.cell 3
  have yx0 : (w6.alloc (.cells #[.int .i64 cy, .bool ny, .string ty, .int .i64 ey] 23)).cell? ⟨w4.heap.size, 0, none⟩ = some (.int .i64 cx) := Bx7.out.cell 0
  have yx1 : (w6.alloc (.cells #[.int .i64 cy, .bool ny, .string ty, .int .i64 ey] 23)).cell? ⟨w4.heap.size, 1, none⟩ = some (.bool nx) := Bx7.out.cell 1
  have yx2 : (w6.alloc (.cells #[.int .i64 cy, .bool ny, .string ty, .int .i64 ey] 23)).cell? ⟨w4.heap.size, 2, none⟩ = some (.string tx) := Bx7.out.cell 2
  have yx3 : (w6.alloc (.cells #[.int .i64 cy, .bool ny, .string ty, .int .i64 ey] 23)).cell? ⟨w4.heap.size, 3, none⟩ = some (.int .i64 ex) := Bx7.out.cell 3
  have yy0 : (w6.alloc (.cells #[.int .i64 cy, .bool ny, .string ty, .int .i64 ey] 23)).cell? ⟨w6.heap.size, 0, none⟩ = some (.int .i64 cy) := By7.out.cell 0
  have yy1 : (w6.alloc (.cells #[.int .i64 cy, .bool ny, .string ty, .int .i64 ey] 23)).cell? ⟨w6.heap.size, 1, none⟩ = some (.bool ny) := By7.out.cell 1
  have yy2 : (w6.alloc (.cells #[.int .i64 cy, .bool ny, .string ty, .int .i64 ey] 23)).cell? ⟨w6.heap.size, 2, none⟩ = some (.string ty) := By7.out.cell 2
  have yy3 : (w6.alloc (.cells #[.int .i64 cy, .bool ny, .string ty, .int .i64 ey] 23)).cell? ⟨w6.heap.size, 3, none⟩ = some (.int .i64 ey) := By7.out.cell 3
  go_wp2_with fail
  refine (H3.out _).mono ?_
  rintro e w8 ⟨rfl, hb⟩
  have Ba8 := hide (Ba7.out.below hb Ba7.out.lt)
  have Bn8 := hide (Bn7.out.below hb Bn7.out.lt)
  have Bx8 := hide (Bx7.out.below hb Bx7.out.lt)
  have By8 := hide (By7.out.below hb By7.out.lt)
  have HB8 := hide (HB7.out.trans (hb.mono HB7.out.size))
  clear hb Ba7 Bn7 Bx7 By7 HB7 ya0 ya1 ya2 ya3 yn0 yn1 yn2 yn3 yx0 yx1 yx2 yx3 yy0 yy1 yy2 yy3
  have ya0 : w8.cell? ⟨w.heap.size, 0, none⟩ = some (.int .i64 ca) := Ba8.out.cell 0
  have ya1 : w8.cell? ⟨w.heap.size, 1, none⟩ = some (.bool na) := Ba8.out.cell 1
  have ya2 : w8.cell? ⟨w.heap.size, 2, none⟩ = some (.string ta) := Ba8.out.cell 2
  have ya3 : w8.cell? ⟨w.heap.size, 3, none⟩ = some (.int .i64 ea) := Ba8.out.cell 3
  have yn0 : w8.cell? ⟨w2.heap.size, 0, none⟩ = some (.int .i64 cn) := Bn8.out.cell 0
  have yn1 : w8.cell? ⟨w2.heap.size, 1, none⟩ = some (.bool nn) := Bn8.out.cell 1
  have yn2 : w8.cell? ⟨w2.heap.size, 2, none⟩ = some (.string tn) := Bn8.out.cell 2
  have yn3 : w8.cell? ⟨w2.heap.size, 3, none⟩ = some (.int .i64 en) := Bn8.out.cell 3
  have yx0 : w8.cell? ⟨w4.heap.size, 0, none⟩ = some (.int .i64 cx) := Bx8.out.cell 0
  have yx1 : w8.cell? ⟨w4.heap.size, 1, none⟩ = some (.bool nx) := Bx8.out.cell 1
  have yx2 : w8.cell? ⟨w4.heap.size, 2, none⟩ = some (.string tx) := Bx8.out.cell 2
  have yx3 : w8.cell? ⟨w4.heap.size, 3, none⟩ = some (.int .i64 ex) := Bx8.out.cell 3
  have yy0 : w8.cell? ⟨w6.heap.size, 0, none⟩ = some (.int .i64 cy) := By8.out.cell 0
  have yy1 : w8.cell? ⟨w6.heap.size, 1, none⟩ = some (.bool ny) := By8.out.cell 1
  have yy2 : w8.cell? ⟨w6.heap.size, 2, none⟩ = some (.string ty) := By8.out.cell 2
  have yy3 : w8.cell? ⟨w6.heap.size, 3, none⟩ = some (.int .i64 ey) := By8.out.cell 3
  have Ba9 := hide ((Ba8.out.alloc (.cells #[.int .i64 cy, .bool ny, .string ty, .int .i64 ey] 23)))
  have Bn9 := hide ((Bn8.out.alloc (.cells #[.int .i64 cy, .bool ny, .string ty, .int .i64 ey] 23)))
  have Bx9 := hide ((Bx8.out.alloc (.cells #[.int .i64 cy, .bool ny, .string ty, .int .i64 ey] 23)))
  have By9 := hide ((By8.out.alloc (.cells #[.int .i64 cy, .bool ny, .string ty, .int .i64 ey] 23)))
  have Bz9 := hide ((Blk.newAt w8 (w8.heap.size) (rfl) #[.int .i64 cy, .bool ny, .string ty, .int .i64 ey] 23))
  have HB9 : Hid (Below w.heap.size w (w8.alloc (.cells #[.int .i64 cy, .bool ny, .string ty, .int .i64 ey] 23))) := (HB8.out.alloc HB8.out.size _)
  clear Ba8 Bn8 Bx8 By8 HB8 ya0 ya1 ya2 ya3 yn0 yn1 yn2 yn3 yx0 yx1 yx2 yx3 yy0 yy1 yy2 yy3
  have ya0 : (w8.alloc (.cells #[.int .i64 cy, .bool ny, .string ty, .int .i64 ey] 23)).cell? ⟨w.heap.size, 0, none⟩ = some (.int .i64 ca) := Ba9.out.cell 0
  have ya1 : (w8.alloc (.cells #[.int .i64 cy, .bool ny, .string ty, .int .i64 ey] 23)).cell? ⟨w.heap.size, 1, none⟩ = some (.bool na) := Ba9.out.cell 1
  have ya2 : (w8.alloc (.cells #[.int .i64 cy, .bool ny, .string ty, .int .i64 ey] 23)).cell? ⟨w.heap.size, 2, none⟩ = some (.string ta) := Ba9.out.cell 2
  have ya3 : (w8.alloc (.cells #[.int .i64 cy, .bool ny, .string ty, .int .i64 ey] 23)).cell? ⟨w.heap.size, 3, none⟩ = some (.int .i64 ea) := Ba9.out.cell 3
  have yn0 : (w8.alloc (.cells #[.int .i64 cy, .bool ny, .string ty, .int .i64 ey] 23)).cell? ⟨w2.heap.size, 0, none⟩ = some (.int .i64 cn) := Bn9.out.cell 0
  have yn1 : (w8.alloc (.cells #[.int .i64 cy, .bool ny, .string ty, .int .i64 ey] 23)).cell? ⟨w2.heap.size, 1, none⟩ = some (.bool nn) := Bn9.out.cell 1
  have yn2 : (w8.alloc (.cells #[.int .i64 cy, .bool ny, .string ty, .int .i64 ey] 23)).cell? ⟨w2.heap.size, 2, none⟩ = some (.string tn) := Bn9.out.cell 2
  have yn3 : (w8.alloc (.cells #[.int .i64 cy, .bool ny, .string ty, .int .i64 ey] 23)).cell? ⟨w2.heap.size, 3, none⟩ = some (.int .i64 en) := Bn9.out.cell 3
  have yx0 : (w8.alloc (.cells #[.int .i64 cy, .bool ny, .string ty, .int .i64 ey] 23)).cell? ⟨w4.heap.size, 0, none⟩ = some (.int .i64 cx) := Bx9.out.cell 0
  have yx1 : (w8.alloc (.cells #[.int .i64 cy, .bool ny, .string ty, .int .i64 ey] 23)).cell? ⟨w4.heap.size, 1, none⟩ = some (.bool nx) := Bx9.out.cell 1
  have yx2 : (w8.alloc (.cells #[.int .i64 cy, .bool ny, .string ty, .int .i64 ey] 23)).cell? ⟨w4.heap.size, 2, none⟩ = some (.string tx) := Bx9.out.cell 2
  have yx3 : (w8.alloc (.cells #[.int .i64 cy, .bool ny, .string ty, .int .i64 ey] 23)).cell? ⟨w4.heap.size, 3, none⟩ = some (.int .i64 ex) := Bx9.out.cell 3
  have yy0 : (w8.alloc (.cells #[.int .i64 cy, .bool ny, .string ty, .int .i64 ey] 23)).cell? ⟨w6.heap.size, 0, none⟩ = some (.int .i64 cy) := By9.out.cell 0
  have yy1 : (w8.alloc (.cells #[.int .i64 cy, .bool ny, .string ty, .int .i64 ey] 23)).cell? ⟨w6.heap.size, 1, none⟩ = some (.bool ny) := By9.out.cell 1
  have yy2 : (w8.alloc (.cells #[.int .i64 cy, .bool ny, .string ty, .int .i64 ey] 23)).cell? ⟨w6.heap.size, 2, none⟩ = some (.string ty) := By9.out.cell 2
  have yy3 : (w8.alloc (.cells #[.int .i64 cy, .bool ny, .string ty, .int .i64 ey] 23)).cell? ⟨w6.heap.size, 3, none⟩ = some (.int .i64 ey) := By9.out.cell 3
  have yz0 : (w8.alloc (.cells #[.int .i64 cy, .bool ny, .string ty, .int .i64 ey] 23)).cell? ⟨w8.heap.size, 0, none⟩ = some (.int .i64 cy) := Bz9.out.cell 0
  have yz1 : (w8.alloc (.cells #[.int .i64 cy, .bool ny, .string ty, .int .i64 ey] 23)).cell? ⟨w8.heap.size, 1, none⟩ = some (.bool ny) := Bz9.out.cell 1
  have yz2 : (w8.alloc (.cells #[.int .i64 cy, .bool ny, .string ty, .int .i64 ey] 23)).cell? ⟨w8.heap.size, 2, none⟩ = some (.string ty) := Bz9.out.cell 2
  have yz3 : (w8.alloc (.cells #[.int .i64 cy, .bool ny, .string ty, .int .i64 ey] 23)).cell? ⟨w8.heap.size, 3, none⟩ = some (.int .i64 ey) := Bz9.out.cell 3
  go_wp2
  go_ret
  exact ⟨rfl, HB9.out⟩

set_option maxRecDepth 100000 in
set_option maxHeartbeats 4000000 in
theorem signs_9_no (ca : Int) (na : Bool) (ta : ByteArray) (ea : Int) (p m : Int) (cn : Int) (nn : Bool) (tn : ByteArray) (en : Int) (cx : Int) (nx : Bool) (tx : ByteArray) (ex : Int) (cy : Int) (ny : Bool) (ty : ByteArray) (ey : Int) (g : Int) (w : World) (htab : Tab w) (hm0 : ¬ m = 0) (hm1 : ¬ m = 1) (h0 : ∀ W, Calls Tryz.prog 22 #[dcV ca na ta ea] W fun e w' => e = .returned (.tuple #[.agg #[.int .i64 cn, .bool nn, .string tn, .int .i64 en], .int .i64 52]) ∧ Below W.heap.size W w') (h1 : ∀ W, Tab W → Calls Tryz.prog 11 #[dcV ca na ta ea, .int .i64 p, .int .i64 m] W fun e w' => e = .returned (.tuple #[.agg #[.int .i64 cx, .bool nx, .string tx, .int .i64 ex], .int .i64 52]) ∧ Below W.heap.size W w') (h2 : ∀ W, Tab W → Calls Tryz.prog 11 #[.agg #[.int .i64 cn, .bool nn, .string tn, .int .i64 en], .int .i64 p, .int .i64 m] W fun e w' => e = .returned (.tuple #[.agg #[.int .i64 cy, .bool ny, .string ty, .int .i64 ey], .int .i64 g]) ∧ Below W.heap.size W w') : Calls Tryz.prog 8 #[dcV ca na ta ea, .int .i64 p, .int .i64 m] w fun e w' => e = .returned (.bool true) ∧ Below w.heap.size w w' := by
  have q0 : (m == 0) = false := by simpa using hm0
  have q1 : (m == 1) = false := by simpa using hm1
  clear hm0 hm1
  have H0 := hide h0
  have H1 := hide h1
  have H2 := hide h2
  have HT := hide htab
  clear htab h0 h1 h2
  have Ba0 := hide (Blk.newAt w (w.heap.size) (rfl) #[.int .i64 ca, .bool na, .string ta, .int .i64 ea] 23)
  have HB0 : Hid (Below w.heap.size w (w.alloc (.cells #[.int .i64 ca, .bool na, .string ta, .int .i64 ea] 23))) := ((Below.refl _ _).alloc (Nat.le_refl _) _)
  go_enter Tryz.func8, Tryz.ntmps8
  go_wp2_with fail
  refine (rawake_any _ (HT.out.below HB0.out)).mono ?_
  rintro e w1 ⟨rfl, hb⟩
  have Ba1 := hide (Ba0.out.below hb Ba0.out.lt)
  have HB1 := hide (HB0.out.trans (hb.mono HB0.out.size))
  clear hb Ba0 HB0 
  have ya0 : w1.cell? ⟨w.heap.size, 0, none⟩ = some (.int .i64 ca) := Ba1.out.cell 0
  have ya1 : w1.cell? ⟨w.heap.size, 1, none⟩ = some (.bool na) := Ba1.out.cell 1
  have ya2 : w1.cell? ⟨w.heap.size, 2, none⟩ = some (.string ta) := Ba1.out.cell 2
  have ya3 : w1.cell? ⟨w.heap.size, 3, none⟩ = some (.int .i64 ea) := Ba1.out.cell 3
  go_wp2_with fail
  refine (H0.out _).mono ?_
  rintro e w2 ⟨rfl, hb⟩
  have Ba2 := hide (Ba1.out.below hb Ba1.out.lt)
  have HB2 := hide (HB1.out.trans (hb.mono HB1.out.size))
  clear hb Ba1 HB1 ya0 ya1 ya2 ya3
  have ya0 : w2.cell? ⟨w.heap.size, 0, none⟩ = some (.int .i64 ca) := Ba2.out.cell 0
  have ya1 : w2.cell? ⟨w.heap.size, 1, none⟩ = some (.bool na) := Ba2.out.cell 1
  have ya2 : w2.cell? ⟨w.heap.size, 2, none⟩ = some (.string ta) := Ba2.out.cell 2
  have ya3 : w2.cell? ⟨w.heap.size, 3, none⟩ = some (.int .i64 ea) := Ba2.out.cell 3
  have Ba3 := hide ((Ba2.out.alloc (.cells #[.int .i64 cn, .bool nn, .string tn, .int .i64 en] 23)))
  have Bn3 := hide ((Blk.newAt w2 (w2.heap.size) (rfl) #[.int .i64 cn, .bool nn, .string tn, .int .i64 en] 23))
  have HB3 : Hid (Below w.heap.size w (w2.alloc (.cells #[.int .i64 cn, .bool nn, .string tn, .int .i64 en] 23))) := (HB2.out.alloc HB2.out.size _)
  clear Ba2 HB2 ya0 ya1 ya2 ya3
  have ya0 : (w2.alloc (.cells #[.int .i64 cn, .bool nn, .string tn, .int .i64 en] 23)).cell? ⟨w.heap.size, 0, none⟩ = some (.int .i64 ca) := Ba3.out.cell 0
  have ya1 : (w2.alloc (.cells #[.int .i64 cn, .bool nn, .string tn, .int .i64 en] 23)).cell? ⟨w.heap.size, 1, none⟩ = some (.bool na) := Ba3.out.cell 1
  have ya2 : (w2.alloc (.cells #[.int .i64 cn, .bool nn, .string tn, .int .i64 en] 23)).cell? ⟨w.heap.size, 2, none⟩ = some (.string ta) := Ba3.out.cell 2
  have ya3 : (w2.alloc (.cells #[.int .i64 cn, .bool nn, .string tn, .int .i64 en] 23)).cell? ⟨w.heap.size, 3, none⟩ = some (.int .i64 ea) := Ba3.out.cell 3
  have yn0 : (w2.alloc (.cells #[.int .i64 cn, .bool nn, .string tn, .int .i64 en] 23)).cell? ⟨w2.heap.size, 0, none⟩ = some (.int .i64 cn) := Bn3.out.cell 0
  have yn1 : (w2.alloc (.cells #[.int .i64 cn, .bool nn, .string tn, .int .i64 en] 23)).cell? ⟨w2.heap.size, 1, none⟩ = some (.bool nn) := Bn3.out.cell 1
  have yn2 : (w2.alloc (.cells #[.int .i64 cn, .bool nn, .string tn, .int .i64 en] 23)).cell? ⟨w2.heap.size, 2, none⟩ = some (.string tn) := Bn3.out.cell 2
  have yn3 : (w2.alloc (.cells #[.int .i64 cn, .bool nn, .string tn, .int .i64 en] 23)).cell? ⟨w2.heap.size, 3, none⟩ = some (.int .i64 en) := Bn3.out.cell 3
  go_wp2_with fail
  refine (H1.out _ (HT.out.below HB3.out)).mono ?_
  rintro e w4 ⟨rfl, hb⟩
  have Ba4 := hide (Ba3.out.below hb Ba3.out.lt)
  have Bn4 := hide (Bn3.out.below hb Bn3.out.lt)
  have HB4 := hide (HB3.out.trans (hb.mono HB3.out.size))
  clear hb Ba3 Bn3 HB3 ya0 ya1 ya2 ya3 yn0 yn1 yn2 yn3
  have ya0 : w4.cell? ⟨w.heap.size, 0, none⟩ = some (.int .i64 ca) := Ba4.out.cell 0
  have ya1 : w4.cell? ⟨w.heap.size, 1, none⟩ = some (.bool na) := Ba4.out.cell 1
  have ya2 : w4.cell? ⟨w.heap.size, 2, none⟩ = some (.string ta) := Ba4.out.cell 2
  have ya3 : w4.cell? ⟨w.heap.size, 3, none⟩ = some (.int .i64 ea) := Ba4.out.cell 3
  have yn0 : w4.cell? ⟨w2.heap.size, 0, none⟩ = some (.int .i64 cn) := Bn4.out.cell 0
  have yn1 : w4.cell? ⟨w2.heap.size, 1, none⟩ = some (.bool nn) := Bn4.out.cell 1
  have yn2 : w4.cell? ⟨w2.heap.size, 2, none⟩ = some (.string tn) := Bn4.out.cell 2
  have yn3 : w4.cell? ⟨w2.heap.size, 3, none⟩ = some (.int .i64 en) := Bn4.out.cell 3
  have Ba5 := hide ((Ba4.out.alloc (.cells #[.int .i64 cx, .bool nx, .string tx, .int .i64 ex] 23)))
  have Bn5 := hide ((Bn4.out.alloc (.cells #[.int .i64 cx, .bool nx, .string tx, .int .i64 ex] 23)))
  have Bx5 := hide ((Blk.newAt w4 (w4.heap.size) (rfl) #[.int .i64 cx, .bool nx, .string tx, .int .i64 ex] 23))
  have HB5 : Hid (Below w.heap.size w (w4.alloc (.cells #[.int .i64 cx, .bool nx, .string tx, .int .i64 ex] 23))) := (HB4.out.alloc HB4.out.size _)
  clear Ba4 Bn4 HB4 ya0 ya1 ya2 ya3 yn0 yn1 yn2 yn3
  have ya0 : (w4.alloc (.cells #[.int .i64 cx, .bool nx, .string tx, .int .i64 ex] 23)).cell? ⟨w.heap.size, 0, none⟩ = some (.int .i64 ca) := Ba5.out.cell 0
  have ya1 : (w4.alloc (.cells #[.int .i64 cx, .bool nx, .string tx, .int .i64 ex] 23)).cell? ⟨w.heap.size, 1, none⟩ = some (.bool na) := Ba5.out.cell 1
  have ya2 : (w4.alloc (.cells #[.int .i64 cx, .bool nx, .string tx, .int .i64 ex] 23)).cell? ⟨w.heap.size, 2, none⟩ = some (.string ta) := Ba5.out.cell 2
  have ya3 : (w4.alloc (.cells #[.int .i64 cx, .bool nx, .string tx, .int .i64 ex] 23)).cell? ⟨w.heap.size, 3, none⟩ = some (.int .i64 ea) := Ba5.out.cell 3
  have yn0 : (w4.alloc (.cells #[.int .i64 cx, .bool nx, .string tx, .int .i64 ex] 23)).cell? ⟨w2.heap.size, 0, none⟩ = some (.int .i64 cn) := Bn5.out.cell 0
  have yn1 : (w4.alloc (.cells #[.int .i64 cx, .bool nx, .string tx, .int .i64 ex] 23)).cell? ⟨w2.heap.size, 1, none⟩ = some (.bool nn) := Bn5.out.cell 1
  have yn2 : (w4.alloc (.cells #[.int .i64 cx, .bool nx, .string tx, .int .i64 ex] 23)).cell? ⟨w2.heap.size, 2, none⟩ = some (.string tn) := Bn5.out.cell 2
  have yn3 : (w4.alloc (.cells #[.int .i64 cx, .bool nx, .string tx, .int .i64 ex] 23)).cell? ⟨w2.heap.size, 3, none⟩ = some (.int .i64 en) := Bn5.out.cell 3
  have yx0 : (w4.alloc (.cells #[.int .i64 cx, .bool nx, .string tx, .int .i64 ex] 23)).cell? ⟨w4.heap.size, 0, none⟩ = some (.int .i64 cx) := Bx5.out.cell 0
  have yx1 : (w4.alloc (.cells #[.int .i64 cx, .bool nx, .string tx, .int .i64 ex] 23)).cell? ⟨w4.heap.size, 1, none⟩ = some (.bool nx) := Bx5.out.cell 1
  have yx2 : (w4.alloc (.cells #[.int .i64 cx, .bool nx, .string tx, .int .i64 ex] 23)).cell? ⟨w4.heap.size, 2, none⟩ = some (.string tx) := Bx5.out.cell 2
  have yx3 : (w4.alloc (.cells #[.int .i64 cx, .bool nx, .string tx, .int .i64 ex] 23)).cell? ⟨w4.heap.size, 3, none⟩ = some (.int .i64 ex) := Bx5.out.cell 3
  go_wp2_with fail
  refine (H2.out _ (HT.out.below HB5.out)).mono ?_
  rintro e w6 ⟨rfl, hb⟩
  have Ba6 := hide (Ba5.out.below hb Ba5.out.lt)
  have Bn6 := hide (Bn5.out.below hb Bn5.out.lt)
  have Bx6 := hide (Bx5.out.below hb Bx5.out.lt)
  have HB6 := hide (HB5.out.trans (hb.mono HB5.out.size))
  clear hb Ba5 Bn5 Bx5 HB5 ya0 ya1 ya2 ya3 yn0 yn1 yn2 yn3 yx0 yx1 yx2 yx3
  have ya0 : w6.cell? ⟨w.heap.size, 0, none⟩ = some (.int .i64 ca) := Ba6.out.cell 0
  have ya1 : w6.cell? ⟨w.heap.size, 1, none⟩ = some (.bool na) := Ba6.out.cell 1
  have ya2 : w6.cell? ⟨w.heap.size, 2, none⟩ = some (.string ta) := Ba6.out.cell 2
  have ya3 : w6.cell? ⟨w.heap.size, 3, none⟩ = some (.int .i64 ea) := Ba6.out.cell 3
  have yn0 : w6.cell? ⟨w2.heap.size, 0, none⟩ = some (.int .i64 cn) := Bn6.out.cell 0
  have yn1 : w6.cell? ⟨w2.heap.size, 1, none⟩ = some (.bool nn) := Bn6.out.cell 1
  have yn2 : w6.cell? ⟨w2.heap.size, 2, none⟩ = some (.string tn) := Bn6.out.cell 2
  have yn3 : w6.cell? ⟨w2.heap.size, 3, none⟩ = some (.int .i64 en) := Bn6.out.cell 3
  have yx0 : w6.cell? ⟨w4.heap.size, 0, none⟩ = some (.int .i64 cx) := Bx6.out.cell 0
  have yx1 : w6.cell? ⟨w4.heap.size, 1, none⟩ = some (.bool nx) := Bx6.out.cell 1
  have yx2 : w6.cell? ⟨w4.heap.size, 2, none⟩ = some (.string tx) := Bx6.out.cell 2
  have yx3 : w6.cell? ⟨w4.heap.size, 3, none⟩ = some (.int .i64 ex) := Bx6.out.cell 3
  have Ba7 := hide ((Ba6.out.alloc (.cells #[.int .i64 cy, .bool ny, .string ty, .int .i64 ey] 23)))
  have Bn7 := hide ((Bn6.out.alloc (.cells #[.int .i64 cy, .bool ny, .string ty, .int .i64 ey] 23)))
  have Bx7 := hide ((Bx6.out.alloc (.cells #[.int .i64 cy, .bool ny, .string ty, .int .i64 ey] 23)))
  have By7 := hide ((Blk.newAt w6 (w6.heap.size) (rfl) #[.int .i64 cy, .bool ny, .string ty, .int .i64 ey] 23))
  have HB7 : Hid (Below w.heap.size w (w6.alloc (.cells #[.int .i64 cy, .bool ny, .string ty, .int .i64 ey] 23))) := (HB6.out.alloc HB6.out.size _)
  clear Ba6 Bn6 Bx6 HB6 ya0 ya1 ya2 ya3 yn0 yn1 yn2 yn3 yx0 yx1 yx2 yx3
  have ya0 : (w6.alloc (.cells #[.int .i64 cy, .bool ny, .string ty, .int .i64 ey] 23)).cell? ⟨w.heap.size, 0, none⟩ = some (.int .i64 ca) := Ba7.out.cell 0
  have ya1 : (w6.alloc (.cells #[.int .i64 cy, .bool ny, .string ty, .int .i64 ey] 23)).cell? ⟨w.heap.size, 1, none⟩ = some (.bool na) := Ba7.out.cell 1
  have ya2 : (w6.alloc (.cells #[.int .i64 cy, .bool ny, .string ty, .int .i64 ey] 23)).cell? ⟨w.heap.size, 2, none⟩ = some (.string ta) := Ba7.out.cell 2
  have ya3 : (w6.alloc (.cells #[.int .i64 cy, .bool ny, .string ty, .int .i64 ey] 23)).cell? ⟨w.heap.size, 3, none⟩ = some (.int .i64 ea) := Ba7.out.cell 3
  have yn0 : (w6.alloc (.cells #[.int .i64 cy, .bool ny, .string ty, .int .i64 ey] 23)).cell? ⟨w2.heap.size, 0, none⟩ = some (.int .i64 cn) := Bn7.out.cell 0
  have yn1 : (w6.alloc (.cells #[.int .i64 cy, .bool ny, .string ty, .int .i64 ey] 23)).cell? ⟨w2.heap.size, 1, none⟩ = some (.bool nn) := Bn7.out.cell 1
  have yn2 : (w6.alloc (.cells #[.int .i64 cy, .bool ny, .string ty, .int .i64 ey] 23)).cell? ⟨w2.heap.size, 2, none⟩ = some (.string tn) := Bn7.out.cell 2
  have yn3 : (w6.alloc (.cells #[.int .i64 cy, .bool ny, .string ty, .int .i64 ey] 23)).cell? ⟨w2.heap.size, 3, none⟩ = some (.int .i64 en) := Bn7.out.cell 3
  have yx0 : (w6.alloc (.cells #[.int .i64 cy, .bool ny, .string ty, .int .i64 ey] 23)).cell? ⟨w4.heap.size, 0, none⟩ = some (.int .i64 cx) := Bx7.out.cell 0
  have yx1 : (w6.alloc (.cells #[.int .i64 cy, .bool ny, .string ty, .int .i64 ey] 23)).cell? ⟨w4.heap.size, 1, none⟩ = some (.bool nx) := Bx7.out.cell 1
  have yx2 : (w6.alloc (.cells #[.int .i64 cy, .bool ny, .string ty, .int .i64 ey] 23)).cell? ⟨w4.heap.size, 2, none⟩ = some (.string tx) := Bx7.out.cell 2
  have yx3 : (w6.alloc (.cells #[.int .i64 cy, .bool ny, .string ty, .int .i64 ey] 23)).cell? ⟨w4.heap.size, 3, none⟩ = some (.int .i64 ex) := Bx7.out.cell 3
  have yy0 : (w6.alloc (.cells #[.int .i64 cy, .bool ny, .string ty, .int .i64 ey] 23)).cell? ⟨w6.heap.size, 0, none⟩ = some (.int .i64 cy) := By7.out.cell 0
  have yy1 : (w6.alloc (.cells #[.int .i64 cy, .bool ny, .string ty, .int .i64 ey] 23)).cell? ⟨w6.heap.size, 1, none⟩ = some (.bool ny) := By7.out.cell 1
  have yy2 : (w6.alloc (.cells #[.int .i64 cy, .bool ny, .string ty, .int .i64 ey] 23)).cell? ⟨w6.heap.size, 2, none⟩ = some (.string ty) := By7.out.cell 2
  have yy3 : (w6.alloc (.cells #[.int .i64 cy, .bool ny, .string ty, .int .i64 ey] 23)).cell? ⟨w6.heap.size, 3, none⟩ = some (.int .i64 ey) := By7.out.cell 3
  go_wp2
  go_ret
  exact ⟨rfl, HB7.out⟩

set_option maxRecDepth 100000 in
set_option maxHeartbeats 4000000 in
theorem signs_9_bad (ca : Int) (na : Bool) (ta : ByteArray) (ea : Int) (p m : Int) (cn : Int) (nn : Bool) (tn : ByteArray) (en : Int) (cx : Int) (nx : Bool) (tx : ByteArray) (ex : Int) (cy : Int) (ny : Bool) (ty : ByteArray) (ey : Int) (cz : Int) (nz : Bool) (tz : ByteArray) (ez : Int) (f : Int) (k : Int) (w : World) (htab : Tab w) (hm0 : ¬ m = 0) (hm1 : ¬ m = 1) (h0 : ∀ W, Calls Tryz.prog 22 #[dcV ca na ta ea] W fun e w' => e = .returned (.tuple #[.agg #[.int .i64 cn, .bool nn, .string tn, .int .i64 en], .int .i64 0]) ∧ Below W.heap.size W w') (h1 : ∀ W, Tab W → Calls Tryz.prog 11 #[dcV ca na ta ea, .int .i64 p, .int .i64 m] W fun e w' => e = .returned (.tuple #[.agg #[.int .i64 cx, .bool nx, .string tx, .int .i64 ex], .int .i64 f]) ∧ Below W.heap.size W w') (h2 : ∀ W, Tab W → Calls Tryz.prog 11 #[.agg #[.int .i64 cn, .bool nn, .string tn, .int .i64 en], .int .i64 p, .int .i64 m] W fun e w' => e = .returned (.tuple #[.agg #[.int .i64 cy, .bool ny, .string ty, .int .i64 ey], .int .i64 f]) ∧ Below W.heap.size W w') (h3 : ∀ W, Calls Tryz.prog 22 #[.agg #[.int .i64 cx, .bool nx, .string tx, .int .i64 ex]] W fun e w' => e = .returned (.tuple #[.agg #[.int .i64 cz, .bool nz, .string tz, .int .i64 ez], .int .i64 k]) ∧ Below W.heap.size W w') (hf : ¬ f = 0) : Calls Tryz.prog 8 #[dcV ca na ta ea, .int .i64 p, .int .i64 m] w fun e w' => e = .returned (.bool true) ∧ Below w.heap.size w w' := by
  have q0 : (m == 0) = false := by simpa using hm0
  have q1 : (m == 1) = false := by simpa using hm1
  clear hm0 hm1
  have q2 : (f != 0) = true := by simpa using hf
  clear hf
  have H0 := hide h0
  have H1 := hide h1
  have H2 := hide h2
  have H3 := hide h3
  have HT := hide htab
  clear htab h0 h1 h2 h3
  have Ba0 := hide (Blk.newAt w (w.heap.size) (rfl) #[.int .i64 ca, .bool na, .string ta, .int .i64 ea] 23)
  have HB0 : Hid (Below w.heap.size w (w.alloc (.cells #[.int .i64 ca, .bool na, .string ta, .int .i64 ea] 23))) := ((Below.refl _ _).alloc (Nat.le_refl _) _)
  go_enter Tryz.func8, Tryz.ntmps8
  go_wp2_with fail
  refine (rawake_any _ (HT.out.below HB0.out)).mono ?_
  rintro e w1 ⟨rfl, hb⟩
  have Ba1 := hide (Ba0.out.below hb Ba0.out.lt)
  have HB1 := hide (HB0.out.trans (hb.mono HB0.out.size))
  clear hb Ba0 HB0 
  have ya0 : w1.cell? ⟨w.heap.size, 0, none⟩ = some (.int .i64 ca) := Ba1.out.cell 0
  have ya1 : w1.cell? ⟨w.heap.size, 1, none⟩ = some (.bool na) := Ba1.out.cell 1
  have ya2 : w1.cell? ⟨w.heap.size, 2, none⟩ = some (.string ta) := Ba1.out.cell 2
  have ya3 : w1.cell? ⟨w.heap.size, 3, none⟩ = some (.int .i64 ea) := Ba1.out.cell 3
  go_wp2_with fail
  refine (H0.out _).mono ?_
  rintro e w2 ⟨rfl, hb⟩
  have Ba2 := hide (Ba1.out.below hb Ba1.out.lt)
  have HB2 := hide (HB1.out.trans (hb.mono HB1.out.size))
  clear hb Ba1 HB1 ya0 ya1 ya2 ya3
  have ya0 : w2.cell? ⟨w.heap.size, 0, none⟩ = some (.int .i64 ca) := Ba2.out.cell 0
  have ya1 : w2.cell? ⟨w.heap.size, 1, none⟩ = some (.bool na) := Ba2.out.cell 1
  have ya2 : w2.cell? ⟨w.heap.size, 2, none⟩ = some (.string ta) := Ba2.out.cell 2
  have ya3 : w2.cell? ⟨w.heap.size, 3, none⟩ = some (.int .i64 ea) := Ba2.out.cell 3
  have Ba3 := hide ((Ba2.out.alloc (.cells #[.int .i64 cn, .bool nn, .string tn, .int .i64 en] 23)))
  have Bn3 := hide ((Blk.newAt w2 (w2.heap.size) (rfl) #[.int .i64 cn, .bool nn, .string tn, .int .i64 en] 23))
  have HB3 : Hid (Below w.heap.size w (w2.alloc (.cells #[.int .i64 cn, .bool nn, .string tn, .int .i64 en] 23))) := (HB2.out.alloc HB2.out.size _)
  clear Ba2 HB2 ya0 ya1 ya2 ya3
  have ya0 : (w2.alloc (.cells #[.int .i64 cn, .bool nn, .string tn, .int .i64 en] 23)).cell? ⟨w.heap.size, 0, none⟩ = some (.int .i64 ca) := Ba3.out.cell 0
  have ya1 : (w2.alloc (.cells #[.int .i64 cn, .bool nn, .string tn, .int .i64 en] 23)).cell? ⟨w.heap.size, 1, none⟩ = some (.bool na) := Ba3.out.cell 1
  have ya2 : (w2.alloc (.cells #[.int .i64 cn, .bool nn, .string tn, .int .i64 en] 23)).cell? ⟨w.heap.size, 2, none⟩ = some (.string ta) := Ba3.out.cell 2
  have ya3 : (w2.alloc (.cells #[.int .i64 cn, .bool nn, .string tn, .int .i64 en] 23)).cell? ⟨w.heap.size, 3, none⟩ = some (.int .i64 ea) := Ba3.out.cell 3
  have yn0 : (w2.alloc (.cells #[.int .i64 cn, .bool nn, .string tn, .int .i64 en] 23)).cell? ⟨w2.heap.size, 0, none⟩ = some (.int .i64 cn) := Bn3.out.cell 0
  have yn1 : (w2.alloc (.cells #[.int .i64 cn, .bool nn, .string tn, .int .i64 en] 23)).cell? ⟨w2.heap.size, 1, none⟩ = some (.bool nn) := Bn3.out.cell 1
  have yn2 : (w2.alloc (.cells #[.int .i64 cn, .bool nn, .string tn, .int .i64 en] 23)).cell? ⟨w2.heap.size, 2, none⟩ = some (.string tn) := Bn3.out.cell 2
  have yn3 : (w2.alloc (.cells #[.int .i64 cn, .bool nn, .string tn, .int .i64 en] 23)).cell? ⟨w2.heap.size, 3, none⟩ = some (.int .i64 en) := Bn3.out.cell 3
  go_wp2_with fail
  refine (H1.out _ (HT.out.below HB3.out)).mono ?_
  rintro e w4 ⟨rfl, hb⟩
  have Ba4 := hide (Ba3.out.below hb Ba3.out.lt)
  have Bn4 := hide (Bn3.out.below hb Bn3.out.lt)
  have HB4 := hide (HB3.out.trans (hb.mono HB3.out.size))
  clear hb Ba3 Bn3 HB3 ya0 ya1 ya2 ya3 yn0 yn1 yn2 yn3
  have ya0 : w4.cell? ⟨w.heap.size, 0, none⟩ = some (.int .i64 ca) := Ba4.out.cell 0
  have ya1 : w4.cell? ⟨w.heap.size, 1, none⟩ = some (.bool na) := Ba4.out.cell 1
  have ya2 : w4.cell? ⟨w.heap.size, 2, none⟩ = some (.string ta) := Ba4.out.cell 2
  have ya3 : w4.cell? ⟨w.heap.size, 3, none⟩ = some (.int .i64 ea) := Ba4.out.cell 3
  have yn0 : w4.cell? ⟨w2.heap.size, 0, none⟩ = some (.int .i64 cn) := Bn4.out.cell 0
  have yn1 : w4.cell? ⟨w2.heap.size, 1, none⟩ = some (.bool nn) := Bn4.out.cell 1
  have yn2 : w4.cell? ⟨w2.heap.size, 2, none⟩ = some (.string tn) := Bn4.out.cell 2
  have yn3 : w4.cell? ⟨w2.heap.size, 3, none⟩ = some (.int .i64 en) := Bn4.out.cell 3
  have Ba5 := hide ((Ba4.out.alloc (.cells #[.int .i64 cx, .bool nx, .string tx, .int .i64 ex] 23)))
  have Bn5 := hide ((Bn4.out.alloc (.cells #[.int .i64 cx, .bool nx, .string tx, .int .i64 ex] 23)))
  have Bx5 := hide ((Blk.newAt w4 (w4.heap.size) (rfl) #[.int .i64 cx, .bool nx, .string tx, .int .i64 ex] 23))
  have HB5 : Hid (Below w.heap.size w (w4.alloc (.cells #[.int .i64 cx, .bool nx, .string tx, .int .i64 ex] 23))) := (HB4.out.alloc HB4.out.size _)
  clear Ba4 Bn4 HB4 ya0 ya1 ya2 ya3 yn0 yn1 yn2 yn3
  have ya0 : (w4.alloc (.cells #[.int .i64 cx, .bool nx, .string tx, .int .i64 ex] 23)).cell? ⟨w.heap.size, 0, none⟩ = some (.int .i64 ca) := Ba5.out.cell 0
  have ya1 : (w4.alloc (.cells #[.int .i64 cx, .bool nx, .string tx, .int .i64 ex] 23)).cell? ⟨w.heap.size, 1, none⟩ = some (.bool na) := Ba5.out.cell 1
  have ya2 : (w4.alloc (.cells #[.int .i64 cx, .bool nx, .string tx, .int .i64 ex] 23)).cell? ⟨w.heap.size, 2, none⟩ = some (.string ta) := Ba5.out.cell 2
  have ya3 : (w4.alloc (.cells #[.int .i64 cx, .bool nx, .string tx, .int .i64 ex] 23)).cell? ⟨w.heap.size, 3, none⟩ = some (.int .i64 ea) := Ba5.out.cell 3
  have yn0 : (w4.alloc (.cells #[.int .i64 cx, .bool nx, .string tx, .int .i64 ex] 23)).cell? ⟨w2.heap.size, 0, none⟩ = some (.int .i64 cn) := Bn5.out.cell 0
  have yn1 : (w4.alloc (.cells #[.int .i64 cx, .bool nx, .string tx, .int .i64 ex] 23)).cell? ⟨w2.heap.size, 1, none⟩ = some (.bool nn) := Bn5.out.cell 1
  have yn2 : (w4.alloc (.cells #[.int .i64 cx, .bool nx, .string tx, .int .i64 ex] 23)).cell? ⟨w2.heap.size, 2, none⟩ = some (.string tn) := Bn5.out.cell 2
  have yn3 : (w4.alloc (.cells #[.int .i64 cx, .bool nx, .string tx, .int .i64 ex] 23)).cell? ⟨w2.heap.size, 3, none⟩ = some (.int .i64 en) := Bn5.out.cell 3
  have yx0 : (w4.alloc (.cells #[.int .i64 cx, .bool nx, .string tx, .int .i64 ex] 23)).cell? ⟨w4.heap.size, 0, none⟩ = some (.int .i64 cx) := Bx5.out.cell 0
  have yx1 : (w4.alloc (.cells #[.int .i64 cx, .bool nx, .string tx, .int .i64 ex] 23)).cell? ⟨w4.heap.size, 1, none⟩ = some (.bool nx) := Bx5.out.cell 1
  have yx2 : (w4.alloc (.cells #[.int .i64 cx, .bool nx, .string tx, .int .i64 ex] 23)).cell? ⟨w4.heap.size, 2, none⟩ = some (.string tx) := Bx5.out.cell 2
  have yx3 : (w4.alloc (.cells #[.int .i64 cx, .bool nx, .string tx, .int .i64 ex] 23)).cell? ⟨w4.heap.size, 3, none⟩ = some (.int .i64 ex) := Bx5.out.cell 3
  go_wp2_with fail
  refine (H2.out _ (HT.out.below HB5.out)).mono ?_
  rintro e w6 ⟨rfl, hb⟩
  have Ba6 := hide (Ba5.out.below hb Ba5.out.lt)
  have Bn6 := hide (Bn5.out.below hb Bn5.out.lt)
  have Bx6 := hide (Bx5.out.below hb Bx5.out.lt)
  have HB6 := hide (HB5.out.trans (hb.mono HB5.out.size))
  clear hb Ba5 Bn5 Bx5 HB5 ya0 ya1 ya2 ya3 yn0 yn1 yn2 yn3 yx0 yx1 yx2 yx3
  have ya0 : w6.cell? ⟨w.heap.size, 0, none⟩ = some (.int .i64 ca) := Ba6.out.cell 0
  have ya1 : w6.cell? ⟨w.heap.size, 1, none⟩ = some (.bool na) := Ba6.out.cell 1
  have ya2 : w6.cell? ⟨w.heap.size, 2, none⟩ = some (.string ta) := Ba6.out.cell 2
  have ya3 : w6.cell? ⟨w.heap.size, 3, none⟩ = some (.int .i64 ea) := Ba6.out.cell 3
  have yn0 : w6.cell? ⟨w2.heap.size, 0, none⟩ = some (.int .i64 cn) := Bn6.out.cell 0
  have yn1 : w6.cell? ⟨w2.heap.size, 1, none⟩ = some (.bool nn) := Bn6.out.cell 1
  have yn2 : w6.cell? ⟨w2.heap.size, 2, none⟩ = some (.string tn) := Bn6.out.cell 2
  have yn3 : w6.cell? ⟨w2.heap.size, 3, none⟩ = some (.int .i64 en) := Bn6.out.cell 3
  have yx0 : w6.cell? ⟨w4.heap.size, 0, none⟩ = some (.int .i64 cx) := Bx6.out.cell 0
  have yx1 : w6.cell? ⟨w4.heap.size, 1, none⟩ = some (.bool nx) := Bx6.out.cell 1
  have yx2 : w6.cell? ⟨w4.heap.size, 2, none⟩ = some (.string tx) := Bx6.out.cell 2
  have yx3 : w6.cell? ⟨w4.heap.size, 3, none⟩ = some (.int .i64 ex) := Bx6.out.cell 3
  have Ba7 := hide ((Ba6.out.alloc (.cells #[.int .i64 cy, .bool ny, .string ty, .int .i64 ey] 23)))
  have Bn7 := hide ((Bn6.out.alloc (.cells #[.int .i64 cy, .bool ny, .string ty, .int .i64 ey] 23)))
  have Bx7 := hide ((Bx6.out.alloc (.cells #[.int .i64 cy, .bool ny, .string ty, .int .i64 ey] 23)))
  have By7 := hide ((Blk.newAt w6 (w6.heap.size) (rfl) #[.int .i64 cy, .bool ny, .string ty, .int .i64 ey] 23))
  have HB7 : Hid (Below w.heap.size w (w6.alloc (.cells #[.int .i64 cy, .bool ny, .string ty, .int .i64 ey] 23))) := (HB6.out.alloc HB6.out.size _)
  clear Ba6 Bn6 Bx6 HB6 ya0 ya1 ya2 ya3 yn0 yn1 yn2 yn3 yx0 yx1 yx2 yx3
  have ya0 : (w6.alloc (.cells #[.int .i64 cy, .bool ny, .string ty, .int .i64 ey] 23)).cell? ⟨w.heap.size, 0, none⟩ = some (.int .i64 ca) := Ba7.out.cell 0
  have ya1 : (w6.alloc (.cells #[.int .i64 cy, .bool ny, .string ty, .int .i64 ey] 23)).cell? ⟨w.heap.size, 1, none⟩ = some (.bool na) := Ba7.out.cell 1
  have ya2 : (w6.alloc (.cells #[.int .i64 cy, .bool ny, .string ty, .int .i64 ey] 23)).cell? ⟨w.heap.size, 2, none⟩ = some (.string ta) := Ba7.out.cell 2
  have ya3 : (w6.alloc (.cells #[.int .i64 cy, .bool ny, .string ty, .int .i64 ey] 23)).cell? ⟨w.heap.size, 3, none⟩ = some (.int .i64 ea) := Ba7.out.cell 3
  have yn0 : (w6.alloc (.cells #[.int .i64 cy, .bool ny, .string ty, .int .i64 ey] 23)).cell? ⟨w2.heap.size, 0, none⟩ = some (.int .i64 cn) := Bn7.out.cell 0
  have yn1 : (w6.alloc (.cells #[.int .i64 cy, .bool ny, .string ty, .int .i64 ey] 23)).cell? ⟨w2.heap.size, 1, none⟩ = some (.bool nn) := Bn7.out.cell 1
  have yn2 : (w6.alloc (.cells #[.int .i64 cy, .bool ny, .string ty, .int .i64 ey] 23)).cell? ⟨w2.heap.size, 2, none⟩ = some (.string tn) := Bn7.out.cell 2
  have yn3 : (w6.alloc (.cells #[.int .i64 cy, .bool ny, .string ty, .int .i64 ey] 23)).cell? ⟨w2.heap.size, 3, none⟩ = some (.int .i64 en) := Bn7.out.cell 3
  have yx0 : (w6.alloc (.cells #[.int .i64 cy, .bool ny, .string ty, .int .i64 ey] 23)).cell? ⟨w4.heap.size, 0, none⟩ = some (.int .i64 cx) := Bx7.out.cell 0
  have yx1 : (w6.alloc (.cells #[.int .i64 cy, .bool ny, .string ty, .int .i64 ey] 23)).cell? ⟨w4.heap.size, 1, none⟩ = some (.bool nx) := Bx7.out.cell 1
  have yx2 : (w6.alloc (.cells #[.int .i64 cy, .bool ny, .string ty, .int .i64 ey] 23)).cell? ⟨w4.heap.size, 2, none⟩ = some (.string tx) := Bx7.out.cell 2
  have yx3 : (w6.alloc (.cells #[.int .i64 cy, .bool ny, .string ty, .int .i64 ey] 23)).cell? ⟨w4.heap.size, 3, none⟩ = some (.int .i64 ex) := Bx7.out.cell 3
  have yy0 : (w6.alloc (.cells #[.int .i64 cy, .bool ny, .string ty, .int .i64 ey] 23)).cell? ⟨w6.heap.size, 0, none⟩ = some (.int .i64 cy) := By7.out.cell 0
  have yy1 : (w6.alloc (.cells #[.int .i64 cy, .bool ny, .string ty, .int .i64 ey] 23)).cell? ⟨w6.heap.size, 1, none⟩ = some (.bool ny) := By7.out.cell 1
  have yy2 : (w6.alloc (.cells #[.int .i64 cy, .bool ny, .string ty, .int .i64 ey] 23)).cell? ⟨w6.heap.size, 2, none⟩ = some (.string ty) := By7.out.cell 2
  have yy3 : (w6.alloc (.cells #[.int .i64 cy, .bool ny, .string ty, .int .i64 ey] 23)).cell? ⟨w6.heap.size, 3, none⟩ = some (.int .i64 ey) := By7.out.cell 3
  go_wp2_with fail
  refine (H3.out _).mono ?_
  rintro e w8 ⟨rfl, hb⟩
  have Ba8 := hide (Ba7.out.below hb Ba7.out.lt)
  have Bn8 := hide (Bn7.out.below hb Bn7.out.lt)
  have Bx8 := hide (Bx7.out.below hb Bx7.out.lt)
  have By8 := hide (By7.out.below hb By7.out.lt)
  have HB8 := hide (HB7.out.trans (hb.mono HB7.out.size))
  clear hb Ba7 Bn7 Bx7 By7 HB7 ya0 ya1 ya2 ya3 yn0 yn1 yn2 yn3 yx0 yx1 yx2 yx3 yy0 yy1 yy2 yy3
  have ya0 : w8.cell? ⟨w.heap.size, 0, none⟩ = some (.int .i64 ca) := Ba8.out.cell 0
  have ya1 : w8.cell? ⟨w.heap.size, 1, none⟩ = some (.bool na) := Ba8.out.cell 1
  have ya2 : w8.cell? ⟨w.heap.size, 2, none⟩ = some (.string ta) := Ba8.out.cell 2
  have ya3 : w8.cell? ⟨w.heap.size, 3, none⟩ = some (.int .i64 ea) := Ba8.out.cell 3
  have yn0 : w8.cell? ⟨w2.heap.size, 0, none⟩ = some (.int .i64 cn) := Bn8.out.cell 0
  have yn1 : w8.cell? ⟨w2.heap.size, 1, none⟩ = some (.bool nn) := Bn8.out.cell 1
  have yn2 : w8.cell? ⟨w2.heap.size, 2, none⟩ = some (.string tn) := Bn8.out.cell 2
  have yn3 : w8.cell? ⟨w2.heap.size, 3, none⟩ = some (.int .i64 en) := Bn8.out.cell 3
  have yx0 : w8.cell? ⟨w4.heap.size, 0, none⟩ = some (.int .i64 cx) := Bx8.out.cell 0
  have yx1 : w8.cell? ⟨w4.heap.size, 1, none⟩ = some (.bool nx) := Bx8.out.cell 1
  have yx2 : w8.cell? ⟨w4.heap.size, 2, none⟩ = some (.string tx) := Bx8.out.cell 2
  have yx3 : w8.cell? ⟨w4.heap.size, 3, none⟩ = some (.int .i64 ex) := Bx8.out.cell 3
  have yy0 : w8.cell? ⟨w6.heap.size, 0, none⟩ = some (.int .i64 cy) := By8.out.cell 0
  have yy1 : w8.cell? ⟨w6.heap.size, 1, none⟩ = some (.bool ny) := By8.out.cell 1
  have yy2 : w8.cell? ⟨w6.heap.size, 2, none⟩ = some (.string ty) := By8.out.cell 2
  have yy3 : w8.cell? ⟨w6.heap.size, 3, none⟩ = some (.int .i64 ey) := By8.out.cell 3
  have Ba9 := hide ((Ba8.out.alloc (.cells #[.int .i64 cz, .bool nz, .string tz, .int .i64 ez] 23)))
  have Bn9 := hide ((Bn8.out.alloc (.cells #[.int .i64 cz, .bool nz, .string tz, .int .i64 ez] 23)))
  have Bx9 := hide ((Bx8.out.alloc (.cells #[.int .i64 cz, .bool nz, .string tz, .int .i64 ez] 23)))
  have By9 := hide ((By8.out.alloc (.cells #[.int .i64 cz, .bool nz, .string tz, .int .i64 ez] 23)))
  have Bz9 := hide ((Blk.newAt w8 (w8.heap.size) (rfl) #[.int .i64 cz, .bool nz, .string tz, .int .i64 ez] 23))
  have HB9 : Hid (Below w.heap.size w (w8.alloc (.cells #[.int .i64 cz, .bool nz, .string tz, .int .i64 ez] 23))) := (HB8.out.alloc HB8.out.size _)
  clear Ba8 Bn8 Bx8 By8 HB8 ya0 ya1 ya2 ya3 yn0 yn1 yn2 yn3 yx0 yx1 yx2 yx3 yy0 yy1 yy2 yy3
  have ya0 : (w8.alloc (.cells #[.int .i64 cz, .bool nz, .string tz, .int .i64 ez] 23)).cell? ⟨w.heap.size, 0, none⟩ = some (.int .i64 ca) := Ba9.out.cell 0
  have ya1 : (w8.alloc (.cells #[.int .i64 cz, .bool nz, .string tz, .int .i64 ez] 23)).cell? ⟨w.heap.size, 1, none⟩ = some (.bool na) := Ba9.out.cell 1
  have ya2 : (w8.alloc (.cells #[.int .i64 cz, .bool nz, .string tz, .int .i64 ez] 23)).cell? ⟨w.heap.size, 2, none⟩ = some (.string ta) := Ba9.out.cell 2
  have ya3 : (w8.alloc (.cells #[.int .i64 cz, .bool nz, .string tz, .int .i64 ez] 23)).cell? ⟨w.heap.size, 3, none⟩ = some (.int .i64 ea) := Ba9.out.cell 3
  have yn0 : (w8.alloc (.cells #[.int .i64 cz, .bool nz, .string tz, .int .i64 ez] 23)).cell? ⟨w2.heap.size, 0, none⟩ = some (.int .i64 cn) := Bn9.out.cell 0
  have yn1 : (w8.alloc (.cells #[.int .i64 cz, .bool nz, .string tz, .int .i64 ez] 23)).cell? ⟨w2.heap.size, 1, none⟩ = some (.bool nn) := Bn9.out.cell 1
  have yn2 : (w8.alloc (.cells #[.int .i64 cz, .bool nz, .string tz, .int .i64 ez] 23)).cell? ⟨w2.heap.size, 2, none⟩ = some (.string tn) := Bn9.out.cell 2
  have yn3 : (w8.alloc (.cells #[.int .i64 cz, .bool nz, .string tz, .int .i64 ez] 23)).cell? ⟨w2.heap.size, 3, none⟩ = some (.int .i64 en) := Bn9.out.cell 3
  have yx0 : (w8.alloc (.cells #[.int .i64 cz, .bool nz, .string tz, .int .i64 ez] 23)).cell? ⟨w4.heap.size, 0, none⟩ = some (.int .i64 cx) := Bx9.out.cell 0
  have yx1 : (w8.alloc (.cells #[.int .i64 cz, .bool nz, .string tz, .int .i64 ez] 23)).cell? ⟨w4.heap.size, 1, none⟩ = some (.bool nx) := Bx9.out.cell 1
  have yx2 : (w8.alloc (.cells #[.int .i64 cz, .bool nz, .string tz, .int .i64 ez] 23)).cell? ⟨w4.heap.size, 2, none⟩ = some (.string tx) := Bx9.out.cell 2
  have yx3 : (w8.alloc (.cells #[.int .i64 cz, .bool nz, .string tz, .int .i64 ez] 23)).cell? ⟨w4.heap.size, 3, none⟩ = some (.int .i64 ex) := Bx9.out.cell 3
  have yy0 : (w8.alloc (.cells #[.int .i64 cz, .bool nz, .string tz, .int .i64 ez] 23)).cell? ⟨w6.heap.size, 0, none⟩ = some (.int .i64 cy) := By9.out.cell 0
  have yy1 : (w8.alloc (.cells #[.int .i64 cz, .bool nz, .string tz, .int .i64 ez] 23)).cell? ⟨w6.heap.size, 1, none⟩ = some (.bool ny) := By9.out.cell 1
  have yy2 : (w8.alloc (.cells #[.int .i64 cz, .bool nz, .string tz, .int .i64 ez] 23)).cell? ⟨w6.heap.size, 2, none⟩ = some (.string ty) := By9.out.cell 2
  have yy3 : (w8.alloc (.cells #[.int .i64 cz, .bool nz, .string tz, .int .i64 ez] 23)).cell? ⟨w6.heap.size, 3, none⟩ = some (.int .i64 ey) := By9.out.cell 3
  have yz0 : (w8.alloc (.cells #[.int .i64 cz, .bool nz, .string tz, .int .i64 ez] 23)).cell? ⟨w8.heap.size, 0, none⟩ = some (.int .i64 cz) := Bz9.out.cell 0
  have yz1 : (w8.alloc (.cells #[.int .i64 cz, .bool nz, .string tz, .int .i64 ez] 23)).cell? ⟨w8.heap.size, 1, none⟩ = some (.bool nz) := Bz9.out.cell 1
  have yz2 : (w8.alloc (.cells #[.int .i64 cz, .bool nz, .string tz, .int .i64 ez] 23)).cell? ⟨w8.heap.size, 2, none⟩ = some (.string tz) := Bz9.out.cell 2
  have yz3 : (w8.alloc (.cells #[.int .i64 cz, .bool nz, .string tz, .int .i64 ez] 23)).cell? ⟨w8.heap.size, 3, none⟩ = some (.int .i64 ez) := Bz9.out.cell 3
  go_wp2
  go_ret
  exact ⟨rfl, HB9.out⟩

set_option maxRecDepth 100000 in
set_option maxHeartbeats 4000000 in
theorem signs_9_ok (ca : Int) (na : Bool) (ta : ByteArray) (ea : Int) (p m : Int) (cn : Int) (nn : Bool) (tn : ByteArray) (en : Int) (cx : Int) (nx : Bool) (tx : ByteArray) (ex : Int) (cy : Int) (ny : Bool) (ty : ByteArray) (ey : Int) (k : Int) (w : World) (htab : Tab w) (hm0 : ¬ m = 0) (hm1 : ¬ m = 1) (h0 : ∀ W, Calls Tryz.prog 22 #[dcV ca na ta ea] W fun e w' => e = .returned (.tuple #[.agg #[.int .i64 cn, .bool nn, .string tn, .int .i64 en], .int .i64 0]) ∧ Below W.heap.size W w') (h1 : ∀ W, Tab W → Calls Tryz.prog 11 #[dcV ca na ta ea, .int .i64 p, .int .i64 m] W fun e w' => e = .returned (.tuple #[.agg #[.int .i64 cx, .bool nx, .string tx, .int .i64 ex], .int .i64 0]) ∧ Below W.heap.size W w') (h2 : ∀ W, Tab W → Calls Tryz.prog 11 #[.agg #[.int .i64 cn, .bool nn, .string tn, .int .i64 en], .int .i64 p, .int .i64 m] W fun e w' => e = .returned (.tuple #[.agg #[.int .i64 cy, .bool ny, .string ty, .int .i64 ey], .int .i64 0]) ∧ Below W.heap.size W w') (h3 : ∀ W, Calls Tryz.prog 22 #[.agg #[.int .i64 cx, .bool nx, .string tx, .int .i64 ex]] W fun e w' => e = .returned (.tuple #[.agg #[.int .i64 cy, .bool ny, .string ty, .int .i64 ey], .int .i64 k]) ∧ Below W.heap.size W w') : Calls Tryz.prog 8 #[dcV ca na ta ea, .int .i64 p, .int .i64 m] w fun e w' => e = .returned (.bool true) ∧ Below w.heap.size w w' := by
  have q0 : (m == 0) = false := by simpa using hm0
  have q1 : (m == 1) = false := by simpa using hm1
  clear hm0 hm1
  have H0 := hide h0
  have H1 := hide h1
  have H2 := hide h2
  have H3 := hide h3
  have HT := hide htab
  clear htab h0 h1 h2 h3
  have Ba0 := hide (Blk.newAt w (w.heap.size) (rfl) #[.int .i64 ca, .bool na, .string ta, .int .i64 ea] 23)
  have HB0 : Hid (Below w.heap.size w (w.alloc (.cells #[.int .i64 ca, .bool na, .string ta, .int .i64 ea] 23))) := ((Below.refl _ _).alloc (Nat.le_refl _) _)
  go_enter Tryz.func8, Tryz.ntmps8
  go_wp2_with fail
  refine (rawake_any _ (HT.out.below HB0.out)).mono ?_
  rintro e w1 ⟨rfl, hb⟩
  have Ba1 := hide (Ba0.out.below hb Ba0.out.lt)
  have HB1 := hide (HB0.out.trans (hb.mono HB0.out.size))
  clear hb Ba0 HB0 
  have ya0 : w1.cell? ⟨w.heap.size, 0, none⟩ = some (.int .i64 ca) := Ba1.out.cell 0
  have ya1 : w1.cell? ⟨w.heap.size, 1, none⟩ = some (.bool na) := Ba1.out.cell 1
  have ya2 : w1.cell? ⟨w.heap.size, 2, none⟩ = some (.string ta) := Ba1.out.cell 2
  have ya3 : w1.cell? ⟨w.heap.size, 3, none⟩ = some (.int .i64 ea) := Ba1.out.cell 3
  go_wp2_with fail
  refine (H0.out _).mono ?_
  rintro e w2 ⟨rfl, hb⟩
  have Ba2 := hide (Ba1.out.below hb Ba1.out.lt)
  have HB2 := hide (HB1.out.trans (hb.mono HB1.out.size))
  clear hb Ba1 HB1 ya0 ya1 ya2 ya3
  have ya0 : w2.cell? ⟨w.heap.size, 0, none⟩ = some (.int .i64 ca) := Ba2.out.cell 0
  have ya1 : w2.cell? ⟨w.heap.size, 1, none⟩ = some (.bool na) := Ba2.out.cell 1
  have ya2 : w2.cell? ⟨w.heap.size, 2, none⟩ = some (.string ta) := Ba2.out.cell 2
  have ya3 : w2.cell? ⟨w.heap.size, 3, none⟩ = some (.int .i64 ea) := Ba2.out.cell 3
  have Ba3 := hide ((Ba2.out.alloc (.cells #[.int .i64 cn, .bool nn, .string tn, .int .i64 en] 23)))
  have Bn3 := hide ((Blk.newAt w2 (w2.heap.size) (rfl) #[.int .i64 cn, .bool nn, .string tn, .int .i64 en] 23))
  have HB3 : Hid (Below w.heap.size w (w2.alloc (.cells #[.int .i64 cn, .bool nn, .string tn, .int .i64 en] 23))) := (HB2.out.alloc HB2.out.size _)
  clear Ba2 HB2 ya0 ya1 ya2 ya3
  have ya0 : (w2.alloc (.cells #[.int .i64 cn, .bool nn, .string tn, .int .i64 en] 23)).cell? ⟨w.heap.size, 0, none⟩ = some (.int .i64 ca) := Ba3.out.cell 0
  have ya1 : (w2.alloc (.cells #[.int .i64 cn, .bool nn, .string tn, .int .i64 en] 23)).cell? ⟨w.heap.size, 1, none⟩ = some (.bool na) := Ba3.out.cell 1
  have ya2 : (w2.alloc (.cells #[.int .i64 cn, .bool nn, .string tn, .int .i64 en] 23)).cell? ⟨w.heap.size, 2, none⟩ = some (.string ta) := Ba3.out.cell 2
  have ya3 : (w2.alloc (.cells #[.int .i64 cn, .bool nn, .string tn, .int .i64 en] 23)).cell? ⟨w.heap.size, 3, none⟩ = some (.int .i64 ea) := Ba3.out.cell 3
  have yn0 : (w2.alloc (.cells #[.int .i64 cn, .bool nn, .string tn, .int .i64 en] 23)).cell? ⟨w2.heap.size, 0, none⟩ = some (.int .i64 cn) := Bn3.out.cell 0
  have yn1 : (w2.alloc (.cells #[.int .i64 cn, .bool nn, .string tn, .int .i64 en] 23)).cell? ⟨w2.heap.size, 1, none⟩ = some (.bool nn) := Bn3.out.cell 1
  have yn2 : (w2.alloc (.cells #[.int .i64 cn, .bool nn, .string tn, .int .i64 en] 23)).cell? ⟨w2.heap.size, 2, none⟩ = some (.string tn) := Bn3.out.cell 2
  have yn3 : (w2.alloc (.cells #[.int .i64 cn, .bool nn, .string tn, .int .i64 en] 23)).cell? ⟨w2.heap.size, 3, none⟩ = some (.int .i64 en) := Bn3.out.cell 3
  go_wp2_with fail
  refine (H1.out _ (HT.out.below HB3.out)).mono ?_
  rintro e w4 ⟨rfl, hb⟩
  have Ba4 := hide (Ba3.out.below hb Ba3.out.lt)
  have Bn4 := hide (Bn3.out.below hb Bn3.out.lt)
  have HB4 := hide (HB3.out.trans (hb.mono HB3.out.size))
  clear hb Ba3 Bn3 HB3 ya0 ya1 ya2 ya3 yn0 yn1 yn2 yn3
  have ya0 : w4.cell? ⟨w.heap.size, 0, none⟩ = some (.int .i64 ca) := Ba4.out.cell 0
  have ya1 : w4.cell? ⟨w.heap.size, 1, none⟩ = some (.bool na) := Ba4.out.cell 1
  have ya2 : w4.cell? ⟨w.heap.size, 2, none⟩ = some (.string ta) := Ba4.out.cell 2
  have ya3 : w4.cell? ⟨w.heap.size, 3, none⟩ = some (.int .i64 ea) := Ba4.out.cell 3
  have yn0 : w4.cell? ⟨w2.heap.size, 0, none⟩ = some (.int .i64 cn) := Bn4.out.cell 0
  have yn1 : w4.cell? ⟨w2.heap.size, 1, none⟩ = some (.bool nn) := Bn4.out.cell 1
  have yn2 : w4.cell? ⟨w2.heap.size, 2, none⟩ = some (.string tn) := Bn4.out.cell 2
  have yn3 : w4.cell? ⟨w2.heap.size, 3, none⟩ = some (.int .i64 en) := Bn4.out.cell 3
  have Ba5 := hide ((Ba4.out.alloc (.cells #[.int .i64 cx, .bool nx, .string tx, .int .i64 ex] 23)))
  have Bn5 := hide ((Bn4.out.alloc (.cells #[.int .i64 cx, .bool nx, .string tx, .int .i64 ex] 23)))
  have Bx5 := hide ((Blk.newAt w4 (w4.heap.size) (rfl) #[.int .i64 cx, .bool nx, .string tx, .int .i64 ex] 23))
  have HB5 : Hid (Below w.heap.size w (w4.alloc (.cells #[.int .i64 cx, .bool nx, .string tx, .int .i64 ex] 23))) := (HB4.out.alloc HB4.out.size _)
  clear Ba4 Bn4 HB4 ya0 ya1 ya2 ya3 yn0 yn1 yn2 yn3
  have ya0 : (w4.alloc (.cells #[.int .i64 cx, .bool nx, .string tx, .int .i64 ex] 23)).cell? ⟨w.heap.size, 0, none⟩ = some (.int .i64 ca) := Ba5.out.cell 0
  have ya1 : (w4.alloc (.cells #[.int .i64 cx, .bool nx, .string tx, .int .i64 ex] 23)).cell? ⟨w.heap.size, 1, none⟩ = some (.bool na) := Ba5.out.cell 1
  have ya2 : (w4.alloc (.cells #[.int .i64 cx, .bool nx, .string tx, .int .i64 ex] 23)).cell? ⟨w.heap.size, 2, none⟩ = some (.string ta) := Ba5.out.cell 2
  have ya3 : (w4.alloc (.cells #[.int .i64 cx, .bool nx, .string tx, .int .i64 ex] 23)).cell? ⟨w.heap.size, 3, none⟩ = some (.int .i64 ea) := Ba5.out.cell 3
  have yn0 : (w4.alloc (.cells #[.int .i64 cx, .bool nx, .string tx, .int .i64 ex] 23)).cell? ⟨w2.heap.size, 0, none⟩ = some (.int .i64 cn) := Bn5.out.cell 0
  have yn1 : (w4.alloc (.cells #[.int .i64 cx, .bool nx, .string tx, .int .i64 ex] 23)).cell? ⟨w2.heap.size, 1, none⟩ = some (.bool nn) := Bn5.out.cell 1
  have yn2 : (w4.alloc (.cells #[.int .i64 cx, .bool nx, .string tx, .int .i64 ex] 23)).cell? ⟨w2.heap.size, 2, none⟩ = some (.string tn) := Bn5.out.cell 2
  have yn3 : (w4.alloc (.cells #[.int .i64 cx, .bool nx, .string tx, .int .i64 ex] 23)).cell? ⟨w2.heap.size, 3, none⟩ = some (.int .i64 en) := Bn5.out.cell 3
  have yx0 : (w4.alloc (.cells #[.int .i64 cx, .bool nx, .string tx, .int .i64 ex] 23)).cell? ⟨w4.heap.size, 0, none⟩ = some (.int .i64 cx) := Bx5.out.cell 0
  have yx1 : (w4.alloc (.cells #[.int .i64 cx, .bool nx, .string tx, .int .i64 ex] 23)).cell? ⟨w4.heap.size, 1, none⟩ = some (.bool nx) := Bx5.out.cell 1
  have yx2 : (w4.alloc (.cells #[.int .i64 cx, .bool nx, .string tx, .int .i64 ex] 23)).cell? ⟨w4.heap.size, 2, none⟩ = some (.string tx) := Bx5.out.cell 2
  have yx3 : (w4.alloc (.cells #[.int .i64 cx, .bool nx, .string tx, .int .i64 ex] 23)).cell? ⟨w4.heap.size, 3, none⟩ = some (.int .i64 ex) := Bx5.out.cell 3
  go_wp2_with fail
  refine (H2.out _ (HT.out.below HB5.out)).mono ?_
  rintro e w6 ⟨rfl, hb⟩
  have Ba6 := hide (Ba5.out.below hb Ba5.out.lt)
  have Bn6 := hide (Bn5.out.below hb Bn5.out.lt)
  have Bx6 := hide (Bx5.out.below hb Bx5.out.lt)
  have HB6 := hide (HB5.out.trans (hb.mono HB5.out.size))
  clear hb Ba5 Bn5 Bx5 HB5 ya0 ya1 ya2 ya3 yn0 yn1 yn2 yn3 yx0 yx1 yx2 yx3
  have ya0 : w6.cell? ⟨w.heap.size, 0, none⟩ = some (.int .i64 ca) := Ba6.out.cell 0
  have ya1 : w6.cell? ⟨w.heap.size, 1, none⟩ = some (.bool na) := Ba6.out.cell 1
  have ya2 : w6.cell? ⟨w.heap.size, 2, none⟩ = some (.string ta) := Ba6.out.cell 2
  have ya3 : w6.cell? ⟨w.heap.size, 3, none⟩ = some (.int .i64 ea) := Ba6.out.cell 3
  have yn0 : w6.cell? ⟨w2.heap.size, 0, none⟩ = some (.int .i64 cn) := Bn6.out.cell 0
  have yn1 : w6.cell? ⟨w2.heap.size, 1, none⟩ = some (.bool nn) := Bn6.out.cell 1
  have yn2 : w6.cell? ⟨w2.heap.size, 2, none⟩ = some (.string tn) := Bn6.out.cell 2
  have yn3 : w6.cell? ⟨w2.heap.size, 3, none⟩ = some (.int .i64 en) := Bn6.out.cell 3
  have yx0 : w6.cell? ⟨w4.heap.size, 0, none⟩ = some (.int .i64 cx) := Bx6.out.cell 0
  have yx1 : w6.cell? ⟨w4.heap.size, 1, none⟩ = some (.bool nx) := Bx6.out.cell 1
  have yx2 : w6.cell? ⟨w4.heap.size, 2, none⟩ = some (.string tx) := Bx6.out.cell 2
  have yx3 : w6.cell? ⟨w4.heap.size, 3, none⟩ = some (.int .i64 ex) := Bx6.out.cell 3
  have Ba7 := hide ((Ba6.out.alloc (.cells #[.int .i64 cy, .bool ny, .string ty, .int .i64 ey] 23)))
  have Bn7 := hide ((Bn6.out.alloc (.cells #[.int .i64 cy, .bool ny, .string ty, .int .i64 ey] 23)))
  have Bx7 := hide ((Bx6.out.alloc (.cells #[.int .i64 cy, .bool ny, .string ty, .int .i64 ey] 23)))
  have By7 := hide ((Blk.newAt w6 (w6.heap.size) (rfl) #[.int .i64 cy, .bool ny, .string ty, .int .i64 ey] 23))
  have HB7 : Hid (Below w.heap.size w (w6.alloc (.cells #[.int .i64 cy, .bool ny, .string ty, .int .i64 ey] 23))) := (HB6.out.alloc HB6.out.size _)
  clear Ba6 Bn6 Bx6 HB6 ya0 ya1 ya2 ya3 yn0 yn1 yn2 yn3 yx0 yx1 yx2 yx3
  have ya0 : (w6.alloc (.cells #[.int .i64 cy, .bool ny, .string ty, .int .i64 ey] 23)).cell? ⟨w.heap.size, 0, none⟩ = some (.int .i64 ca) := Ba7.out.cell 0
  have ya1 : (w6.alloc (.cells #[.int .i64 cy, .bool ny, .string ty, .int .i64 ey] 23)).cell? ⟨w.heap.size, 1, none⟩ = some (.bool na) := Ba7.out.cell 1
  have ya2 : (w6.alloc (.cells #[.int .i64 cy, .bool ny, .string ty, .int .i64 ey] 23)).cell? ⟨w.heap.size, 2, none⟩ = some (.string ta) := Ba7.out.cell 2
  have ya3 : (w6.alloc (.cells #[.int .i64 cy, .bool ny, .string ty, .int .i64 ey] 23)).cell? ⟨w.heap.size, 3, none⟩ = some (.int .i64 ea) := Ba7.out.cell 3
  have yn0 : (w6.alloc (.cells #[.int .i64 cy, .bool ny, .string ty, .int .i64 ey] 23)).cell? ⟨w2.heap.size, 0, none⟩ = some (.int .i64 cn) := Bn7.out.cell 0
  have yn1 : (w6.alloc (.cells #[.int .i64 cy, .bool ny, .string ty, .int .i64 ey] 23)).cell? ⟨w2.heap.size, 1, none⟩ = some (.bool nn) := Bn7.out.cell 1
  have yn2 : (w6.alloc (.cells #[.int .i64 cy, .bool ny, .string ty, .int .i64 ey] 23)).cell? ⟨w2.heap.size, 2, none⟩ = some (.string tn) := Bn7.out.cell 2
  have yn3 : (w6.alloc (.cells #[.int .i64 cy, .bool ny, .string ty, .int .i64 ey] 23)).cell? ⟨w2.heap.size, 3, none⟩ = some (.int .i64 en) := Bn7.out.cell 3
  have yx0 : (w6.alloc (.cells #[.int .i64 cy, .bool ny, .string ty, .int .i64 ey] 23)).cell? ⟨w4.heap.size, 0, none⟩ = some (.int .i64 cx) := Bx7.out.cell 0
  have yx1 : (w6.alloc (.cells #[.int .i64 cy, .bool ny, .string ty, .int .i64 ey] 23)).cell? ⟨w4.heap.size, 1, none⟩ = some (.bool nx) := Bx7.out.cell 1
  have yx2 : (w6.alloc (.cells #[.int .i64 cy, .bool ny, .string ty, .int .i64 ey] 23)).cell? ⟨w4.heap.size, 2, none⟩ = some (.string tx) := Bx7.out.cell 2
  have yx3 : (w6.alloc (.cells #[.int .i64 cy, .bool ny, .string ty, .int .i64 ey] 23)).cell? ⟨w4.heap.size, 3, none⟩ = some (.int .i64 ex) := Bx7.out.cell 3
  have yy0 : (w6.alloc (.cells #[.int .i64 cy, .bool ny, .string ty, .int .i64 ey] 23)).cell? ⟨w6.heap.size, 0, none⟩ = some (.int .i64 cy) := By7.out.cell 0
  have yy1 : (w6.alloc (.cells #[.int .i64 cy, .bool ny, .string ty, .int .i64 ey] 23)).cell? ⟨w6.heap.size, 1, none⟩ = some (.bool ny) := By7.out.cell 1
  have yy2 : (w6.alloc (.cells #[.int .i64 cy, .bool ny, .string ty, .int .i64 ey] 23)).cell? ⟨w6.heap.size, 2, none⟩ = some (.string ty) := By7.out.cell 2
  have yy3 : (w6.alloc (.cells #[.int .i64 cy, .bool ny, .string ty, .int .i64 ey] 23)).cell? ⟨w6.heap.size, 3, none⟩ = some (.int .i64 ey) := By7.out.cell 3
  go_wp2_with fail
  refine (H3.out _).mono ?_
  rintro e w8 ⟨rfl, hb⟩
  have Ba8 := hide (Ba7.out.below hb Ba7.out.lt)
  have Bn8 := hide (Bn7.out.below hb Bn7.out.lt)
  have Bx8 := hide (Bx7.out.below hb Bx7.out.lt)
  have By8 := hide (By7.out.below hb By7.out.lt)
  have HB8 := hide (HB7.out.trans (hb.mono HB7.out.size))
  clear hb Ba7 Bn7 Bx7 By7 HB7 ya0 ya1 ya2 ya3 yn0 yn1 yn2 yn3 yx0 yx1 yx2 yx3 yy0 yy1 yy2 yy3
  have ya0 : w8.cell? ⟨w.heap.size, 0, none⟩ = some (.int .i64 ca) := Ba8.out.cell 0
  have ya1 : w8.cell? ⟨w.heap.size, 1, none⟩ = some (.bool na) := Ba8.out.cell 1
  have ya2 : w8.cell? ⟨w.heap.size, 2, none⟩ = some (.string ta) := Ba8.out.cell 2
  have ya3 : w8.cell? ⟨w.heap.size, 3, none⟩ = some (.int .i64 ea) := Ba8.out.cell 3
  have yn0 : w8.cell? ⟨w2.heap.size, 0, none⟩ = some (.int .i64 cn) := Bn8.out.cell 0
  have yn1 : w8.cell? ⟨w2.heap.size, 1, none⟩ = some (.bool nn) := Bn8.out.cell 1
  have yn2 : w8.cell? ⟨w2.heap.size, 2, none⟩ = some (.string tn) := Bn8.out.cell 2
  have yn3 : w8.cell? ⟨w2.heap.size, 3, none⟩ = some (.int .i64 en) := Bn8.out.cell 3
  have yx0 : w8.cell? ⟨w4.heap.size, 0, none⟩ = some (.int .i64 cx) := Bx8.out.cell 0
  have yx1 : w8.cell? ⟨w4.heap.size, 1, none⟩ = some (.bool nx) := Bx8.out.cell 1
  have yx2 : w8.cell? ⟨w4.heap.size, 2, none⟩ = some (.string tx) := Bx8.out.cell 2
  have yx3 : w8.cell? ⟨w4.heap.size, 3, none⟩ = some (.int .i64 ex) := Bx8.out.cell 3
  have yy0 : w8.cell? ⟨w6.heap.size, 0, none⟩ = some (.int .i64 cy) := By8.out.cell 0
  have yy1 : w8.cell? ⟨w6.heap.size, 1, none⟩ = some (.bool ny) := By8.out.cell 1
  have yy2 : w8.cell? ⟨w6.heap.size, 2, none⟩ = some (.string ty) := By8.out.cell 2
  have yy3 : w8.cell? ⟨w6.heap.size, 3, none⟩ = some (.int .i64 ey) := By8.out.cell 3
  have Ba9 := hide ((Ba8.out.alloc (.cells #[.int .i64 cy, .bool ny, .string ty, .int .i64 ey] 23)))
  have Bn9 := hide ((Bn8.out.alloc (.cells #[.int .i64 cy, .bool ny, .string ty, .int .i64 ey] 23)))
  have Bx9 := hide ((Bx8.out.alloc (.cells #[.int .i64 cy, .bool ny, .string ty, .int .i64 ey] 23)))
  have By9 := hide ((By8.out.alloc (.cells #[.int .i64 cy, .bool ny, .string ty, .int .i64 ey] 23)))
  have Bz9 := hide ((Blk.newAt w8 (w8.heap.size) (rfl) #[.int .i64 cy, .bool ny, .string ty, .int .i64 ey] 23))
  have HB9 : Hid (Below w.heap.size w (w8.alloc (.cells #[.int .i64 cy, .bool ny, .string ty, .int .i64 ey] 23))) := (HB8.out.alloc HB8.out.size _)
  clear Ba8 Bn8 Bx8 By8 HB8 ya0 ya1 ya2 ya3 yn0 yn1 yn2 yn3 yx0 yx1 yx2 yx3 yy0 yy1 yy2 yy3
  have ya0 : (w8.alloc (.cells #[.int .i64 cy, .bool ny, .string ty, .int .i64 ey] 23)).cell? ⟨w.heap.size, 0, none⟩ = some (.int .i64 ca) := Ba9.out.cell 0
  have ya1 : (w8.alloc (.cells #[.int .i64 cy, .bool ny, .string ty, .int .i64 ey] 23)).cell? ⟨w.heap.size, 1, none⟩ = some (.bool na) := Ba9.out.cell 1
  have ya2 : (w8.alloc (.cells #[.int .i64 cy, .bool ny, .string ty, .int .i64 ey] 23)).cell? ⟨w.heap.size, 2, none⟩ = some (.string ta) := Ba9.out.cell 2
  have ya3 : (w8.alloc (.cells #[.int .i64 cy, .bool ny, .string ty, .int .i64 ey] 23)).cell? ⟨w.heap.size, 3, none⟩ = some (.int .i64 ea) := Ba9.out.cell 3
  have yn0 : (w8.alloc (.cells #[.int .i64 cy, .bool ny, .string ty, .int .i64 ey] 23)).cell? ⟨w2.heap.size, 0, none⟩ = some (.int .i64 cn) := Bn9.out.cell 0
  have yn1 : (w8.alloc (.cells #[.int .i64 cy, .bool ny, .string ty, .int .i64 ey] 23)).cell? ⟨w2.heap.size, 1, none⟩ = some (.bool nn) := Bn9.out.cell 1
  have yn2 : (w8.alloc (.cells #[.int .i64 cy, .bool ny, .string ty, .int .i64 ey] 23)).cell? ⟨w2.heap.size, 2, none⟩ = some (.string tn) := Bn9.out.cell 2
  have yn3 : (w8.alloc (.cells #[.int .i64 cy, .bool ny, .string ty, .int .i64 ey] 23)).cell? ⟨w2.heap.size, 3, none⟩ = some (.int .i64 en) := Bn9.out.cell 3
  have yx0 : (w8.alloc (.cells #[.int .i64 cy, .bool ny, .string ty, .int .i64 ey] 23)).cell? ⟨w4.heap.size, 0, none⟩ = some (.int .i64 cx) := Bx9.out.cell 0
  have yx1 : (w8.alloc (.cells #[.int .i64 cy, .bool ny, .string ty, .int .i64 ey] 23)).cell? ⟨w4.heap.size, 1, none⟩ = some (.bool nx) := Bx9.out.cell 1
  have yx2 : (w8.alloc (.cells #[.int .i64 cy, .bool ny, .string ty, .int .i64 ey] 23)).cell? ⟨w4.heap.size, 2, none⟩ = some (.string tx) := Bx9.out.cell 2
  have yx3 : (w8.alloc (.cells #[.int .i64 cy, .bool ny, .string ty, .int .i64 ey] 23)).cell? ⟨w4.heap.size, 3, none⟩ = some (.int .i64 ex) := Bx9.out.cell 3
  have yy0 : (w8.alloc (.cells #[.int .i64 cy, .bool ny, .string ty, .int .i64 ey] 23)).cell? ⟨w6.heap.size, 0, none⟩ = some (.int .i64 cy) := By9.out.cell 0
  have yy1 : (w8.alloc (.cells #[.int .i64 cy, .bool ny, .string ty, .int .i64 ey] 23)).cell? ⟨w6.heap.size, 1, none⟩ = some (.bool ny) := By9.out.cell 1
  have yy2 : (w8.alloc (.cells #[.int .i64 cy, .bool ny, .string ty, .int .i64 ey] 23)).cell? ⟨w6.heap.size, 2, none⟩ = some (.string ty) := By9.out.cell 2
  have yy3 : (w8.alloc (.cells #[.int .i64 cy, .bool ny, .string ty, .int .i64 ey] 23)).cell? ⟨w6.heap.size, 3, none⟩ = some (.int .i64 ey) := By9.out.cell 3
  have yz0 : (w8.alloc (.cells #[.int .i64 cy, .bool ny, .string ty, .int .i64 ey] 23)).cell? ⟨w8.heap.size, 0, none⟩ = some (.int .i64 cy) := Bz9.out.cell 0
  have yz1 : (w8.alloc (.cells #[.int .i64 cy, .bool ny, .string ty, .int .i64 ey] 23)).cell? ⟨w8.heap.size, 1, none⟩ = some (.bool ny) := Bz9.out.cell 1
  have yz2 : (w8.alloc (.cells #[.int .i64 cy, .bool ny, .string ty, .int .i64 ey] 23)).cell? ⟨w8.heap.size, 2, none⟩ = some (.string ty) := Bz9.out.cell 2
  have yz3 : (w8.alloc (.cells #[.int .i64 cy, .bool ny, .string ty, .int .i64 ey] 23)).cell? ⟨w8.heap.size, 3, none⟩ = some (.int .i64 ey) := Bz9.out.cell 3
  go_wp2
  go_ret
  exact ⟨rfl, HB9.out⟩

end Go.Proofs.YtcclbcnmkaobpaaGreatDoor

namespace Go.Proofs.YtcclbcnmkaobpaaGreatDoor
open Go.RowKit

section
variable {ca : Int} {na : Bool} {l : List UInt8} {ea p m : Int}

theorem atR_no (h : ¬ MayD ca na l ea) : atR ca na l ea p m = (zeroD, 52) := by unfold atR; rw [if_pos h]
theorem atR_mode (h : MayD ca na l ea) (hm : m < 0 ∨ 8 ≤ m) : atR ca na l ea p m = (zeroD, 60) := by unfold atR; rw [if_neg (fun g => g h), if_pos hm]
theorem atR_place (h : MayD ca na l ea) (hm : ¬ (m < 0 ∨ 8 ≤ m)) (hp : p < -4000 ∨ 4000 < p) : atR ca na l ea p m = (zeroD, 61) := by unfold atR; rw [if_neg (fun g => g h), if_neg hm, if_pos hp]
theorem atR_in (h : MayD ca na l ea) (hm : ¬ (m < 0 ∨ 8 ≤ m)) (hp : ¬ (p < -4000 ∨ 4000 < p)) : atR ca na l ea p m = rndD ⟨ca.toNat, na, l, ea⟩ 1 p m.toNat := by unfold atR; rw [if_neg (fun g => g h), if_neg hm, if_neg hp]
theorem digR_no (h : ¬ MayD ca na l ea) : digR ca na l ea p m = (zeroD, 52) := by unfold digR; rw [if_pos h]
theorem digR_mode (h : MayD ca na l ea) (hm : m < 0 ∨ 8 ≤ m) : digR ca na l ea p m = (zeroD, 60) := by unfold digR; rw [if_neg (fun g => g h), if_pos hm]
theorem digR_place (h : MayD ca na l ea) (hm : ¬ (m < 0 ∨ 8 ≤ m)) (hp : p < 1 ∨ 1000 < p) : digR ca na l ea p m = (zeroD, 61) := by unfold digR; rw [if_neg (fun g => g h), if_neg hm, if_pos hp]
theorem digR_in (h : MayD ca na l ea) (hm : ¬ (m < 0 ∨ 8 ≤ m)) (hp : ¬ (p < 1 ∨ 1000 < p)) : digR ca na l ea p m = rndD ⟨ca.toNat, na, l, ea⟩ 1 ((l.length : Int) + ea - p) m.toNat := by unfold digR; rw [if_neg (fun g => g h), if_neg hm, if_neg hp]

variable {cb : Int} {nb : Bool} {k : List UInt8} {eb : Int}
theorem stepR_bno (hb : ¬ MayD cb nb k eb) : stepR ca na l ea cb nb k eb m = (zeroD, 52) := by unfold stepR; rw [if_pos hb]
theorem stepR_no (hb : MayD cb nb k eb) (h : ¬ MayD ca na l ea) : stepR ca na l ea cb nb k eb m = (zeroD, 52) := by unfold stepR; rw [if_neg (fun g => g hb), if_pos h]
theorem stepR_mode (hb : MayD cb nb k eb) (h : MayD ca na l ea) (hm : m < 0 ∨ 8 ≤ m) : stepR ca na l ea cb nb k eb m = (zeroD, 60) := by unfold stepR; rw [if_neg (fun g => g hb), if_neg (fun g => g h), if_pos hm]
theorem stepR_bad (hb : MayD cb nb k eb) (h : MayD ca na l ea) (hm : ¬ (m < 0 ∨ 8 ≤ m)) (hs : ¬ StepD cb nb k) : stepR ca na l ea cb nb k eb m = (zeroD, 62) := by unfold stepR; rw [if_neg (fun g => g hb), if_neg (fun g => g h), if_neg hm, if_pos hs]
theorem stepR_in (hb : MayD cb nb k eb) (h : MayD ca na l ea) (hm : ¬ (m < 0 ∨ 8 ≤ m)) (hs : StepD cb nb k) : stepR ca na l ea cb nb k eb m = rndD ⟨ca.toNat, na, l, ea⟩ (decV k) eb m.toNat := by unfold stepR; rw [if_neg (fun g => g hb), if_neg (fun g => g h), if_neg hm, if_neg (fun g => g hs)]
end

theorem At_of {ca : Int} {na : Bool} {ta : ByteArray} {ea p m : Int} {r : DecT × Int} (hr : atR ca na (bys ta) ea p m = r) : ∀ W, Tab W → Calls Tryz.prog 11 #[dcV ca na ta ea, .int .i64 p, .int .i64 m] W fun e w' => e = .returned (decErr r) ∧ Below W.heap.size W w' := by
  intro W hT
  have := At_any ca na ta ea p m W hT
  rw [hr] at this
  exact this

theorem tellF_mayR (neg : Bool) (N : Nat) (e : Int) : May (tellF neg N e).1 := by
  by_cases h : May (finD neg N e)
  · rw [tellF_yes h]; exact h
  · rw [tellF_no h]; exact may_zero false

theorem rndD_may {d : DecT} (h : May d) (N : Nat) (x : Int) (m : Nat) : May (rndD d N x m).1 := by
  by_cases hz : d.dig = []
  · rw [rndD_zero hz]; exact h
  · rw [rndD_fin hz]; exact tellF_mayR _ _ _

theorem atR_may {ca : Int} {na : Bool} {l : List UInt8} {ea : Int} (p m : Int) : May (atR ca na l ea p m).1 := by
  by_cases h : MayD ca na l ea
  · by_cases h1 : m < 0 ∨ 8 ≤ m
    · rw [atR_mode h h1]; exact may_zero false
    · by_cases h2 : p < -4000 ∨ 4000 < p
      · rw [atR_place h h1 h2]; exact may_zero false
      · rw [atR_in h h1 h2]; exact rndD_may (may_of h) _ _ _
  · rw [atR_no h]; exact may_zero false

theorem stepR_may {ca : Int} {na : Bool} {l : List UInt8} {ea : Int} (cb : Int) (nb : Bool) (k : List UInt8) (eb m : Int) : May (stepR ca na l ea cb nb k eb m).1 := by
  by_cases hb : MayD cb nb k eb
  · by_cases h : MayD ca na l ea
    · by_cases h1 : m < 0 ∨ 8 ≤ m
      · rw [stepR_mode hb h h1]; exact may_zero false
      · by_cases h2 : StepD cb nb k
        · rw [stepR_in hb h h1 h2]; exact rndD_may (may_of h) _ _ _
        · rw [stepR_bad hb h h1 h2]; exact may_zero false
    · rw [stepR_no hb h]; exact may_zero false
  · rw [stepR_bno hb]; exact may_zero false

end Go.Proofs.YtcclbcnmkaobpaaGreatDoor

namespace Go.Proofs.YtcclbcnmkaobpaaGreatDoor
open Go.RowKit

/-- The number with the other sign. -/
def flipD (d : DecT) : DecT := ⟨d.cls, !d.neg, d.dig, d.exp⟩

/-- Ceiling and Floor change places. -/
def swapM (m : Nat) : Nat := if m = 0 then 1 else if m = 1 then 0 else m

theorem leavesB_swap (m : Nat) (neg odd : Bool) (half : Int) : leavesB (swapM m) (!neg) odd half = leavesB m neg odd half := by
  unfold swapM
  by_cases h0 : m = 0
  · subst h0; simp [leavesB]
  · by_cases h1 : m = 1
    · subst h1; simp [leavesB]
    · rw [if_neg h0, if_neg h1]
      unfold leavesB
      split <;> first | rfl | omega

theorem rndN_swap (A U : Nat) (neg : Bool) (m : Nat) : rndN A U (!neg) (swapM m) = rndN A U neg m := by
  unfold rndN
  rw [leavesB_swap]

theorem finD_flip (neg : Bool) (N : Nat) (e : Int) : finD (!neg) N e = flipD (finD neg N e) := by
  unfold finD
  split
  · rfl
  · rfl

theorem may_flip {d : DecT} (h : d.cls ≠ 2) : May (flipD d) ↔ May d := by
  unfold May MayD flipD
  simp only
  constructor
  · rintro (g | g | ⟨g, _⟩)
    · exact .inl g
    · exact .inr (.inl g)
    · omega
  · rintro (g | g | ⟨g, _⟩)
    · exact .inl g
    · exact .inr (.inl g)
    · omega

theorem tellF_flip (neg : Bool) (N : Nat) (e : Int) : (tellF (!neg) N e).2 = (tellF neg N e).2 ∧ ((tellF neg N e).2 = 0 → (tellF (!neg) N e).1 = flipD (tellF neg N e).1 ∧ (tellF neg N e).1.cls = 0) := by
  have hc := finD_cls neg N e
  have hm : May (finD (!neg) N e) ↔ May (finD neg N e) := by rw [finD_flip]; exact may_flip (by omega)
  by_cases h : May (finD neg N e)
  · rw [tellF_yes h, tellF_yes (hm.2 h)]
    exact ⟨rfl, fun _ => ⟨finD_flip _ _ _, hc⟩⟩
  · rw [tellF_no h, tellF_no (fun g => h (hm.1 g))]
    exact ⟨rfl, fun g => absurd g (by decide)⟩

theorem rndD_flip (d : DecT) (N : Nat) (x : Int) (m : Nat) : (rndD (flipD d) N x (swapM m)).2 = (rndD d N x m).2 ∧ ((rndD d N x m).2 = 0 → (rndD (flipD d) N x (swapM m)).1 = flipD (rndD d N x m).1 ∧ ((rndD d N x m).1.cls = 0 ∨ (rndD d N x m).1.cls = d.cls)) := by
  by_cases hz : d.dig = []
  · rw [rndD_zero hz, rndD_zero (show (flipD d).dig = [] from hz)]
    exact ⟨rfl, fun _ => ⟨rfl, .inr rfl⟩⟩
  · rw [rndD_fin hz, rndD_fin (show (flipD d).dig ≠ [] from hz)]
    unfold flipD
    simp only
    rw [rndN_swap]
    obtain ⟨h1, h2⟩ := tellF_flip d.neg (rndN (decV d.dig * 10 ^ (d.exp - min d.exp x).toNat) (N * 10 ^ (x - min d.exp x).toNat) d.neg m * N) x
    exact ⟨h1, fun h => ⟨(h2 h).1, .inl (h2 h).2⟩⟩

theorem Neg_d (d : DecT) (h : May d) (hc : d.cls ≠ 2) (w : World) : Calls Tryz.prog 22 #[decVal d] w fun e w' => e = .returned (.tuple #[decVal (flipD d), .int .i64 0]) ∧ Below w.heap.size w w' :=
  Neg_yes (d.cls : Int) d.neg ⟨d.dig.toArray⟩ d.exp w (by rw [bys_mk]; exact h) (by omega)

/-- Where nothing is refused ahead: the number with the other sign is refused alike, or rounded to the one with the other sign. -/
theorem atR_flip {ca : Int} {na : Bool} {l : List UInt8} {ea : Int} (p : Int) {m o : Int} (h : MayD ca na l ea) (hc : ca ≠ 2) (ho : (m = 0 ∧ o = 1) ∨ (m = 1 ∧ o = 0) ∨ (m ≠ 0 ∧ m ≠ 1 ∧ o = m)) :
    (atR ca (!na) l ea p o).2 = (atR ca na l ea p m).2 ∧ ((atR ca na l ea p m).2 = 0 → (atR ca (!na) l ea p o).1 = flipD (atR ca na l ea p m).1 ∧ (atR ca na l ea p m).1.cls ≠ 2) := by
  have hn : ca.toNat ≠ 2 := by have := may_cls h; omega
  have hf : MayD ca (!na) l ea := by
    have := (may_flip (d := ⟨ca.toNat, na, l, ea⟩) hn).2 (may_of h)
    unfold May flipD at this
    simp only at this
    rw [← may_cls h] at this
    exact this
  by_cases h1 : m < 0 ∨ 8 ≤ m
  · rw [atR_mode h h1, atR_mode hf (by omega)]
    exact ⟨rfl, fun g => absurd g (by decide)⟩
  · by_cases h2 : p < -4000 ∨ 4000 < p
    · rw [atR_place h h1 h2, atR_place hf (by omega) h2]
      exact ⟨rfl, fun g => absurd g (by decide)⟩
    · rw [atR_in h h1 h2, atR_in hf (by omega) h2]
      have e : o.toNat = swapM m.toNat := by
        unfold swapM
        rcases ho with ⟨rfl, rfl⟩ | ⟨rfl, rfl⟩ | ⟨q1, q2, rfl⟩
        · rfl
        · rfl
        · rw [if_neg (by omega), if_neg (by omega)]
      rw [e]
      obtain ⟨g1, g2⟩ := rndD_flip ⟨ca.toNat, na, l, ea⟩ 1 p m.toNat
      refine ⟨g1, fun g => ⟨(g2 g).1, ?_⟩⟩
      rcases (g2 g).2 with q | q
      · rw [q]; decide
      · rw [q]; exact hn

theorem atR_nan (p : Int) {m o : Int} (ho : (m = 0 ∧ o = 1) ∨ (m = 1 ∧ o = 0) ∨ (m ≠ 0 ∧ m ≠ 1 ∧ o = m)) : (atR 2 false [] 0 p o) = atR 2 false [] 0 p m ∧ ((atR 2 false [] 0 p m).2 = 0 → (atR 2 false [] 0 p m).1 = ⟨2, false, [], 0⟩) := by
  have h : MayD 2 false [] 0 := .inr (.inr ⟨rfl, rfl, rfl, rfl⟩)
  by_cases h1 : m < 0 ∨ 8 ≤ m
  · rw [atR_mode h h1, atR_mode h (by omega)]
    exact ⟨rfl, fun g => absurd g (by decide)⟩
  · by_cases h2 : p < -4000 ∨ 4000 < p
    · rw [atR_place h h1 h2, atR_place h (by omega) h2]
      exact ⟨rfl, fun g => absurd g (by decide)⟩
    · rw [atR_in h h1 h2, atR_in h (by omega) h2, rndD_zero rfl, rndD_zero rfl]
      exact ⟨rfl, fun _ => rfl⟩

theorem nan_eq {na : Bool} {ta : ByteArray} {ea : Int} (h : MayD 2 na (bys ta) ea) : na = false ∧ ta = ⟨#[]⟩ ∧ ea = 0 := by
  rcases h with ⟨g, _⟩ | ⟨g, _⟩ | ⟨_, g1, g2, g3⟩
  · omega
  · omega
  · refine ⟨g1, ?_, g3⟩
    obtain ⟨⟨l⟩⟩ := ta
    have : l = [] := g2
    subst this; rfl

theorem neg_some (x : DecT) (h : May x) : ∃ z : DecT × Int, ∀ W, Calls Tryz.prog 22 #[decVal x] W fun e w' => e = .returned (decErr z) ∧ Below W.heap.size W w' := by
  by_cases hc : x.cls = 2
  · rcases may_cases h with ⟨n, rfl⟩ | h | ⟨n, rfl⟩ | rfl
    · cases hc
    · rw [h.cls] at hc; cases hc
    · cases hc
    · exact ⟨(⟨2, false, [], 0⟩, 0), Neg_nan⟩
  · exact ⟨(flipD x, 0), Neg_d x h hc⟩

theorem signs_may (ca : Int) (na : Bool) (ta : ByteArray) (ea : Int) (p m o : Int) (ho : (m = 0 ∧ o = 1) ∨ (m = 1 ∧ o = 0) ∨ (m ≠ 0 ∧ m ≠ 1 ∧ o = m)) (n x y : DecT) (f : Int) (w : World) (htab : Tab w)
    (h0 : ∀ W, Calls Tryz.prog 22 #[dcV ca na ta ea] W fun e w' => e = .returned (.tuple #[decVal n, .int .i64 0]) ∧ Below W.heap.size W w')
    (h1 : ∀ W, Tab W → Calls Tryz.prog 11 #[dcV ca na ta ea, .int .i64 p, .int .i64 m] W fun e w' => e = .returned (decErr (x, f)) ∧ Below W.heap.size W w')
    (h2 : ∀ W, Tab W → Calls Tryz.prog 11 #[decVal n, .int .i64 p, .int .i64 o] W fun e w' => e = .returned (decErr (y, f)) ∧ Below W.heap.size W w')
    (hx : May x) (h3 : f = 0 → ∀ W, Calls Tryz.prog 22 #[decVal x] W fun e w' => e = .returned (.tuple #[decVal y, .int .i64 0]) ∧ Below W.heap.size W w') :
    Calls Tryz.prog 8 #[dcV ca na ta ea, .int .i64 p, .int .i64 m] w fun e w' => e = .returned (.bool true) ∧ Below w.heap.size w w' := by
  by_cases hf : f = 0
  · subst hf
    rcases ho with ⟨rfl, rfl⟩ | ⟨rfl, rfl⟩ | ⟨q1, q2, rfl⟩
    · exact signs_0_ok ca na ta ea p n.cls n.neg ⟨n.dig.toArray⟩ n.exp x.cls x.neg ⟨x.dig.toArray⟩ x.exp y.cls y.neg ⟨y.dig.toArray⟩ y.exp 0 w htab h0 h1 h2 (h3 rfl)
    · exact signs_1_ok ca na ta ea p n.cls n.neg ⟨n.dig.toArray⟩ n.exp x.cls x.neg ⟨x.dig.toArray⟩ x.exp y.cls y.neg ⟨y.dig.toArray⟩ y.exp 0 w htab h0 h1 h2 (h3 rfl)
    · exact signs_9_ok ca na ta ea p _ n.cls n.neg ⟨n.dig.toArray⟩ n.exp x.cls x.neg ⟨x.dig.toArray⟩ x.exp y.cls y.neg ⟨y.dig.toArray⟩ y.exp 0 w htab q1 q2 h0 h1 h2 (h3 rfl)
  · obtain ⟨z, hz⟩ := neg_some x hx
    rcases ho with ⟨rfl, rfl⟩ | ⟨rfl, rfl⟩ | ⟨q1, q2, rfl⟩
    · exact signs_0_bad ca na ta ea p n.cls n.neg ⟨n.dig.toArray⟩ n.exp x.cls x.neg ⟨x.dig.toArray⟩ x.exp y.cls y.neg ⟨y.dig.toArray⟩ y.exp z.1.cls z.1.neg ⟨z.1.dig.toArray⟩ z.1.exp f z.2 w htab h0 h1 h2 hz hf
    · exact signs_1_bad ca na ta ea p n.cls n.neg ⟨n.dig.toArray⟩ n.exp x.cls x.neg ⟨x.dig.toArray⟩ x.exp y.cls y.neg ⟨y.dig.toArray⟩ y.exp z.1.cls z.1.neg ⟨z.1.dig.toArray⟩ z.1.exp f z.2 w htab h0 h1 h2 hz hf
    · exact signs_9_bad ca na ta ea p _ n.cls n.neg ⟨n.dig.toArray⟩ n.exp x.cls x.neg ⟨x.dig.toArray⟩ x.exp y.cls y.neg ⟨y.dig.toArray⟩ y.exp z.1.cls z.1.neg ⟨z.1.dig.toArray⟩ z.1.exp f z.2 w htab q1 q2 h0 h1 h2 hz hf

theorem signs_walk (w : World) (htab : Tab w) (ca : Int) (na : Bool) (ta : ByteArray) (ea : Int) (p m : Int) : Calls Tryz.prog 8 #[dcV ca na ta ea, .int .i64 p, .int .i64 m] w fun e w' => e = .returned (.bool true) ∧ Below w.heap.size w w' := by
  obtain ⟨o, ho⟩ : ∃ o : Int, (m = 0 ∧ o = 1) ∨ (m = 1 ∧ o = 0) ∨ (m ≠ 0 ∧ m ≠ 1 ∧ o = m) := by
    by_cases h0 : m = 0
    · exact ⟨1, .inl ⟨h0, rfl⟩⟩
    · by_cases h1 : m = 1
      · exact ⟨0, .inr (.inl ⟨h1, rfl⟩)⟩
      · exact ⟨m, .inr (.inr ⟨h0, h1, rfl⟩)⟩
  by_cases h : MayD ca na (bys ta) ea
  · by_cases hc : ca = 2
    · subst hc
      obtain ⟨rfl, rfl, rfl⟩ := nan_eq h
      obtain ⟨e1, e2⟩ := atR_nan p ho
      have A2 := At_of (ca := 2) (na := false) (ta := ⟨#[]⟩) (ea := 0) (p := p) (m := o) e1
      have A1 := At_of (ca := 2) (na := false) (ta := ⟨#[]⟩) (ea := 0) (p := p) (m := m) (r := atR 2 false [] 0 p m) rfl
      have hx := atR_may (ca := 2) (na := false) (l := []) (ea := 0) p m
      refine signs_may 2 false ⟨#[]⟩ 0 p m o ho ⟨2, false, [], 0⟩ (atR 2 false [] 0 p m).1 (atR 2 false [] 0 p m).1 (atR 2 false [] 0 p m).2 w htab Neg_nan A1 A2 hx (fun hf => ?_)
      rw [e2 hf]
      exact Neg_nan
    · obtain ⟨g1, g2⟩ := atR_flip p h hc ho
      have A1 := At_of (ca := ca) (na := na) (ta := ta) (ea := ea) (p := p) (m := m) rfl
      have A2 := At_of (ca := ca) (na := !na) (ta := ta) (ea := ea) (p := p) (m := o) (r := ((atR ca (!na) (bys ta) ea p o).1, (atR ca na (bys ta) ea p m).2)) (Prod.ext rfl g1)
      have hcn := may_cls h
      have NG : ∀ W, Calls Tryz.prog 22 #[dcV ca na ta ea] W fun e w' => e = .returned (.tuple #[decVal ⟨ca.toNat, !na, bys ta, ea⟩, .int .i64 0]) ∧ Below W.heap.size W w' := by
        intro W
        have := Neg_yes ca na ta ea W h hc
        unfold decVal
        simp only
        rw [← hcn, mk_bys]
        exact this
      have hv : decVal ⟨ca.toNat, !na, bys ta, ea⟩ = dcV ca (!na) ta ea := by
        unfold decVal
        simp only
        rw [← hcn, mk_bys]
      refine signs_may ca na ta ea p m o ho ⟨ca.toNat, !na, bys ta, ea⟩ (atR ca na (bys ta) ea p m).1 (atR ca (!na) (bys ta) ea p o).1 (atR ca na (bys ta) ea p m).2 w htab NG A1 (by rw [hv]; exact A2) (atR_may p m) (fun hf => ?_)
      rw [(g2 hf).1]
      exact Neg_d _ (atR_may p m) (g2 hf).2
  · have A1 := At_of (ca := ca) (na := na) (ta := ta) (ea := ea) (p := p) (m := m) (r := (zeroD, 52)) (atR_no h)
    have A2 := At_of (ca := 0) (na := false) (ta := ⟨#[]⟩) (ea := 0) (p := p) (m := o) rfl
    have NG := fun W => Neg_no ca na ta ea W h
    generalize atR 0 false (bys ⟨#[]⟩) 0 p o = r at A2
    rcases ho with ⟨rfl, rfl⟩ | ⟨rfl, rfl⟩ | ⟨q1, q2, rfl⟩
    · exact signs_0_no ca na ta ea p 0 false ⟨#[]⟩ 0 0 false ⟨#[]⟩ 0 r.1.cls r.1.neg ⟨r.1.dig.toArray⟩ r.1.exp r.2 w htab NG A1 A2
    · exact signs_1_no ca na ta ea p 0 false ⟨#[]⟩ 0 0 false ⟨#[]⟩ 0 r.1.cls r.1.neg ⟨r.1.dig.toArray⟩ r.1.exp r.2 w htab NG A1 A2
    · exact signs_9_no ca na ta ea p _ 0 false ⟨#[]⟩ 0 0 false ⟨#[]⟩ 0 r.1.cls r.1.neg ⟨r.1.dig.toArray⟩ r.1.exp r.2 w htab q1 q2 NG A1 A2

end Go.Proofs.YtcclbcnmkaobpaaGreatDoor

namespace Go.Proofs.YtcclbcnmkaobpaaGreatDoor
open Go.RowKit

theorem tg : Tryz.prog.globalNamed "internal/strconv.uint64pow10" = some 3 := by kernel_rfl
theorem tgt : (Tryz.prog.globals[3]?).map (·.type) = some 182 := by kernel_rfl
theorem tc20 : Tryz.prog.cellsOf 182 = 20 := by kernel_rfl
theorem tc1 : Tryz.prog.cellsOf 77 = 1 := by kernel_rfl

theorem table {W : World} (h : laidMetH Tryz.prog [("math/bits.deBruijn32tab", Rows.laid_math_bits_deBruijn32tab), ("math/bits.deBruijn64tab", Rows.laid_math_bits_deBruijn64tab), ("internal/strconv.uint64pow10", Rows.laid_internal_strconv_uint64pow10), ("unicode/utf8.acceptRanges", Rows.laid_unicode_utf8_acceptRanges), ("unicode/utf8.first", Rows.laid_unicode_utf8_first)] W) : Tab W := by
  have h' : laidMet Tryz.prog [("math/bits.deBruijn32tab", Rows.laid_math_bits_deBruijn32tab), ("math/bits.deBruijn64tab", Rows.laid_math_bits_deBruijn64tab), ("internal/strconv.uint64pow10", Rows.laid_internal_strconv_uint64pow10), ("unicode/utf8.acceptRanges", Rows.laid_unicode_utf8_acceptRanges), ("unicode/utf8.first", Rows.laid_unicode_utf8_first)] W := h
  obtain ⟨ps, ⟨_, _, _, _, _, q1, _, _, _, _, ⟨_, _, _, _, _, q2, _, _, _, _, ⟨g', t', cs, fuel, p3, q3, hg', ht', hvar, hd, _, _⟩, _⟩, _⟩, _⟩ := h'
  obtain rfl := Option.some.inj (tg.symm.trans hg')
  obtain rfl := Option.some.inj (tgt.symm.trans ht')
  unfold Tab Lib.TabIs
  have hd' : DataW.trod (fun _ => ()) Tryz.prog W 0 (fun _ => true) false fuel 182 cs.toList = some (Lib.tabData .u64 Lib.pow10Tab, p3) := hd
  rw [hvar, ← Lib.cells_of_tab Tryz.underlying182 Tryz.underlying77 tc1 tc20 hd']

theorem nat_of_u64 {z : Int} (h : (Lit.int .u64 z).wf = true) : ∃ n : Nat, n < 18446744073709551616 ∧ z = (n : Int) := by
  have h2 : IntKind.u64.min ≤ z ∧ z ≤ IntKind.u64.max := by simpa [Lit.wf] using h
  rw [show IntKind.u64.min = 0 by decide, show IntKind.u64.max = 18446744073709551615 by decide] at h2
  exact ⟨z.toNat, by omega, by omega⟩
theorem nat_of_u32 {z : Int} (h : (Lit.int .u32 z).wf = true) : ∃ n : Nat, n < 4294967296 ∧ z = (n : Int) := by
  have h2 : IntKind.u32.min ≤ z ∧ z ≤ IntKind.u32.max := by simpa [Lit.wf] using h
  rw [show IntKind.u32.min = 0 by decide, show IntKind.u32.max = 4294967295 by decide] at h2
  exact ⟨z.toNat, by omega, by omega⟩

/-- The values of a table's reading, whose places hold one number or a few. -/
def tabVals : DataW Unit → Array Value
  | .agg l => (l.flatMap fun
      | .lit (.int k z) => [Value.int k z]
      | .agg l2 => l2.map fun
        | .lit (.int k z) => Value.int k z
        | _ => .int .u8 0
      | _ => []).toArray
  | _ => #[]

/-- A block that holds other values, of the same type. -/
def putVals (d : DataW Unit) : Obj → Obj
  | .cells _ t frozen => .cells (tabVals d) t frozen
  | o => o

/-- The settled world, the five tables holding what their initialisers lay. -/
noncomputable def laidWorld (os : Os) : World :=
  { World.holding Tryz.prog os ⟨#[], #[], []⟩ with
    heap := (((((World.holding Tryz.prog os ⟨#[], #[], []⟩).heap.modify 6 (putVals Rows.laid_math_bits_deBruijn32tab)).modify 7 (putVals Rows.laid_math_bits_deBruijn64tab)).modify 3 (putVals Rows.laid_internal_strconv_uint64pow10)).modify 5 (putVals Rows.laid_unicode_utf8_acceptRanges)).modify 4 (putVals Rows.laid_unicode_utf8_first) }

end Go.Proofs.YtcclbcnmkaobpaaGreatDoor
