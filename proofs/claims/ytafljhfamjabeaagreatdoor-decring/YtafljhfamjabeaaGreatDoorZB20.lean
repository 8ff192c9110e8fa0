/-
  The walk of DecRing.
-/
import Derived.Test.YtafljhfamjabeaaGreatDoorZB7
import Derived.Test.YtafljhfamjabeaaGreatDoorZB19
namespace Go.Proofs.YtafljhfamjabeaaGreatDoor
open Go.RowKit

theorem bne_eq {x y : Int} (h : (x != y) = false) : x = y := by simpa using h

set_option maxRecDepth 100000 in
set_option maxHeartbeats 8000000 in
theorem ring_gen (ca : Int) (na : Bool) (ta : ByteArray) (ea : Int) (cb : Int) (nb : Bool) (tb : ByteArray) (eb : Int) (cc : Int) (nc : Bool) (tc : ByteArray) (ec : Int) (cx : Int) (nx : Bool) (tx : ByteArray) (ex rx : Int) (cz : Int) (nz : Bool) (tz : ByteArray) (ez rz : Int) (cp : Int) (np : Bool) (tp : ByteArray) (ep rp : Int) (cl : Int) (nl : Bool) (tl : ByteArray) (el rl : Int) (cq : Int) (nq : Bool) (tq : ByteArray) (eq rq : Int) (cr : Int) (nr : Bool) (tr : ByteArray) (er rr : Int) (w : World) (htab : Tab w) (h0 : ∀ W, Tab W → Calls Tryz.prog 28 #[dcV ca na ta ea, dcV cb nb tb eb] W fun e w' => e = .returned (.tuple #[.agg #[.int .i64 cx, .bool nx, .string tx, .int .i64 ex], .int .i64 rx]) ∧ Below W.heap.size W w') (h1 : ∀ W, Tab W → Calls Tryz.prog 28 #[dcV cb nb tb eb, dcV ca na ta ea] W fun e w' => e = .returned (.tuple #[.agg #[.int .i64 cx, .bool nx, .string tx, .int .i64 ex], .int .i64 rx]) ∧ Below W.heap.size W w') (h2 : ∀ W, Tab W → Calls Tryz.prog 30 #[dcV ca na ta ea, dcV cb nb tb eb] W fun e w' => e = .returned (.tuple #[.agg #[.int .i64 cz, .bool nz, .string tz, .int .i64 ez], .int .i64 rz]) ∧ Below W.heap.size W w') (h3 : ∀ W, Tab W → Calls Tryz.prog 30 #[dcV cb nb tb eb, dcV ca na ta ea] W fun e w' => e = .returned (.tuple #[.agg #[.int .i64 cz, .bool nz, .string tz, .int .i64 ez], .int .i64 rz]) ∧ Below W.heap.size W w') (h4 : ∀ W, Tab W → Calls Tryz.prog 28 #[dcV cb nb tb eb, dcV cc nc tc ec] W fun e w' => e = .returned (.tuple #[.agg #[.int .i64 cp, .bool np, .string tp, .int .i64 ep], .int .i64 rp]) ∧ Below W.heap.size W w') (h5 : ∀ W, Tab W → Calls Tryz.prog 30 #[dcV ca na ta ea, .agg #[.int .i64 cp, .bool np, .string tp, .int .i64 ep]] W fun e w' => e = .returned (.tuple #[.agg #[.int .i64 cl, .bool nl, .string tl, .int .i64 el], .int .i64 rl]) ∧ Below W.heap.size W w') (h6 : ∀ W, Tab W → Calls Tryz.prog 30 #[dcV ca na ta ea, dcV cc nc tc ec] W fun e w' => e = .returned (.tuple #[.agg #[.int .i64 cq, .bool nq, .string tq, .int .i64 eq], .int .i64 rq]) ∧ Below W.heap.size W w') (h7 : ∀ W, Tab W → Calls Tryz.prog 28 #[.agg #[.int .i64 cz, .bool nz, .string tz, .int .i64 ez], .agg #[.int .i64 cq, .bool nq, .string tq, .int .i64 eq]] W fun e w' => e = .returned (.tuple #[.agg #[.int .i64 cr, .bool nr, .string tr, .int .i64 er], .int .i64 rr]) ∧ Below W.heap.size W w') (hc : rp = 0 → rl = 0 → rz = 0 → rq = 0 → rr = 0 → ca = 0 → cb = 0 → cc = 0 → ∀ W, Calls Tryz.prog 22 #[.agg #[.int .i64 cl, .bool nl, .string tl, .int .i64 el], .agg #[.int .i64 cr, .bool nr, .string tr, .int .i64 er]] W fun e w' => e = .returned (.tuple #[.int .i64 0, .int .i64 0]) ∧ Below W.heap.size W w') : Calls Tryz.prog 10 #[dcV ca na ta ea, dcV cb nb tb eb, dcV cc nc tc ec] w fun e w' => e = .returned (.bool true) ∧ Below w.heap.size w w' := by
  have H0 := hide h0
  have H1 := hide h1
  have H2 := hide h2
  have H3 := hide h3
  have H4 := hide h4
  have H5 := hide h5
  have H6 := hide h6
  have H7 := hide h7
  have HC := hide hc
  have HT := hide htab
  clear htab hc h0 h1 h2 h3 h4 h5 h6 h7
  have Ba0 := hide (((Blk.newAt w (w.heap.size) (rfl) #[.int .i64 ca, .bool na, .string ta, .int .i64 ea] 23).alloc (.cells #[.int .i64 cb, .bool nb, .string tb, .int .i64 eb] 23)).alloc (.cells #[.int .i64 cc, .bool nc, .string tc, .int .i64 ec] 23))
  have Bb0 := hide ((Blk.newAt (w.alloc (.cells #[.int .i64 ca, .bool na, .string ta, .int .i64 ea] 23)) (w.heap.size + 1) (by simp) #[.int .i64 cb, .bool nb, .string tb, .int .i64 eb] 23).alloc (.cells #[.int .i64 cc, .bool nc, .string tc, .int .i64 ec] 23))
  have Bc0 := hide (Blk.newAt ((w.alloc (.cells #[.int .i64 ca, .bool na, .string ta, .int .i64 ea] 23)).alloc (.cells #[.int .i64 cb, .bool nb, .string tb, .int .i64 eb] 23)) (w.heap.size + 1 + 1) (by simp) #[.int .i64 cc, .bool nc, .string tc, .int .i64 ec] 23)
  have HB0 : Hid (Below w.heap.size w (((w.alloc (.cells #[.int .i64 ca, .bool na, .string ta, .int .i64 ea] 23)).alloc (.cells #[.int .i64 cb, .bool nb, .string tb, .int .i64 eb] 23)).alloc (.cells #[.int .i64 cc, .bool nc, .string tc, .int .i64 ec] 23))) := ((((Below.refl _ _).alloc (Nat.le_refl _) _).alloc (by simp <;> omega) _).alloc (by simp <;> omega) _)
  go_enter Tryz.func10, Tryz.ntmps10
  go_wp2_with fail
  refine (H0.out _ (HT.out.below HB0.out)).mono ?_
  rintro e w1 ⟨rfl, hb⟩
  have Ba1 := hide (Ba0.out.below hb Ba0.out.lt)
  have Bb1 := hide (Bb0.out.below hb Bb0.out.lt)
  have Bc1 := hide (Bc0.out.below hb Bc0.out.lt)
  have HB1 := hide (HB0.out.trans (hb.mono HB0.out.size))
  clear hb Ba0 Bb0 Bc0 HB0 
  have ya0 : w1.cell? ⟨w.heap.size, 0, none⟩ = some (.int .i64 ca) := Ba1.out.cell 0
  have ya1 : w1.cell? ⟨w.heap.size, 1, none⟩ = some (.bool na) := Ba1.out.cell 1
  have ya2 : w1.cell? ⟨w.heap.size, 2, none⟩ = some (.string ta) := Ba1.out.cell 2
  have ya3 : w1.cell? ⟨w.heap.size, 3, none⟩ = some (.int .i64 ea) := Ba1.out.cell 3
  have yb0 : w1.cell? ⟨w.heap.size + 1, 0, none⟩ = some (.int .i64 cb) := Bb1.out.cell 0
  have yb1 : w1.cell? ⟨w.heap.size + 1, 1, none⟩ = some (.bool nb) := Bb1.out.cell 1
  have yb2 : w1.cell? ⟨w.heap.size + 1, 2, none⟩ = some (.string tb) := Bb1.out.cell 2
  have yb3 : w1.cell? ⟨w.heap.size + 1, 3, none⟩ = some (.int .i64 eb) := Bb1.out.cell 3
  have yc0 : w1.cell? ⟨w.heap.size + 1 + 1, 0, none⟩ = some (.int .i64 cc) := Bc1.out.cell 0
  have yc1 : w1.cell? ⟨w.heap.size + 1 + 1, 1, none⟩ = some (.bool nc) := Bc1.out.cell 1
  have yc2 : w1.cell? ⟨w.heap.size + 1 + 1, 2, none⟩ = some (.string tc) := Bc1.out.cell 2
  have yc3 : w1.cell? ⟨w.heap.size + 1 + 1, 3, none⟩ = some (.int .i64 ec) := Bc1.out.cell 3
  have Ba2 := hide ((Ba1.out.alloc (.cells #[.int .i64 cx, .bool nx, .string tx, .int .i64 ex] 23)))
  have Bb2 := hide ((Bb1.out.alloc (.cells #[.int .i64 cx, .bool nx, .string tx, .int .i64 ex] 23)))
  have Bc2 := hide ((Bc1.out.alloc (.cells #[.int .i64 cx, .bool nx, .string tx, .int .i64 ex] 23)))
  have Bv02 := hide ((Blk.newAt w1 (w1.heap.size) (rfl) #[.int .i64 cx, .bool nx, .string tx, .int .i64 ex] 23))
  have HB2 : Hid (Below w.heap.size w (w1.alloc (.cells #[.int .i64 cx, .bool nx, .string tx, .int .i64 ex] 23))) := (HB1.out.alloc HB1.out.size _)
  clear Ba1 Bb1 Bc1 HB1 ya0 ya1 ya2 ya3 yb0 yb1 yb2 yb3 yc0 yc1 yc2 yc3
  have ya0 : (w1.alloc (.cells #[.int .i64 cx, .bool nx, .string tx, .int .i64 ex] 23)).cell? ⟨w.heap.size, 0, none⟩ = some (.int .i64 ca) := Ba2.out.cell 0
  have ya1 : (w1.alloc (.cells #[.int .i64 cx, .bool nx, .string tx, .int .i64 ex] 23)).cell? ⟨w.heap.size, 1, none⟩ = some (.bool na) := Ba2.out.cell 1
  have ya2 : (w1.alloc (.cells #[.int .i64 cx, .bool nx, .string tx, .int .i64 ex] 23)).cell? ⟨w.heap.size, 2, none⟩ = some (.string ta) := Ba2.out.cell 2
  have ya3 : (w1.alloc (.cells #[.int .i64 cx, .bool nx, .string tx, .int .i64 ex] 23)).cell? ⟨w.heap.size, 3, none⟩ = some (.int .i64 ea) := Ba2.out.cell 3
  have yb0 : (w1.alloc (.cells #[.int .i64 cx, .bool nx, .string tx, .int .i64 ex] 23)).cell? ⟨w.heap.size + 1, 0, none⟩ = some (.int .i64 cb) := Bb2.out.cell 0
  have yb1 : (w1.alloc (.cells #[.int .i64 cx, .bool nx, .string tx, .int .i64 ex] 23)).cell? ⟨w.heap.size + 1, 1, none⟩ = some (.bool nb) := Bb2.out.cell 1
  have yb2 : (w1.alloc (.cells #[.int .i64 cx, .bool nx, .string tx, .int .i64 ex] 23)).cell? ⟨w.heap.size + 1, 2, none⟩ = some (.string tb) := Bb2.out.cell 2
  have yb3 : (w1.alloc (.cells #[.int .i64 cx, .bool nx, .string tx, .int .i64 ex] 23)).cell? ⟨w.heap.size + 1, 3, none⟩ = some (.int .i64 eb) := Bb2.out.cell 3
  have yc0 : (w1.alloc (.cells #[.int .i64 cx, .bool nx, .string tx, .int .i64 ex] 23)).cell? ⟨w.heap.size + 1 + 1, 0, none⟩ = some (.int .i64 cc) := Bc2.out.cell 0
  have yc1 : (w1.alloc (.cells #[.int .i64 cx, .bool nx, .string tx, .int .i64 ex] 23)).cell? ⟨w.heap.size + 1 + 1, 1, none⟩ = some (.bool nc) := Bc2.out.cell 1
  have yc2 : (w1.alloc (.cells #[.int .i64 cx, .bool nx, .string tx, .int .i64 ex] 23)).cell? ⟨w.heap.size + 1 + 1, 2, none⟩ = some (.string tc) := Bc2.out.cell 2
  have yc3 : (w1.alloc (.cells #[.int .i64 cx, .bool nx, .string tx, .int .i64 ex] 23)).cell? ⟨w.heap.size + 1 + 1, 3, none⟩ = some (.int .i64 ec) := Bc2.out.cell 3
  have yv00 : (w1.alloc (.cells #[.int .i64 cx, .bool nx, .string tx, .int .i64 ex] 23)).cell? ⟨w1.heap.size, 0, none⟩ = some (.int .i64 cx) := Bv02.out.cell 0
  have yv01 : (w1.alloc (.cells #[.int .i64 cx, .bool nx, .string tx, .int .i64 ex] 23)).cell? ⟨w1.heap.size, 1, none⟩ = some (.bool nx) := Bv02.out.cell 1
  have yv02 : (w1.alloc (.cells #[.int .i64 cx, .bool nx, .string tx, .int .i64 ex] 23)).cell? ⟨w1.heap.size, 2, none⟩ = some (.string tx) := Bv02.out.cell 2
  have yv03 : (w1.alloc (.cells #[.int .i64 cx, .bool nx, .string tx, .int .i64 ex] 23)).cell? ⟨w1.heap.size, 3, none⟩ = some (.int .i64 ex) := Bv02.out.cell 3
  go_wp2_with fail
  refine (H1.out _ (HT.out.below HB2.out)).mono ?_
  rintro e w3 ⟨rfl, hb⟩
  have Ba3 := hide (Ba2.out.below hb Ba2.out.lt)
  have Bb3 := hide (Bb2.out.below hb Bb2.out.lt)
  have Bc3 := hide (Bc2.out.below hb Bc2.out.lt)
  have Bv03 := hide (Bv02.out.below hb Bv02.out.lt)
  have HB3 := hide (HB2.out.trans (hb.mono HB2.out.size))
  clear hb Ba2 Bb2 Bc2 Bv02 HB2 ya0 ya1 ya2 ya3 yb0 yb1 yb2 yb3 yc0 yc1 yc2 yc3 yv00 yv01 yv02 yv03
  have ya0 : w3.cell? ⟨w.heap.size, 0, none⟩ = some (.int .i64 ca) := Ba3.out.cell 0
  have ya1 : w3.cell? ⟨w.heap.size, 1, none⟩ = some (.bool na) := Ba3.out.cell 1
  have ya2 : w3.cell? ⟨w.heap.size, 2, none⟩ = some (.string ta) := Ba3.out.cell 2
  have ya3 : w3.cell? ⟨w.heap.size, 3, none⟩ = some (.int .i64 ea) := Ba3.out.cell 3
  have yb0 : w3.cell? ⟨w.heap.size + 1, 0, none⟩ = some (.int .i64 cb) := Bb3.out.cell 0
  have yb1 : w3.cell? ⟨w.heap.size + 1, 1, none⟩ = some (.bool nb) := Bb3.out.cell 1
  have yb2 : w3.cell? ⟨w.heap.size + 1, 2, none⟩ = some (.string tb) := Bb3.out.cell 2
  have yb3 : w3.cell? ⟨w.heap.size + 1, 3, none⟩ = some (.int .i64 eb) := Bb3.out.cell 3
  have yc0 : w3.cell? ⟨w.heap.size + 1 + 1, 0, none⟩ = some (.int .i64 cc) := Bc3.out.cell 0
  have yc1 : w3.cell? ⟨w.heap.size + 1 + 1, 1, none⟩ = some (.bool nc) := Bc3.out.cell 1
  have yc2 : w3.cell? ⟨w.heap.size + 1 + 1, 2, none⟩ = some (.string tc) := Bc3.out.cell 2
  have yc3 : w3.cell? ⟨w.heap.size + 1 + 1, 3, none⟩ = some (.int .i64 ec) := Bc3.out.cell 3
  have yv00 : w3.cell? ⟨w1.heap.size, 0, none⟩ = some (.int .i64 cx) := Bv03.out.cell 0
  have yv01 : w3.cell? ⟨w1.heap.size, 1, none⟩ = some (.bool nx) := Bv03.out.cell 1
  have yv02 : w3.cell? ⟨w1.heap.size, 2, none⟩ = some (.string tx) := Bv03.out.cell 2
  have yv03 : w3.cell? ⟨w1.heap.size, 3, none⟩ = some (.int .i64 ex) := Bv03.out.cell 3
  have Ba4 := hide ((Ba3.out.alloc (.cells #[.int .i64 cx, .bool nx, .string tx, .int .i64 ex] 23)))
  have Bb4 := hide ((Bb3.out.alloc (.cells #[.int .i64 cx, .bool nx, .string tx, .int .i64 ex] 23)))
  have Bc4 := hide ((Bc3.out.alloc (.cells #[.int .i64 cx, .bool nx, .string tx, .int .i64 ex] 23)))
  have Bv04 := hide ((Bv03.out.alloc (.cells #[.int .i64 cx, .bool nx, .string tx, .int .i64 ex] 23)))
  have Bv14 := hide ((Blk.newAt w3 (w3.heap.size) (rfl) #[.int .i64 cx, .bool nx, .string tx, .int .i64 ex] 23))
  have HB4 : Hid (Below w.heap.size w (w3.alloc (.cells #[.int .i64 cx, .bool nx, .string tx, .int .i64 ex] 23))) := (HB3.out.alloc HB3.out.size _)
  clear Ba3 Bb3 Bc3 Bv03 HB3 ya0 ya1 ya2 ya3 yb0 yb1 yb2 yb3 yc0 yc1 yc2 yc3 yv00 yv01 yv02 yv03
  have ya0 : (w3.alloc (.cells #[.int .i64 cx, .bool nx, .string tx, .int .i64 ex] 23)).cell? ⟨w.heap.size, 0, none⟩ = some (.int .i64 ca) := Ba4.out.cell 0
  have ya1 : (w3.alloc (.cells #[.int .i64 cx, .bool nx, .string tx, .int .i64 ex] 23)).cell? ⟨w.heap.size, 1, none⟩ = some (.bool na) := Ba4.out.cell 1
  have ya2 : (w3.alloc (.cells #[.int .i64 cx, .bool nx, .string tx, .int .i64 ex] 23)).cell? ⟨w.heap.size, 2, none⟩ = some (.string ta) := Ba4.out.cell 2
  have ya3 : (w3.alloc (.cells #[.int .i64 cx, .bool nx, .string tx, .int .i64 ex] 23)).cell? ⟨w.heap.size, 3, none⟩ = some (.int .i64 ea) := Ba4.out.cell 3
  have yb0 : (w3.alloc (.cells #[.int .i64 cx, .bool nx, .string tx, .int .i64 ex] 23)).cell? ⟨w.heap.size + 1, 0, none⟩ = some (.int .i64 cb) := Bb4.out.cell 0
  have yb1 : (w3.alloc (.cells #[.int .i64 cx, .bool nx, .string tx, .int .i64 ex] 23)).cell? ⟨w.heap.size + 1, 1, none⟩ = some (.bool nb) := Bb4.out.cell 1
  have yb2 : (w3.alloc (.cells #[.int .i64 cx, .bool nx, .string tx, .int .i64 ex] 23)).cell? ⟨w.heap.size + 1, 2, none⟩ = some (.string tb) := Bb4.out.cell 2
  have yb3 : (w3.alloc (.cells #[.int .i64 cx, .bool nx, .string tx, .int .i64 ex] 23)).cell? ⟨w.heap.size + 1, 3, none⟩ = some (.int .i64 eb) := Bb4.out.cell 3
  have yc0 : (w3.alloc (.cells #[.int .i64 cx, .bool nx, .string tx, .int .i64 ex] 23)).cell? ⟨w.heap.size + 1 + 1, 0, none⟩ = some (.int .i64 cc) := Bc4.out.cell 0
  have yc1 : (w3.alloc (.cells #[.int .i64 cx, .bool nx, .string tx, .int .i64 ex] 23)).cell? ⟨w.heap.size + 1 + 1, 1, none⟩ = some (.bool nc) := Bc4.out.cell 1
  have yc2 : (w3.alloc (.cells #[.int .i64 cx, .bool nx, .string tx, .int .i64 ex] 23)).cell? ⟨w.heap.size + 1 + 1, 2, none⟩ = some (.string tc) := Bc4.out.cell 2
  have yc3 : (w3.alloc (.cells #[.int .i64 cx, .bool nx, .string tx, .int .i64 ex] 23)).cell? ⟨w.heap.size + 1 + 1, 3, none⟩ = some (.int .i64 ec) := Bc4.out.cell 3
  have yv00 : (w3.alloc (.cells #[.int .i64 cx, .bool nx, .string tx, .int .i64 ex] 23)).cell? ⟨w1.heap.size, 0, none⟩ = some (.int .i64 cx) := Bv04.out.cell 0
  have yv01 : (w3.alloc (.cells #[.int .i64 cx, .bool nx, .string tx, .int .i64 ex] 23)).cell? ⟨w1.heap.size, 1, none⟩ = some (.bool nx) := Bv04.out.cell 1
  have yv02 : (w3.alloc (.cells #[.int .i64 cx, .bool nx, .string tx, .int .i64 ex] 23)).cell? ⟨w1.heap.size, 2, none⟩ = some (.string tx) := Bv04.out.cell 2
  have yv03 : (w3.alloc (.cells #[.int .i64 cx, .bool nx, .string tx, .int .i64 ex] 23)).cell? ⟨w1.heap.size, 3, none⟩ = some (.int .i64 ex) := Bv04.out.cell 3
  have yv10 : (w3.alloc (.cells #[.int .i64 cx, .bool nx, .string tx, .int .i64 ex] 23)).cell? ⟨w3.heap.size, 0, none⟩ = some (.int .i64 cx) := Bv14.out.cell 0
  have yv11 : (w3.alloc (.cells #[.int .i64 cx, .bool nx, .string tx, .int .i64 ex] 23)).cell? ⟨w3.heap.size, 1, none⟩ = some (.bool nx) := Bv14.out.cell 1
  have yv12 : (w3.alloc (.cells #[.int .i64 cx, .bool nx, .string tx, .int .i64 ex] 23)).cell? ⟨w3.heap.size, 2, none⟩ = some (.string tx) := Bv14.out.cell 2
  have yv13 : (w3.alloc (.cells #[.int .i64 cx, .bool nx, .string tx, .int .i64 ex] 23)).cell? ⟨w3.heap.size, 3, none⟩ = some (.int .i64 ex) := Bv14.out.cell 3
  go_wp2_with fail
  refine (H2.out _ (HT.out.below HB4.out)).mono ?_
  rintro e w5 ⟨rfl, hb⟩
  have Ba5 := hide (Ba4.out.below hb Ba4.out.lt)
  have Bb5 := hide (Bb4.out.below hb Bb4.out.lt)
  have Bc5 := hide (Bc4.out.below hb Bc4.out.lt)
  have Bv05 := hide (Bv04.out.below hb Bv04.out.lt)
  have Bv15 := hide (Bv14.out.below hb Bv14.out.lt)
  have HB5 := hide (HB4.out.trans (hb.mono HB4.out.size))
  clear hb Ba4 Bb4 Bc4 Bv04 Bv14 HB4 ya0 ya1 ya2 ya3 yb0 yb1 yb2 yb3 yc0 yc1 yc2 yc3 yv00 yv01 yv02 yv03 yv10 yv11 yv12 yv13
  have ya0 : w5.cell? ⟨w.heap.size, 0, none⟩ = some (.int .i64 ca) := Ba5.out.cell 0
  have ya1 : w5.cell? ⟨w.heap.size, 1, none⟩ = some (.bool na) := Ba5.out.cell 1
  have ya2 : w5.cell? ⟨w.heap.size, 2, none⟩ = some (.string ta) := Ba5.out.cell 2
  have ya3 : w5.cell? ⟨w.heap.size, 3, none⟩ = some (.int .i64 ea) := Ba5.out.cell 3
  have yb0 : w5.cell? ⟨w.heap.size + 1, 0, none⟩ = some (.int .i64 cb) := Bb5.out.cell 0
  have yb1 : w5.cell? ⟨w.heap.size + 1, 1, none⟩ = some (.bool nb) := Bb5.out.cell 1
  have yb2 : w5.cell? ⟨w.heap.size + 1, 2, none⟩ = some (.string tb) := Bb5.out.cell 2
  have yb3 : w5.cell? ⟨w.heap.size + 1, 3, none⟩ = some (.int .i64 eb) := Bb5.out.cell 3
  have yc0 : w5.cell? ⟨w.heap.size + 1 + 1, 0, none⟩ = some (.int .i64 cc) := Bc5.out.cell 0
  have yc1 : w5.cell? ⟨w.heap.size + 1 + 1, 1, none⟩ = some (.bool nc) := Bc5.out.cell 1
  have yc2 : w5.cell? ⟨w.heap.size + 1 + 1, 2, none⟩ = some (.string tc) := Bc5.out.cell 2
  have yc3 : w5.cell? ⟨w.heap.size + 1 + 1, 3, none⟩ = some (.int .i64 ec) := Bc5.out.cell 3
  have yv00 : w5.cell? ⟨w1.heap.size, 0, none⟩ = some (.int .i64 cx) := Bv05.out.cell 0
  have yv01 : w5.cell? ⟨w1.heap.size, 1, none⟩ = some (.bool nx) := Bv05.out.cell 1
  have yv02 : w5.cell? ⟨w1.heap.size, 2, none⟩ = some (.string tx) := Bv05.out.cell 2
  have yv03 : w5.cell? ⟨w1.heap.size, 3, none⟩ = some (.int .i64 ex) := Bv05.out.cell 3
  have yv10 : w5.cell? ⟨w3.heap.size, 0, none⟩ = some (.int .i64 cx) := Bv15.out.cell 0
  have yv11 : w5.cell? ⟨w3.heap.size, 1, none⟩ = some (.bool nx) := Bv15.out.cell 1
  have yv12 : w5.cell? ⟨w3.heap.size, 2, none⟩ = some (.string tx) := Bv15.out.cell 2
  have yv13 : w5.cell? ⟨w3.heap.size, 3, none⟩ = some (.int .i64 ex) := Bv15.out.cell 3
  have Ba6 := hide ((Ba5.out.alloc (.cells #[.int .i64 cz, .bool nz, .string tz, .int .i64 ez] 23)))
  have Bb6 := hide ((Bb5.out.alloc (.cells #[.int .i64 cz, .bool nz, .string tz, .int .i64 ez] 23)))
  have Bc6 := hide ((Bc5.out.alloc (.cells #[.int .i64 cz, .bool nz, .string tz, .int .i64 ez] 23)))
  have Bv06 := hide ((Bv05.out.alloc (.cells #[.int .i64 cz, .bool nz, .string tz, .int .i64 ez] 23)))
  have Bv16 := hide ((Bv15.out.alloc (.cells #[.int .i64 cz, .bool nz, .string tz, .int .i64 ez] 23)))
  have Bv26 := hide ((Blk.newAt w5 (w5.heap.size) (rfl) #[.int .i64 cz, .bool nz, .string tz, .int .i64 ez] 23))
  have HB6 : Hid (Below w.heap.size w (w5.alloc (.cells #[.int .i64 cz, .bool nz, .string tz, .int .i64 ez] 23))) := (HB5.out.alloc HB5.out.size _)
  clear Ba5 Bb5 Bc5 Bv05 Bv15 HB5 ya0 ya1 ya2 ya3 yb0 yb1 yb2 yb3 yc0 yc1 yc2 yc3 yv00 yv01 yv02 yv03 yv10 yv11 yv12 yv13
  have ya0 : (w5.alloc (.cells #[.int .i64 cz, .bool nz, .string tz, .int .i64 ez] 23)).cell? ⟨w.heap.size, 0, none⟩ = some (.int .i64 ca) := Ba6.out.cell 0
  have ya1 : (w5.alloc (.cells #[.int .i64 cz, .bool nz, .string tz, .int .i64 ez] 23)).cell? ⟨w.heap.size, 1, none⟩ = some (.bool na) := Ba6.out.cell 1
  have ya2 : (w5.alloc (.cells #[.int .i64 cz, .bool nz, .string tz, .int .i64 ez] 23)).cell? ⟨w.heap.size, 2, none⟩ = some (.string ta) := Ba6.out.cell 2
  have ya3 : (w5.alloc (.cells #[.int .i64 cz, .bool nz, .string tz, .int .i64 ez] 23)).cell? ⟨w.heap.size, 3, none⟩ = some (.int .i64 ea) := Ba6.out.cell 3
  have yb0 : (w5.alloc (.cells #[.int .i64 cz, .bool nz, .string tz, .int .i64 ez] 23)).cell? ⟨w.heap.size + 1, 0, none⟩ = some (.int .i64 cb) := Bb6.out.cell 0
  have yb1 : (w5.alloc (.cells #[.int .i64 cz, .bool nz, .string tz, .int .i64 ez] 23)).cell? ⟨w.heap.size + 1, 1, none⟩ = some (.bool nb) := Bb6.out.cell 1
  have yb2 : (w5.alloc (.cells #[.int .i64 cz, .bool nz, .string tz, .int .i64 ez] 23)).cell? ⟨w.heap.size + 1, 2, none⟩ = some (.string tb) := Bb6.out.cell 2
  have yb3 : (w5.alloc (.cells #[.int .i64 cz, .bool nz, .string tz, .int .i64 ez] 23)).cell? ⟨w.heap.size + 1, 3, none⟩ = some (.int .i64 eb) := Bb6.out.cell 3
  have yc0 : (w5.alloc (.cells #[.int .i64 cz, .bool nz, .string tz, .int .i64 ez] 23)).cell? ⟨w.heap.size + 1 + 1, 0, none⟩ = some (.int .i64 cc) := Bc6.out.cell 0
  have yc1 : (w5.alloc (.cells #[.int .i64 cz, .bool nz, .string tz, .int .i64 ez] 23)).cell? ⟨w.heap.size + 1 + 1, 1, none⟩ = some (.bool nc) := Bc6.out.cell 1
  have yc2 : (w5.alloc (.cells #[.int .i64 cz, .bool nz, .string tz, .int .i64 ez] 23)).cell? ⟨w.heap.size + 1 + 1, 2, none⟩ = some (.string tc) := Bc6.out.cell 2
  have yc3 : (w5.alloc (.cells #[.int .i64 cz, .bool nz, .string tz, .int .i64 ez] 23)).cell? ⟨w.heap.size + 1 + 1, 3, none⟩ = some (.int .i64 ec) := Bc6.out.cell 3
  have yv00 : (w5.alloc (.cells #[.int .i64 cz, .bool nz, .string tz, .int .i64 ez] 23)).cell? ⟨w1.heap.size, 0, none⟩ = some (.int .i64 cx) := Bv06.out.cell 0
  have yv01 : (w5.alloc (.cells #[.int .i64 cz, .bool nz, .string tz, .int .i64 ez] 23)).cell? ⟨w1.heap.size, 1, none⟩ = some (.bool nx) := Bv06.out.cell 1
  have yv02 : (w5.alloc (.cells #[.int .i64 cz, .bool nz, .string tz, .int .i64 ez] 23)).cell? ⟨w1.heap.size, 2, none⟩ = some (.string tx) := Bv06.out.cell 2
  have yv03 : (w5.alloc (.cells #[.int .i64 cz, .bool nz, .string tz, .int .i64 ez] 23)).cell? ⟨w1.heap.size, 3, none⟩ = some (.int .i64 ex) := Bv06.out.cell 3
  have yv10 : (w5.alloc (.cells #[.int .i64 cz, .bool nz, .string tz, .int .i64 ez] 23)).cell? ⟨w3.heap.size, 0, none⟩ = some (.int .i64 cx) := Bv16.out.cell 0
  have yv11 : (w5.alloc (.cells #[.int .i64 cz, .bool nz, .string tz, .int .i64 ez] 23)).cell? ⟨w3.heap.size, 1, none⟩ = some (.bool nx) := Bv16.out.cell 1
  have yv12 : (w5.alloc (.cells #[.int .i64 cz, .bool nz, .string tz, .int .i64 ez] 23)).cell? ⟨w3.heap.size, 2, none⟩ = some (.string tx) := Bv16.out.cell 2
  have yv13 : (w5.alloc (.cells #[.int .i64 cz, .bool nz, .string tz, .int .i64 ez] 23)).cell? ⟨w3.heap.size, 3, none⟩ = some (.int .i64 ex) := Bv16.out.cell 3
  have yv20 : (w5.alloc (.cells #[.int .i64 cz, .bool nz, .string tz, .int .i64 ez] 23)).cell? ⟨w5.heap.size, 0, none⟩ = some (.int .i64 cz) := Bv26.out.cell 0
  have yv21 : (w5.alloc (.cells #[.int .i64 cz, .bool nz, .string tz, .int .i64 ez] 23)).cell? ⟨w5.heap.size, 1, none⟩ = some (.bool nz) := Bv26.out.cell 1
  have yv22 : (w5.alloc (.cells #[.int .i64 cz, .bool nz, .string tz, .int .i64 ez] 23)).cell? ⟨w5.heap.size, 2, none⟩ = some (.string tz) := Bv26.out.cell 2
  have yv23 : (w5.alloc (.cells #[.int .i64 cz, .bool nz, .string tz, .int .i64 ez] 23)).cell? ⟨w5.heap.size, 3, none⟩ = some (.int .i64 ez) := Bv26.out.cell 3
  go_wp2_with fail
  refine (H3.out _ (HT.out.below HB6.out)).mono ?_
  rintro e w7 ⟨rfl, hb⟩
  have Ba7 := hide (Ba6.out.below hb Ba6.out.lt)
  have Bb7 := hide (Bb6.out.below hb Bb6.out.lt)
  have Bc7 := hide (Bc6.out.below hb Bc6.out.lt)
  have Bv07 := hide (Bv06.out.below hb Bv06.out.lt)
  have Bv17 := hide (Bv16.out.below hb Bv16.out.lt)
  have Bv27 := hide (Bv26.out.below hb Bv26.out.lt)
  have HB7 := hide (HB6.out.trans (hb.mono HB6.out.size))
  clear hb Ba6 Bb6 Bc6 Bv06 Bv16 Bv26 HB6 ya0 ya1 ya2 ya3 yb0 yb1 yb2 yb3 yc0 yc1 yc2 yc3 yv00 yv01 yv02 yv03 yv10 yv11 yv12 yv13 yv20 yv21 yv22 yv23
  have ya0 : w7.cell? ⟨w.heap.size, 0, none⟩ = some (.int .i64 ca) := Ba7.out.cell 0
  have ya1 : w7.cell? ⟨w.heap.size, 1, none⟩ = some (.bool na) := Ba7.out.cell 1
  have ya2 : w7.cell? ⟨w.heap.size, 2, none⟩ = some (.string ta) := Ba7.out.cell 2
  have ya3 : w7.cell? ⟨w.heap.size, 3, none⟩ = some (.int .i64 ea) := Ba7.out.cell 3
  have yb0 : w7.cell? ⟨w.heap.size + 1, 0, none⟩ = some (.int .i64 cb) := Bb7.out.cell 0
  have yb1 : w7.cell? ⟨w.heap.size + 1, 1, none⟩ = some (.bool nb) := Bb7.out.cell 1
  have yb2 : w7.cell? ⟨w.heap.size + 1, 2, none⟩ = some (.string tb) := Bb7.out.cell 2
  have yb3 : w7.cell? ⟨w.heap.size + 1, 3, none⟩ = some (.int .i64 eb) := Bb7.out.cell 3
  have yc0 : w7.cell? ⟨w.heap.size + 1 + 1, 0, none⟩ = some (.int .i64 cc) := Bc7.out.cell 0
  have yc1 : w7.cell? ⟨w.heap.size + 1 + 1, 1, none⟩ = some (.bool nc) := Bc7.out.cell 1
  have yc2 : w7.cell? ⟨w.heap.size + 1 + 1, 2, none⟩ = some (.string tc) := Bc7.out.cell 2
  have yc3 : w7.cell? ⟨w.heap.size + 1 + 1, 3, none⟩ = some (.int .i64 ec) := Bc7.out.cell 3
  have yv00 : w7.cell? ⟨w1.heap.size, 0, none⟩ = some (.int .i64 cx) := Bv07.out.cell 0
  have yv01 : w7.cell? ⟨w1.heap.size, 1, none⟩ = some (.bool nx) := Bv07.out.cell 1
  have yv02 : w7.cell? ⟨w1.heap.size, 2, none⟩ = some (.string tx) := Bv07.out.cell 2
  have yv03 : w7.cell? ⟨w1.heap.size, 3, none⟩ = some (.int .i64 ex) := Bv07.out.cell 3
  have yv10 : w7.cell? ⟨w3.heap.size, 0, none⟩ = some (.int .i64 cx) := Bv17.out.cell 0
  have yv11 : w7.cell? ⟨w3.heap.size, 1, none⟩ = some (.bool nx) := Bv17.out.cell 1
  have yv12 : w7.cell? ⟨w3.heap.size, 2, none⟩ = some (.string tx) := Bv17.out.cell 2
  have yv13 : w7.cell? ⟨w3.heap.size, 3, none⟩ = some (.int .i64 ex) := Bv17.out.cell 3
  have yv20 : w7.cell? ⟨w5.heap.size, 0, none⟩ = some (.int .i64 cz) := Bv27.out.cell 0
  have yv21 : w7.cell? ⟨w5.heap.size, 1, none⟩ = some (.bool nz) := Bv27.out.cell 1
  have yv22 : w7.cell? ⟨w5.heap.size, 2, none⟩ = some (.string tz) := Bv27.out.cell 2
  have yv23 : w7.cell? ⟨w5.heap.size, 3, none⟩ = some (.int .i64 ez) := Bv27.out.cell 3
  have Ba8 := hide ((Ba7.out.alloc (.cells #[.int .i64 cz, .bool nz, .string tz, .int .i64 ez] 23)))
  have Bb8 := hide ((Bb7.out.alloc (.cells #[.int .i64 cz, .bool nz, .string tz, .int .i64 ez] 23)))
  have Bc8 := hide ((Bc7.out.alloc (.cells #[.int .i64 cz, .bool nz, .string tz, .int .i64 ez] 23)))
  have Bv08 := hide ((Bv07.out.alloc (.cells #[.int .i64 cz, .bool nz, .string tz, .int .i64 ez] 23)))
  have Bv18 := hide ((Bv17.out.alloc (.cells #[.int .i64 cz, .bool nz, .string tz, .int .i64 ez] 23)))
  have Bv28 := hide ((Bv27.out.alloc (.cells #[.int .i64 cz, .bool nz, .string tz, .int .i64 ez] 23)))
  have Bv38 := hide ((Blk.newAt w7 (w7.heap.size) (rfl) #[.int .i64 cz, .bool nz, .string tz, .int .i64 ez] 23))
  have HB8 : Hid (Below w.heap.size w (w7.alloc (.cells #[.int .i64 cz, .bool nz, .string tz, .int .i64 ez] 23))) := (HB7.out.alloc HB7.out.size _)
  clear Ba7 Bb7 Bc7 Bv07 Bv17 Bv27 HB7 ya0 ya1 ya2 ya3 yb0 yb1 yb2 yb3 yc0 yc1 yc2 yc3 yv00 yv01 yv02 yv03 yv10 yv11 yv12 yv13 yv20 yv21 yv22 yv23
  have ya0 : (w7.alloc (.cells #[.int .i64 cz, .bool nz, .string tz, .int .i64 ez] 23)).cell? ⟨w.heap.size, 0, none⟩ = some (.int .i64 ca) := Ba8.out.cell 0
  have ya1 : (w7.alloc (.cells #[.int .i64 cz, .bool nz, .string tz, .int .i64 ez] 23)).cell? ⟨w.heap.size, 1, none⟩ = some (.bool na) := Ba8.out.cell 1
  have ya2 : (w7.alloc (.cells #[.int .i64 cz, .bool nz, .string tz, .int .i64 ez] 23)).cell? ⟨w.heap.size, 2, none⟩ = some (.string ta) := Ba8.out.cell 2
  have ya3 : (w7.alloc (.cells #[.int .i64 cz, .bool nz, .string tz, .int .i64 ez] 23)).cell? ⟨w.heap.size, 3, none⟩ = some (.int .i64 ea) := Ba8.out.cell 3
  have yb0 : (w7.alloc (.cells #[.int .i64 cz, .bool nz, .string tz, .int .i64 ez] 23)).cell? ⟨w.heap.size + 1, 0, none⟩ = some (.int .i64 cb) := Bb8.out.cell 0
  have yb1 : (w7.alloc (.cells #[.int .i64 cz, .bool nz, .string tz, .int .i64 ez] 23)).cell? ⟨w.heap.size + 1, 1, none⟩ = some (.bool nb) := Bb8.out.cell 1
  have yb2 : (w7.alloc (.cells #[.int .i64 cz, .bool nz, .string tz, .int .i64 ez] 23)).cell? ⟨w.heap.size + 1, 2, none⟩ = some (.string tb) := Bb8.out.cell 2
  have yb3 : (w7.alloc (.cells #[.int .i64 cz, .bool nz, .string tz, .int .i64 ez] 23)).cell? ⟨w.heap.size + 1, 3, none⟩ = some (.int .i64 eb) := Bb8.out.cell 3
  have yc0 : (w7.alloc (.cells #[.int .i64 cz, .bool nz, .string tz, .int .i64 ez] 23)).cell? ⟨w.heap.size + 1 + 1, 0, none⟩ = some (.int .i64 cc) := Bc8.out.cell 0
  have yc1 : (w7.alloc (.cells #[.int .i64 cz, .bool nz, .string tz, .int .i64 ez] 23)).cell? ⟨w.heap.size + 1 + 1, 1, none⟩ = some (.bool nc) := Bc8.out.cell 1
  have yc2 : (w7.alloc (.cells #[.int .i64 cz, .bool nz, .string tz, .int .i64 ez] 23)).cell? ⟨w.heap.size + 1 + 1, 2, none⟩ = some (.string tc) := Bc8.out.cell 2
  have yc3 : (w7.alloc (.cells #[.int .i64 cz, .bool nz, .string tz, .int .i64 ez] 23)).cell? ⟨w.heap.size + 1 + 1, 3, none⟩ = some (.int .i64 ec) := Bc8.out.cell 3
  have yv00 : (w7.alloc (.cells #[.int .i64 cz, .bool nz, .string tz, .int .i64 ez] 23)).cell? ⟨w1.heap.size, 0, none⟩ = some (.int .i64 cx) := Bv08.out.cell 0
  have yv01 : (w7.alloc (.cells #[.int .i64 cz, .bool nz, .string tz, .int .i64 ez] 23)).cell? ⟨w1.heap.size, 1, none⟩ = some (.bool nx) := Bv08.out.cell 1
  have yv02 : (w7.alloc (.cells #[.int .i64 cz, .bool nz, .string tz, .int .i64 ez] 23)).cell? ⟨w1.heap.size, 2, none⟩ = some (.string tx) := Bv08.out.cell 2
  have yv03 : (w7.alloc (.cells #[.int .i64 cz, .bool nz, .string tz, .int .i64 ez] 23)).cell? ⟨w1.heap.size, 3, none⟩ = some (.int .i64 ex) := Bv08.out.cell 3
  have yv10 : (w7.alloc (.cells #[.int .i64 cz, .bool nz, .string tz, .int .i64 ez] 23)).cell? ⟨w3.heap.size, 0, none⟩ = some (.int .i64 cx) := Bv18.out.cell 0
  have yv11 : (w7.alloc (.cells #[.int .i64 cz, .bool nz, .string tz, .int .i64 ez] 23)).cell? ⟨w3.heap.size, 1, none⟩ = some (.bool nx) := Bv18.out.cell 1
  have yv12 : (w7.alloc (.cells #[.int .i64 cz, .bool nz, .string tz, .int .i64 ez] 23)).cell? ⟨w3.heap.size, 2, none⟩ = some (.string tx) := Bv18.out.cell 2
  have yv13 : (w7.alloc (.cells #[.int .i64 cz, .bool nz, .string tz, .int .i64 ez] 23)).cell? ⟨w3.heap.size, 3, none⟩ = some (.int .i64 ex) := Bv18.out.cell 3
  have yv20 : (w7.alloc (.cells #[.int .i64 cz, .bool nz, .string tz, .int .i64 ez] 23)).cell? ⟨w5.heap.size, 0, none⟩ = some (.int .i64 cz) := Bv28.out.cell 0
  have yv21 : (w7.alloc (.cells #[.int .i64 cz, .bool nz, .string tz, .int .i64 ez] 23)).cell? ⟨w5.heap.size, 1, none⟩ = some (.bool nz) := Bv28.out.cell 1
  have yv22 : (w7.alloc (.cells #[.int .i64 cz, .bool nz, .string tz, .int .i64 ez] 23)).cell? ⟨w5.heap.size, 2, none⟩ = some (.string tz) := Bv28.out.cell 2
  have yv23 : (w7.alloc (.cells #[.int .i64 cz, .bool nz, .string tz, .int .i64 ez] 23)).cell? ⟨w5.heap.size, 3, none⟩ = some (.int .i64 ez) := Bv28.out.cell 3
  have yv30 : (w7.alloc (.cells #[.int .i64 cz, .bool nz, .string tz, .int .i64 ez] 23)).cell? ⟨w7.heap.size, 0, none⟩ = some (.int .i64 cz) := Bv38.out.cell 0
  have yv31 : (w7.alloc (.cells #[.int .i64 cz, .bool nz, .string tz, .int .i64 ez] 23)).cell? ⟨w7.heap.size, 1, none⟩ = some (.bool nz) := Bv38.out.cell 1
  have yv32 : (w7.alloc (.cells #[.int .i64 cz, .bool nz, .string tz, .int .i64 ez] 23)).cell? ⟨w7.heap.size, 2, none⟩ = some (.string tz) := Bv38.out.cell 2
  have yv33 : (w7.alloc (.cells #[.int .i64 cz, .bool nz, .string tz, .int .i64 ez] 23)).cell? ⟨w7.heap.size, 3, none⟩ = some (.int .i64 ez) := Bv38.out.cell 3
  go_wp2_with fail
  refine (dawake_any _ (HT.out.below HB8.out)).mono ?_
  rintro e w9 ⟨rfl, hb⟩
  have Ba9 := hide (Ba8.out.below hb Ba8.out.lt)
  have Bb9 := hide (Bb8.out.below hb Bb8.out.lt)
  have Bc9 := hide (Bc8.out.below hb Bc8.out.lt)
  have Bv09 := hide (Bv08.out.below hb Bv08.out.lt)
  have Bv19 := hide (Bv18.out.below hb Bv18.out.lt)
  have Bv29 := hide (Bv28.out.below hb Bv28.out.lt)
  have Bv39 := hide (Bv38.out.below hb Bv38.out.lt)
  have HB9 := hide (HB8.out.trans (hb.mono HB8.out.size))
  clear hb Ba8 Bb8 Bc8 Bv08 Bv18 Bv28 Bv38 HB8 ya0 ya1 ya2 ya3 yb0 yb1 yb2 yb3 yc0 yc1 yc2 yc3 yv00 yv01 yv02 yv03 yv10 yv11 yv12 yv13 yv20 yv21 yv22 yv23 yv30 yv31 yv32 yv33
  have ya0 : w9.cell? ⟨w.heap.size, 0, none⟩ = some (.int .i64 ca) := Ba9.out.cell 0
  have ya1 : w9.cell? ⟨w.heap.size, 1, none⟩ = some (.bool na) := Ba9.out.cell 1
  have ya2 : w9.cell? ⟨w.heap.size, 2, none⟩ = some (.string ta) := Ba9.out.cell 2
  have ya3 : w9.cell? ⟨w.heap.size, 3, none⟩ = some (.int .i64 ea) := Ba9.out.cell 3
  have yb0 : w9.cell? ⟨w.heap.size + 1, 0, none⟩ = some (.int .i64 cb) := Bb9.out.cell 0
  have yb1 : w9.cell? ⟨w.heap.size + 1, 1, none⟩ = some (.bool nb) := Bb9.out.cell 1
  have yb2 : w9.cell? ⟨w.heap.size + 1, 2, none⟩ = some (.string tb) := Bb9.out.cell 2
  have yb3 : w9.cell? ⟨w.heap.size + 1, 3, none⟩ = some (.int .i64 eb) := Bb9.out.cell 3
  have yc0 : w9.cell? ⟨w.heap.size + 1 + 1, 0, none⟩ = some (.int .i64 cc) := Bc9.out.cell 0
  have yc1 : w9.cell? ⟨w.heap.size + 1 + 1, 1, none⟩ = some (.bool nc) := Bc9.out.cell 1
  have yc2 : w9.cell? ⟨w.heap.size + 1 + 1, 2, none⟩ = some (.string tc) := Bc9.out.cell 2
  have yc3 : w9.cell? ⟨w.heap.size + 1 + 1, 3, none⟩ = some (.int .i64 ec) := Bc9.out.cell 3
  have yv00 : w9.cell? ⟨w1.heap.size, 0, none⟩ = some (.int .i64 cx) := Bv09.out.cell 0
  have yv01 : w9.cell? ⟨w1.heap.size, 1, none⟩ = some (.bool nx) := Bv09.out.cell 1
  have yv02 : w9.cell? ⟨w1.heap.size, 2, none⟩ = some (.string tx) := Bv09.out.cell 2
  have yv03 : w9.cell? ⟨w1.heap.size, 3, none⟩ = some (.int .i64 ex) := Bv09.out.cell 3
  have yv10 : w9.cell? ⟨w3.heap.size, 0, none⟩ = some (.int .i64 cx) := Bv19.out.cell 0
  have yv11 : w9.cell? ⟨w3.heap.size, 1, none⟩ = some (.bool nx) := Bv19.out.cell 1
  have yv12 : w9.cell? ⟨w3.heap.size, 2, none⟩ = some (.string tx) := Bv19.out.cell 2
  have yv13 : w9.cell? ⟨w3.heap.size, 3, none⟩ = some (.int .i64 ex) := Bv19.out.cell 3
  have yv20 : w9.cell? ⟨w5.heap.size, 0, none⟩ = some (.int .i64 cz) := Bv29.out.cell 0
  have yv21 : w9.cell? ⟨w5.heap.size, 1, none⟩ = some (.bool nz) := Bv29.out.cell 1
  have yv22 : w9.cell? ⟨w5.heap.size, 2, none⟩ = some (.string tz) := Bv29.out.cell 2
  have yv23 : w9.cell? ⟨w5.heap.size, 3, none⟩ = some (.int .i64 ez) := Bv29.out.cell 3
  have yv30 : w9.cell? ⟨w7.heap.size, 0, none⟩ = some (.int .i64 cz) := Bv39.out.cell 0
  have yv31 : w9.cell? ⟨w7.heap.size, 1, none⟩ = some (.bool nz) := Bv39.out.cell 1
  have yv32 : w9.cell? ⟨w7.heap.size, 2, none⟩ = some (.string tz) := Bv39.out.cell 2
  have yv33 : w9.cell? ⟨w7.heap.size, 3, none⟩ = some (.int .i64 ez) := Bv39.out.cell 3
  go_wp2_with fail
  refine (H4.out _ (HT.out.below HB9.out)).mono ?_
  rintro e w10 ⟨rfl, hb⟩
  have Ba10 := hide (Ba9.out.below hb Ba9.out.lt)
  have Bb10 := hide (Bb9.out.below hb Bb9.out.lt)
  have Bc10 := hide (Bc9.out.below hb Bc9.out.lt)
  have Bv010 := hide (Bv09.out.below hb Bv09.out.lt)
  have Bv110 := hide (Bv19.out.below hb Bv19.out.lt)
  have Bv210 := hide (Bv29.out.below hb Bv29.out.lt)
  have Bv310 := hide (Bv39.out.below hb Bv39.out.lt)
  have HB10 := hide (HB9.out.trans (hb.mono HB9.out.size))
  clear hb Ba9 Bb9 Bc9 Bv09 Bv19 Bv29 Bv39 HB9 ya0 ya1 ya2 ya3 yb0 yb1 yb2 yb3 yc0 yc1 yc2 yc3 yv00 yv01 yv02 yv03 yv10 yv11 yv12 yv13 yv20 yv21 yv22 yv23 yv30 yv31 yv32 yv33
  have ya0 : w10.cell? ⟨w.heap.size, 0, none⟩ = some (.int .i64 ca) := Ba10.out.cell 0
  have ya1 : w10.cell? ⟨w.heap.size, 1, none⟩ = some (.bool na) := Ba10.out.cell 1
  have ya2 : w10.cell? ⟨w.heap.size, 2, none⟩ = some (.string ta) := Ba10.out.cell 2
  have ya3 : w10.cell? ⟨w.heap.size, 3, none⟩ = some (.int .i64 ea) := Ba10.out.cell 3
  have yb0 : w10.cell? ⟨w.heap.size + 1, 0, none⟩ = some (.int .i64 cb) := Bb10.out.cell 0
  have yb1 : w10.cell? ⟨w.heap.size + 1, 1, none⟩ = some (.bool nb) := Bb10.out.cell 1
  have yb2 : w10.cell? ⟨w.heap.size + 1, 2, none⟩ = some (.string tb) := Bb10.out.cell 2
  have yb3 : w10.cell? ⟨w.heap.size + 1, 3, none⟩ = some (.int .i64 eb) := Bb10.out.cell 3
  have yc0 : w10.cell? ⟨w.heap.size + 1 + 1, 0, none⟩ = some (.int .i64 cc) := Bc10.out.cell 0
  have yc1 : w10.cell? ⟨w.heap.size + 1 + 1, 1, none⟩ = some (.bool nc) := Bc10.out.cell 1
  have yc2 : w10.cell? ⟨w.heap.size + 1 + 1, 2, none⟩ = some (.string tc) := Bc10.out.cell 2
  have yc3 : w10.cell? ⟨w.heap.size + 1 + 1, 3, none⟩ = some (.int .i64 ec) := Bc10.out.cell 3
  have yv00 : w10.cell? ⟨w1.heap.size, 0, none⟩ = some (.int .i64 cx) := Bv010.out.cell 0
  have yv01 : w10.cell? ⟨w1.heap.size, 1, none⟩ = some (.bool nx) := Bv010.out.cell 1
  have yv02 : w10.cell? ⟨w1.heap.size, 2, none⟩ = some (.string tx) := Bv010.out.cell 2
  have yv03 : w10.cell? ⟨w1.heap.size, 3, none⟩ = some (.int .i64 ex) := Bv010.out.cell 3
  have yv10 : w10.cell? ⟨w3.heap.size, 0, none⟩ = some (.int .i64 cx) := Bv110.out.cell 0
  have yv11 : w10.cell? ⟨w3.heap.size, 1, none⟩ = some (.bool nx) := Bv110.out.cell 1
  have yv12 : w10.cell? ⟨w3.heap.size, 2, none⟩ = some (.string tx) := Bv110.out.cell 2
  have yv13 : w10.cell? ⟨w3.heap.size, 3, none⟩ = some (.int .i64 ex) := Bv110.out.cell 3
  have yv20 : w10.cell? ⟨w5.heap.size, 0, none⟩ = some (.int .i64 cz) := Bv210.out.cell 0
  have yv21 : w10.cell? ⟨w5.heap.size, 1, none⟩ = some (.bool nz) := Bv210.out.cell 1
  have yv22 : w10.cell? ⟨w5.heap.size, 2, none⟩ = some (.string tz) := Bv210.out.cell 2
  have yv23 : w10.cell? ⟨w5.heap.size, 3, none⟩ = some (.int .i64 ez) := Bv210.out.cell 3
  have yv30 : w10.cell? ⟨w7.heap.size, 0, none⟩ = some (.int .i64 cz) := Bv310.out.cell 0
  have yv31 : w10.cell? ⟨w7.heap.size, 1, none⟩ = some (.bool nz) := Bv310.out.cell 1
  have yv32 : w10.cell? ⟨w7.heap.size, 2, none⟩ = some (.string tz) := Bv310.out.cell 2
  have yv33 : w10.cell? ⟨w7.heap.size, 3, none⟩ = some (.int .i64 ez) := Bv310.out.cell 3
  have Ba11 := hide ((Ba10.out.alloc (.cells #[.int .i64 cp, .bool np, .string tp, .int .i64 ep] 23)))
  have Bb11 := hide ((Bb10.out.alloc (.cells #[.int .i64 cp, .bool np, .string tp, .int .i64 ep] 23)))
  have Bc11 := hide ((Bc10.out.alloc (.cells #[.int .i64 cp, .bool np, .string tp, .int .i64 ep] 23)))
  have Bv011 := hide ((Bv010.out.alloc (.cells #[.int .i64 cp, .bool np, .string tp, .int .i64 ep] 23)))
  have Bv111 := hide ((Bv110.out.alloc (.cells #[.int .i64 cp, .bool np, .string tp, .int .i64 ep] 23)))
  have Bv211 := hide ((Bv210.out.alloc (.cells #[.int .i64 cp, .bool np, .string tp, .int .i64 ep] 23)))
  have Bv311 := hide ((Bv310.out.alloc (.cells #[.int .i64 cp, .bool np, .string tp, .int .i64 ep] 23)))
  have Bv411 := hide ((Blk.newAt w10 (w10.heap.size) (rfl) #[.int .i64 cp, .bool np, .string tp, .int .i64 ep] 23))
  have HB11 : Hid (Below w.heap.size w (w10.alloc (.cells #[.int .i64 cp, .bool np, .string tp, .int .i64 ep] 23))) := (HB10.out.alloc HB10.out.size _)
  clear Ba10 Bb10 Bc10 Bv010 Bv110 Bv210 Bv310 HB10 ya0 ya1 ya2 ya3 yb0 yb1 yb2 yb3 yc0 yc1 yc2 yc3 yv00 yv01 yv02 yv03 yv10 yv11 yv12 yv13 yv20 yv21 yv22 yv23 yv30 yv31 yv32 yv33
  have ya0 : (w10.alloc (.cells #[.int .i64 cp, .bool np, .string tp, .int .i64 ep] 23)).cell? ⟨w.heap.size, 0, none⟩ = some (.int .i64 ca) := Ba11.out.cell 0
  have ya1 : (w10.alloc (.cells #[.int .i64 cp, .bool np, .string tp, .int .i64 ep] 23)).cell? ⟨w.heap.size, 1, none⟩ = some (.bool na) := Ba11.out.cell 1
  have ya2 : (w10.alloc (.cells #[.int .i64 cp, .bool np, .string tp, .int .i64 ep] 23)).cell? ⟨w.heap.size, 2, none⟩ = some (.string ta) := Ba11.out.cell 2
  have ya3 : (w10.alloc (.cells #[.int .i64 cp, .bool np, .string tp, .int .i64 ep] 23)).cell? ⟨w.heap.size, 3, none⟩ = some (.int .i64 ea) := Ba11.out.cell 3
  have yb0 : (w10.alloc (.cells #[.int .i64 cp, .bool np, .string tp, .int .i64 ep] 23)).cell? ⟨w.heap.size + 1, 0, none⟩ = some (.int .i64 cb) := Bb11.out.cell 0
  have yb1 : (w10.alloc (.cells #[.int .i64 cp, .bool np, .string tp, .int .i64 ep] 23)).cell? ⟨w.heap.size + 1, 1, none⟩ = some (.bool nb) := Bb11.out.cell 1
  have yb2 : (w10.alloc (.cells #[.int .i64 cp, .bool np, .string tp, .int .i64 ep] 23)).cell? ⟨w.heap.size + 1, 2, none⟩ = some (.string tb) := Bb11.out.cell 2
  have yb3 : (w10.alloc (.cells #[.int .i64 cp, .bool np, .string tp, .int .i64 ep] 23)).cell? ⟨w.heap.size + 1, 3, none⟩ = some (.int .i64 eb) := Bb11.out.cell 3
  have yc0 : (w10.alloc (.cells #[.int .i64 cp, .bool np, .string tp, .int .i64 ep] 23)).cell? ⟨w.heap.size + 1 + 1, 0, none⟩ = some (.int .i64 cc) := Bc11.out.cell 0
  have yc1 : (w10.alloc (.cells #[.int .i64 cp, .bool np, .string tp, .int .i64 ep] 23)).cell? ⟨w.heap.size + 1 + 1, 1, none⟩ = some (.bool nc) := Bc11.out.cell 1
  have yc2 : (w10.alloc (.cells #[.int .i64 cp, .bool np, .string tp, .int .i64 ep] 23)).cell? ⟨w.heap.size + 1 + 1, 2, none⟩ = some (.string tc) := Bc11.out.cell 2
  have yc3 : (w10.alloc (.cells #[.int .i64 cp, .bool np, .string tp, .int .i64 ep] 23)).cell? ⟨w.heap.size + 1 + 1, 3, none⟩ = some (.int .i64 ec) := Bc11.out.cell 3
  have yv00 : (w10.alloc (.cells #[.int .i64 cp, .bool np, .string tp, .int .i64 ep] 23)).cell? ⟨w1.heap.size, 0, none⟩ = some (.int .i64 cx) := Bv011.out.cell 0
  have yv01 : (w10.alloc (.cells #[.int .i64 cp, .bool np, .string tp, .int .i64 ep] 23)).cell? ⟨w1.heap.size, 1, none⟩ = some (.bool nx) := Bv011.out.cell 1
  have yv02 : (w10.alloc (.cells #[.int .i64 cp, .bool np, .string tp, .int .i64 ep] 23)).cell? ⟨w1.heap.size, 2, none⟩ = some (.string tx) := Bv011.out.cell 2
  have yv03 : (w10.alloc (.cells #[.int .i64 cp, .bool np, .string tp, .int .i64 ep] 23)).cell? ⟨w1.heap.size, 3, none⟩ = some (.int .i64 ex) := Bv011.out.cell 3
  have yv10 : (w10.alloc (.cells #[.int .i64 cp, .bool np, .string tp, .int .i64 ep] 23)).cell? ⟨w3.heap.size, 0, none⟩ = some (.int .i64 cx) := Bv111.out.cell 0
  have yv11 : (w10.alloc (.cells #[.int .i64 cp, .bool np, .string tp, .int .i64 ep] 23)).cell? ⟨w3.heap.size, 1, none⟩ = some (.bool nx) := Bv111.out.cell 1
  have yv12 : (w10.alloc (.cells #[.int .i64 cp, .bool np, .string tp, .int .i64 ep] 23)).cell? ⟨w3.heap.size, 2, none⟩ = some (.string tx) := Bv111.out.cell 2
  have yv13 : (w10.alloc (.cells #[.int .i64 cp, .bool np, .string tp, .int .i64 ep] 23)).cell? ⟨w3.heap.size, 3, none⟩ = some (.int .i64 ex) := Bv111.out.cell 3
  have yv20 : (w10.alloc (.cells #[.int .i64 cp, .bool np, .string tp, .int .i64 ep] 23)).cell? ⟨w5.heap.size, 0, none⟩ = some (.int .i64 cz) := Bv211.out.cell 0
  have yv21 : (w10.alloc (.cells #[.int .i64 cp, .bool np, .string tp, .int .i64 ep] 23)).cell? ⟨w5.heap.size, 1, none⟩ = some (.bool nz) := Bv211.out.cell 1
  have yv22 : (w10.alloc (.cells #[.int .i64 cp, .bool np, .string tp, .int .i64 ep] 23)).cell? ⟨w5.heap.size, 2, none⟩ = some (.string tz) := Bv211.out.cell 2
  have yv23 : (w10.alloc (.cells #[.int .i64 cp, .bool np, .string tp, .int .i64 ep] 23)).cell? ⟨w5.heap.size, 3, none⟩ = some (.int .i64 ez) := Bv211.out.cell 3
  have yv30 : (w10.alloc (.cells #[.int .i64 cp, .bool np, .string tp, .int .i64 ep] 23)).cell? ⟨w7.heap.size, 0, none⟩ = some (.int .i64 cz) := Bv311.out.cell 0
  have yv31 : (w10.alloc (.cells #[.int .i64 cp, .bool np, .string tp, .int .i64 ep] 23)).cell? ⟨w7.heap.size, 1, none⟩ = some (.bool nz) := Bv311.out.cell 1
  have yv32 : (w10.alloc (.cells #[.int .i64 cp, .bool np, .string tp, .int .i64 ep] 23)).cell? ⟨w7.heap.size, 2, none⟩ = some (.string tz) := Bv311.out.cell 2
  have yv33 : (w10.alloc (.cells #[.int .i64 cp, .bool np, .string tp, .int .i64 ep] 23)).cell? ⟨w7.heap.size, 3, none⟩ = some (.int .i64 ez) := Bv311.out.cell 3
  have yv40 : (w10.alloc (.cells #[.int .i64 cp, .bool np, .string tp, .int .i64 ep] 23)).cell? ⟨w10.heap.size, 0, none⟩ = some (.int .i64 cp) := Bv411.out.cell 0
  have yv41 : (w10.alloc (.cells #[.int .i64 cp, .bool np, .string tp, .int .i64 ep] 23)).cell? ⟨w10.heap.size, 1, none⟩ = some (.bool np) := Bv411.out.cell 1
  have yv42 : (w10.alloc (.cells #[.int .i64 cp, .bool np, .string tp, .int .i64 ep] 23)).cell? ⟨w10.heap.size, 2, none⟩ = some (.string tp) := Bv411.out.cell 2
  have yv43 : (w10.alloc (.cells #[.int .i64 cp, .bool np, .string tp, .int .i64 ep] 23)).cell? ⟨w10.heap.size, 3, none⟩ = some (.int .i64 ep) := Bv411.out.cell 3
  go_wp2_with fail
  refine (H5.out _ (HT.out.below HB11.out)).mono ?_
  rintro e w12 ⟨rfl, hb⟩
  have Ba12 := hide (Ba11.out.below hb Ba11.out.lt)
  have Bb12 := hide (Bb11.out.below hb Bb11.out.lt)
  have Bc12 := hide (Bc11.out.below hb Bc11.out.lt)
  have Bv012 := hide (Bv011.out.below hb Bv011.out.lt)
  have Bv112 := hide (Bv111.out.below hb Bv111.out.lt)
  have Bv212 := hide (Bv211.out.below hb Bv211.out.lt)
  have Bv312 := hide (Bv311.out.below hb Bv311.out.lt)
  have Bv412 := hide (Bv411.out.below hb Bv411.out.lt)
  have HB12 := hide (HB11.out.trans (hb.mono HB11.out.size))
  clear hb Ba11 Bb11 Bc11 Bv011 Bv111 Bv211 Bv311 Bv411 HB11 ya0 ya1 ya2 ya3 yb0 yb1 yb2 yb3 yc0 yc1 yc2 yc3 yv00 yv01 yv02 yv03 yv10 yv11 yv12 yv13 yv20 yv21 yv22 yv23 yv30 yv31 yv32 yv33 yv40 yv41 yv42 yv43
  have ya0 : w12.cell? ⟨w.heap.size, 0, none⟩ = some (.int .i64 ca) := Ba12.out.cell 0
  have ya1 : w12.cell? ⟨w.heap.size, 1, none⟩ = some (.bool na) := Ba12.out.cell 1
  have ya2 : w12.cell? ⟨w.heap.size, 2, none⟩ = some (.string ta) := Ba12.out.cell 2
  have ya3 : w12.cell? ⟨w.heap.size, 3, none⟩ = some (.int .i64 ea) := Ba12.out.cell 3
  have yb0 : w12.cell? ⟨w.heap.size + 1, 0, none⟩ = some (.int .i64 cb) := Bb12.out.cell 0
  have yb1 : w12.cell? ⟨w.heap.size + 1, 1, none⟩ = some (.bool nb) := Bb12.out.cell 1
  have yb2 : w12.cell? ⟨w.heap.size + 1, 2, none⟩ = some (.string tb) := Bb12.out.cell 2
  have yb3 : w12.cell? ⟨w.heap.size + 1, 3, none⟩ = some (.int .i64 eb) := Bb12.out.cell 3
  have yc0 : w12.cell? ⟨w.heap.size + 1 + 1, 0, none⟩ = some (.int .i64 cc) := Bc12.out.cell 0
  have yc1 : w12.cell? ⟨w.heap.size + 1 + 1, 1, none⟩ = some (.bool nc) := Bc12.out.cell 1
  have yc2 : w12.cell? ⟨w.heap.size + 1 + 1, 2, none⟩ = some (.string tc) := Bc12.out.cell 2
  have yc3 : w12.cell? ⟨w.heap.size + 1 + 1, 3, none⟩ = some (.int .i64 ec) := Bc12.out.cell 3
  have yv00 : w12.cell? ⟨w1.heap.size, 0, none⟩ = some (.int .i64 cx) := Bv012.out.cell 0
  have yv01 : w12.cell? ⟨w1.heap.size, 1, none⟩ = some (.bool nx) := Bv012.out.cell 1
  have yv02 : w12.cell? ⟨w1.heap.size, 2, none⟩ = some (.string tx) := Bv012.out.cell 2
  have yv03 : w12.cell? ⟨w1.heap.size, 3, none⟩ = some (.int .i64 ex) := Bv012.out.cell 3
  have yv10 : w12.cell? ⟨w3.heap.size, 0, none⟩ = some (.int .i64 cx) := Bv112.out.cell 0
  have yv11 : w12.cell? ⟨w3.heap.size, 1, none⟩ = some (.bool nx) := Bv112.out.cell 1
  have yv12 : w12.cell? ⟨w3.heap.size, 2, none⟩ = some (.string tx) := Bv112.out.cell 2
  have yv13 : w12.cell? ⟨w3.heap.size, 3, none⟩ = some (.int .i64 ex) := Bv112.out.cell 3
  have yv20 : w12.cell? ⟨w5.heap.size, 0, none⟩ = some (.int .i64 cz) := Bv212.out.cell 0
  have yv21 : w12.cell? ⟨w5.heap.size, 1, none⟩ = some (.bool nz) := Bv212.out.cell 1
  have yv22 : w12.cell? ⟨w5.heap.size, 2, none⟩ = some (.string tz) := Bv212.out.cell 2
  have yv23 : w12.cell? ⟨w5.heap.size, 3, none⟩ = some (.int .i64 ez) := Bv212.out.cell 3
  have yv30 : w12.cell? ⟨w7.heap.size, 0, none⟩ = some (.int .i64 cz) := Bv312.out.cell 0
  have yv31 : w12.cell? ⟨w7.heap.size, 1, none⟩ = some (.bool nz) := Bv312.out.cell 1
  have yv32 : w12.cell? ⟨w7.heap.size, 2, none⟩ = some (.string tz) := Bv312.out.cell 2
  have yv33 : w12.cell? ⟨w7.heap.size, 3, none⟩ = some (.int .i64 ez) := Bv312.out.cell 3
  have yv40 : w12.cell? ⟨w10.heap.size, 0, none⟩ = some (.int .i64 cp) := Bv412.out.cell 0
  have yv41 : w12.cell? ⟨w10.heap.size, 1, none⟩ = some (.bool np) := Bv412.out.cell 1
  have yv42 : w12.cell? ⟨w10.heap.size, 2, none⟩ = some (.string tp) := Bv412.out.cell 2
  have yv43 : w12.cell? ⟨w10.heap.size, 3, none⟩ = some (.int .i64 ep) := Bv412.out.cell 3
  have Ba13 := hide ((Ba12.out.alloc (.cells #[.int .i64 cl, .bool nl, .string tl, .int .i64 el] 23)))
  have Bb13 := hide ((Bb12.out.alloc (.cells #[.int .i64 cl, .bool nl, .string tl, .int .i64 el] 23)))
  have Bc13 := hide ((Bc12.out.alloc (.cells #[.int .i64 cl, .bool nl, .string tl, .int .i64 el] 23)))
  have Bv013 := hide ((Bv012.out.alloc (.cells #[.int .i64 cl, .bool nl, .string tl, .int .i64 el] 23)))
  have Bv113 := hide ((Bv112.out.alloc (.cells #[.int .i64 cl, .bool nl, .string tl, .int .i64 el] 23)))
  have Bv213 := hide ((Bv212.out.alloc (.cells #[.int .i64 cl, .bool nl, .string tl, .int .i64 el] 23)))
  have Bv313 := hide ((Bv312.out.alloc (.cells #[.int .i64 cl, .bool nl, .string tl, .int .i64 el] 23)))
  have Bv413 := hide ((Bv412.out.alloc (.cells #[.int .i64 cl, .bool nl, .string tl, .int .i64 el] 23)))
  have Bv513 := hide ((Blk.newAt w12 (w12.heap.size) (rfl) #[.int .i64 cl, .bool nl, .string tl, .int .i64 el] 23))
  have HB13 : Hid (Below w.heap.size w (w12.alloc (.cells #[.int .i64 cl, .bool nl, .string tl, .int .i64 el] 23))) := (HB12.out.alloc HB12.out.size _)
  clear Ba12 Bb12 Bc12 Bv012 Bv112 Bv212 Bv312 Bv412 HB12 ya0 ya1 ya2 ya3 yb0 yb1 yb2 yb3 yc0 yc1 yc2 yc3 yv00 yv01 yv02 yv03 yv10 yv11 yv12 yv13 yv20 yv21 yv22 yv23 yv30 yv31 yv32 yv33 yv40 yv41 yv42 yv43
  have ya0 : (w12.alloc (.cells #[.int .i64 cl, .bool nl, .string tl, .int .i64 el] 23)).cell? ⟨w.heap.size, 0, none⟩ = some (.int .i64 ca) := Ba13.out.cell 0
  have ya1 : (w12.alloc (.cells #[.int .i64 cl, .bool nl, .string tl, .int .i64 el] 23)).cell? ⟨w.heap.size, 1, none⟩ = some (.bool na) := Ba13.out.cell 1
  have ya2 : (w12.alloc (.cells #[.int .i64 cl, .bool nl, .string tl, .int .i64 el] 23)).cell? ⟨w.heap.size, 2, none⟩ = some (.string ta) := Ba13.out.cell 2
  have ya3 : (w12.alloc (.cells #[.int .i64 cl, .bool nl, .string tl, .int .i64 el] 23)).cell? ⟨w.heap.size, 3, none⟩ = some (.int .i64 ea) := Ba13.out.cell 3
  have yb0 : (w12.alloc (.cells #[.int .i64 cl, .bool nl, .string tl, .int .i64 el] 23)).cell? ⟨w.heap.size + 1, 0, none⟩ = some (.int .i64 cb) := Bb13.out.cell 0
  have yb1 : (w12.alloc (.cells #[.int .i64 cl, .bool nl, .string tl, .int .i64 el] 23)).cell? ⟨w.heap.size + 1, 1, none⟩ = some (.bool nb) := Bb13.out.cell 1
  have yb2 : (w12.alloc (.cells #[.int .i64 cl, .bool nl, .string tl, .int .i64 el] 23)).cell? ⟨w.heap.size + 1, 2, none⟩ = some (.string tb) := Bb13.out.cell 2
  have yb3 : (w12.alloc (.cells #[.int .i64 cl, .bool nl, .string tl, .int .i64 el] 23)).cell? ⟨w.heap.size + 1, 3, none⟩ = some (.int .i64 eb) := Bb13.out.cell 3
  have yc0 : (w12.alloc (.cells #[.int .i64 cl, .bool nl, .string tl, .int .i64 el] 23)).cell? ⟨w.heap.size + 1 + 1, 0, none⟩ = some (.int .i64 cc) := Bc13.out.cell 0
  have yc1 : (w12.alloc (.cells #[.int .i64 cl, .bool nl, .string tl, .int .i64 el] 23)).cell? ⟨w.heap.size + 1 + 1, 1, none⟩ = some (.bool nc) := Bc13.out.cell 1
  have yc2 : (w12.alloc (.cells #[.int .i64 cl, .bool nl, .string tl, .int .i64 el] 23)).cell? ⟨w.heap.size + 1 + 1, 2, none⟩ = some (.string tc) := Bc13.out.cell 2
  have yc3 : (w12.alloc (.cells #[.int .i64 cl, .bool nl, .string tl, .int .i64 el] 23)).cell? ⟨w.heap.size + 1 + 1, 3, none⟩ = some (.int .i64 ec) := Bc13.out.cell 3
  have yv00 : (w12.alloc (.cells #[.int .i64 cl, .bool nl, .string tl, .int .i64 el] 23)).cell? ⟨w1.heap.size, 0, none⟩ = some (.int .i64 cx) := Bv013.out.cell 0
  have yv01 : (w12.alloc (.cells #[.int .i64 cl, .bool nl, .string tl, .int .i64 el] 23)).cell? ⟨w1.heap.size, 1, none⟩ = some (.bool nx) := Bv013.out.cell 1
  have yv02 : (w12.alloc (.cells #[.int .i64 cl, .bool nl, .string tl, .int .i64 el] 23)).cell? ⟨w1.heap.size, 2, none⟩ = some (.string tx) := Bv013.out.cell 2
  have yv03 : (w12.alloc (.cells #[.int .i64 cl, .bool nl, .string tl, .int .i64 el] 23)).cell? ⟨w1.heap.size, 3, none⟩ = some (.int .i64 ex) := Bv013.out.cell 3
  have yv10 : (w12.alloc (.cells #[.int .i64 cl, .bool nl, .string tl, .int .i64 el] 23)).cell? ⟨w3.heap.size, 0, none⟩ = some (.int .i64 cx) := Bv113.out.cell 0
  have yv11 : (w12.alloc (.cells #[.int .i64 cl, .bool nl, .string tl, .int .i64 el] 23)).cell? ⟨w3.heap.size, 1, none⟩ = some (.bool nx) := Bv113.out.cell 1
  have yv12 : (w12.alloc (.cells #[.int .i64 cl, .bool nl, .string tl, .int .i64 el] 23)).cell? ⟨w3.heap.size, 2, none⟩ = some (.string tx) := Bv113.out.cell 2
  have yv13 : (w12.alloc (.cells #[.int .i64 cl, .bool nl, .string tl, .int .i64 el] 23)).cell? ⟨w3.heap.size, 3, none⟩ = some (.int .i64 ex) := Bv113.out.cell 3
  have yv20 : (w12.alloc (.cells #[.int .i64 cl, .bool nl, .string tl, .int .i64 el] 23)).cell? ⟨w5.heap.size, 0, none⟩ = some (.int .i64 cz) := Bv213.out.cell 0
  have yv21 : (w12.alloc (.cells #[.int .i64 cl, .bool nl, .string tl, .int .i64 el] 23)).cell? ⟨w5.heap.size, 1, none⟩ = some (.bool nz) := Bv213.out.cell 1
  have yv22 : (w12.alloc (.cells #[.int .i64 cl, .bool nl, .string tl, .int .i64 el] 23)).cell? ⟨w5.heap.size, 2, none⟩ = some (.string tz) := Bv213.out.cell 2
  have yv23 : (w12.alloc (.cells #[.int .i64 cl, .bool nl, .string tl, .int .i64 el] 23)).cell? ⟨w5.heap.size, 3, none⟩ = some (.int .i64 ez) := Bv213.out.cell 3
  have yv30 : (w12.alloc (.cells #[.int .i64 cl, .bool nl, .string tl, .int .i64 el] 23)).cell? ⟨w7.heap.size, 0, none⟩ = some (.int .i64 cz) := Bv313.out.cell 0
  have yv31 : (w12.alloc (.cells #[.int .i64 cl, .bool nl, .string tl, .int .i64 el] 23)).cell? ⟨w7.heap.size, 1, none⟩ = some (.bool nz) := Bv313.out.cell 1
  have yv32 : (w12.alloc (.cells #[.int .i64 cl, .bool nl, .string tl, .int .i64 el] 23)).cell? ⟨w7.heap.size, 2, none⟩ = some (.string tz) := Bv313.out.cell 2
  have yv33 : (w12.alloc (.cells #[.int .i64 cl, .bool nl, .string tl, .int .i64 el] 23)).cell? ⟨w7.heap.size, 3, none⟩ = some (.int .i64 ez) := Bv313.out.cell 3
  have yv40 : (w12.alloc (.cells #[.int .i64 cl, .bool nl, .string tl, .int .i64 el] 23)).cell? ⟨w10.heap.size, 0, none⟩ = some (.int .i64 cp) := Bv413.out.cell 0
  have yv41 : (w12.alloc (.cells #[.int .i64 cl, .bool nl, .string tl, .int .i64 el] 23)).cell? ⟨w10.heap.size, 1, none⟩ = some (.bool np) := Bv413.out.cell 1
  have yv42 : (w12.alloc (.cells #[.int .i64 cl, .bool nl, .string tl, .int .i64 el] 23)).cell? ⟨w10.heap.size, 2, none⟩ = some (.string tp) := Bv413.out.cell 2
  have yv43 : (w12.alloc (.cells #[.int .i64 cl, .bool nl, .string tl, .int .i64 el] 23)).cell? ⟨w10.heap.size, 3, none⟩ = some (.int .i64 ep) := Bv413.out.cell 3
  have yv50 : (w12.alloc (.cells #[.int .i64 cl, .bool nl, .string tl, .int .i64 el] 23)).cell? ⟨w12.heap.size, 0, none⟩ = some (.int .i64 cl) := Bv513.out.cell 0
  have yv51 : (w12.alloc (.cells #[.int .i64 cl, .bool nl, .string tl, .int .i64 el] 23)).cell? ⟨w12.heap.size, 1, none⟩ = some (.bool nl) := Bv513.out.cell 1
  have yv52 : (w12.alloc (.cells #[.int .i64 cl, .bool nl, .string tl, .int .i64 el] 23)).cell? ⟨w12.heap.size, 2, none⟩ = some (.string tl) := Bv513.out.cell 2
  have yv53 : (w12.alloc (.cells #[.int .i64 cl, .bool nl, .string tl, .int .i64 el] 23)).cell? ⟨w12.heap.size, 3, none⟩ = some (.int .i64 el) := Bv513.out.cell 3
  go_wp2_with fail
  refine (H6.out _ (HT.out.below HB13.out)).mono ?_
  rintro e w14 ⟨rfl, hb⟩
  have Ba14 := hide (Ba13.out.below hb Ba13.out.lt)
  have Bb14 := hide (Bb13.out.below hb Bb13.out.lt)
  have Bc14 := hide (Bc13.out.below hb Bc13.out.lt)
  have Bv014 := hide (Bv013.out.below hb Bv013.out.lt)
  have Bv114 := hide (Bv113.out.below hb Bv113.out.lt)
  have Bv214 := hide (Bv213.out.below hb Bv213.out.lt)
  have Bv314 := hide (Bv313.out.below hb Bv313.out.lt)
  have Bv414 := hide (Bv413.out.below hb Bv413.out.lt)
  have Bv514 := hide (Bv513.out.below hb Bv513.out.lt)
  have HB14 := hide (HB13.out.trans (hb.mono HB13.out.size))
  clear hb Ba13 Bb13 Bc13 Bv013 Bv113 Bv213 Bv313 Bv413 Bv513 HB13 ya0 ya1 ya2 ya3 yb0 yb1 yb2 yb3 yc0 yc1 yc2 yc3 yv00 yv01 yv02 yv03 yv10 yv11 yv12 yv13 yv20 yv21 yv22 yv23 yv30 yv31 yv32 yv33 yv40 yv41 yv42 yv43 yv50 yv51 yv52 yv53
  have ya0 : w14.cell? ⟨w.heap.size, 0, none⟩ = some (.int .i64 ca) := Ba14.out.cell 0
  have ya1 : w14.cell? ⟨w.heap.size, 1, none⟩ = some (.bool na) := Ba14.out.cell 1
  have ya2 : w14.cell? ⟨w.heap.size, 2, none⟩ = some (.string ta) := Ba14.out.cell 2
  have ya3 : w14.cell? ⟨w.heap.size, 3, none⟩ = some (.int .i64 ea) := Ba14.out.cell 3
  have yb0 : w14.cell? ⟨w.heap.size + 1, 0, none⟩ = some (.int .i64 cb) := Bb14.out.cell 0
  have yb1 : w14.cell? ⟨w.heap.size + 1, 1, none⟩ = some (.bool nb) := Bb14.out.cell 1
  have yb2 : w14.cell? ⟨w.heap.size + 1, 2, none⟩ = some (.string tb) := Bb14.out.cell 2
  have yb3 : w14.cell? ⟨w.heap.size + 1, 3, none⟩ = some (.int .i64 eb) := Bb14.out.cell 3
  have yc0 : w14.cell? ⟨w.heap.size + 1 + 1, 0, none⟩ = some (.int .i64 cc) := Bc14.out.cell 0
  have yc1 : w14.cell? ⟨w.heap.size + 1 + 1, 1, none⟩ = some (.bool nc) := Bc14.out.cell 1
  have yc2 : w14.cell? ⟨w.heap.size + 1 + 1, 2, none⟩ = some (.string tc) := Bc14.out.cell 2
  have yc3 : w14.cell? ⟨w.heap.size + 1 + 1, 3, none⟩ = some (.int .i64 ec) := Bc14.out.cell 3
  have yv00 : w14.cell? ⟨w1.heap.size, 0, none⟩ = some (.int .i64 cx) := Bv014.out.cell 0
  have yv01 : w14.cell? ⟨w1.heap.size, 1, none⟩ = some (.bool nx) := Bv014.out.cell 1
  have yv02 : w14.cell? ⟨w1.heap.size, 2, none⟩ = some (.string tx) := Bv014.out.cell 2
  have yv03 : w14.cell? ⟨w1.heap.size, 3, none⟩ = some (.int .i64 ex) := Bv014.out.cell 3
  have yv10 : w14.cell? ⟨w3.heap.size, 0, none⟩ = some (.int .i64 cx) := Bv114.out.cell 0
  have yv11 : w14.cell? ⟨w3.heap.size, 1, none⟩ = some (.bool nx) := Bv114.out.cell 1
  have yv12 : w14.cell? ⟨w3.heap.size, 2, none⟩ = some (.string tx) := Bv114.out.cell 2
  have yv13 : w14.cell? ⟨w3.heap.size, 3, none⟩ = some (.int .i64 ex) := Bv114.out.cell 3
  have yv20 : w14.cell? ⟨w5.heap.size, 0, none⟩ = some (.int .i64 cz) := Bv214.out.cell 0
  have yv21 : w14.cell? ⟨w5.heap.size, 1, none⟩ = some (.bool nz) := Bv214.out.cell 1
  have yv22 : w14.cell? ⟨w5.heap.size, 2, none⟩ = some (.string tz) := Bv214.out.cell 2
  have yv23 : w14.cell? ⟨w5.heap.size, 3, none⟩ = some (.int .i64 ez) := Bv214.out.cell 3
  have yv30 : w14.cell? ⟨w7.heap.size, 0, none⟩ = some (.int .i64 cz) := Bv314.out.cell 0
  have yv31 : w14.cell? ⟨w7.heap.size, 1, none⟩ = some (.bool nz) := Bv314.out.cell 1
  have yv32 : w14.cell? ⟨w7.heap.size, 2, none⟩ = some (.string tz) := Bv314.out.cell 2
  have yv33 : w14.cell? ⟨w7.heap.size, 3, none⟩ = some (.int .i64 ez) := Bv314.out.cell 3
  have yv40 : w14.cell? ⟨w10.heap.size, 0, none⟩ = some (.int .i64 cp) := Bv414.out.cell 0
  have yv41 : w14.cell? ⟨w10.heap.size, 1, none⟩ = some (.bool np) := Bv414.out.cell 1
  have yv42 : w14.cell? ⟨w10.heap.size, 2, none⟩ = some (.string tp) := Bv414.out.cell 2
  have yv43 : w14.cell? ⟨w10.heap.size, 3, none⟩ = some (.int .i64 ep) := Bv414.out.cell 3
  have yv50 : w14.cell? ⟨w12.heap.size, 0, none⟩ = some (.int .i64 cl) := Bv514.out.cell 0
  have yv51 : w14.cell? ⟨w12.heap.size, 1, none⟩ = some (.bool nl) := Bv514.out.cell 1
  have yv52 : w14.cell? ⟨w12.heap.size, 2, none⟩ = some (.string tl) := Bv514.out.cell 2
  have yv53 : w14.cell? ⟨w12.heap.size, 3, none⟩ = some (.int .i64 el) := Bv514.out.cell 3
  have Ba15 := hide ((Ba14.out.alloc (.cells #[.int .i64 cq, .bool nq, .string tq, .int .i64 eq] 23)))
  have Bb15 := hide ((Bb14.out.alloc (.cells #[.int .i64 cq, .bool nq, .string tq, .int .i64 eq] 23)))
  have Bc15 := hide ((Bc14.out.alloc (.cells #[.int .i64 cq, .bool nq, .string tq, .int .i64 eq] 23)))
  have Bv015 := hide ((Bv014.out.alloc (.cells #[.int .i64 cq, .bool nq, .string tq, .int .i64 eq] 23)))
  have Bv115 := hide ((Bv114.out.alloc (.cells #[.int .i64 cq, .bool nq, .string tq, .int .i64 eq] 23)))
  have Bv215 := hide ((Bv214.out.alloc (.cells #[.int .i64 cq, .bool nq, .string tq, .int .i64 eq] 23)))
  have Bv315 := hide ((Bv314.out.alloc (.cells #[.int .i64 cq, .bool nq, .string tq, .int .i64 eq] 23)))
  have Bv415 := hide ((Bv414.out.alloc (.cells #[.int .i64 cq, .bool nq, .string tq, .int .i64 eq] 23)))
  have Bv515 := hide ((Bv514.out.alloc (.cells #[.int .i64 cq, .bool nq, .string tq, .int .i64 eq] 23)))
  have Bv615 := hide ((Blk.newAt w14 (w14.heap.size) (rfl) #[.int .i64 cq, .bool nq, .string tq, .int .i64 eq] 23))
  have HB15 : Hid (Below w.heap.size w (w14.alloc (.cells #[.int .i64 cq, .bool nq, .string tq, .int .i64 eq] 23))) := (HB14.out.alloc HB14.out.size _)
  clear Ba14 Bb14 Bc14 Bv014 Bv114 Bv214 Bv314 Bv414 Bv514 HB14 ya0 ya1 ya2 ya3 yb0 yb1 yb2 yb3 yc0 yc1 yc2 yc3 yv00 yv01 yv02 yv03 yv10 yv11 yv12 yv13 yv20 yv21 yv22 yv23 yv30 yv31 yv32 yv33 yv40 yv41 yv42 yv43 yv50 yv51 yv52 yv53
  have ya0 : (w14.alloc (.cells #[.int .i64 cq, .bool nq, .string tq, .int .i64 eq] 23)).cell? ⟨w.heap.size, 0, none⟩ = some (.int .i64 ca) := Ba15.out.cell 0
  have ya1 : (w14.alloc (.cells #[.int .i64 cq, .bool nq, .string tq, .int .i64 eq] 23)).cell? ⟨w.heap.size, 1, none⟩ = some (.bool na) := Ba15.out.cell 1
  have ya2 : (w14.alloc (.cells #[.int .i64 cq, .bool nq, .string tq, .int .i64 eq] 23)).cell? ⟨w.heap.size, 2, none⟩ = some (.string ta) := Ba15.out.cell 2
  have ya3 : (w14.alloc (.cells #[.int .i64 cq, .bool nq, .string tq, .int .i64 eq] 23)).cell? ⟨w.heap.size, 3, none⟩ = some (.int .i64 ea) := Ba15.out.cell 3
  have yb0 : (w14.alloc (.cells #[.int .i64 cq, .bool nq, .string tq, .int .i64 eq] 23)).cell? ⟨w.heap.size + 1, 0, none⟩ = some (.int .i64 cb) := Bb15.out.cell 0
  have yb1 : (w14.alloc (.cells #[.int .i64 cq, .bool nq, .string tq, .int .i64 eq] 23)).cell? ⟨w.heap.size + 1, 1, none⟩ = some (.bool nb) := Bb15.out.cell 1
  have yb2 : (w14.alloc (.cells #[.int .i64 cq, .bool nq, .string tq, .int .i64 eq] 23)).cell? ⟨w.heap.size + 1, 2, none⟩ = some (.string tb) := Bb15.out.cell 2
  have yb3 : (w14.alloc (.cells #[.int .i64 cq, .bool nq, .string tq, .int .i64 eq] 23)).cell? ⟨w.heap.size + 1, 3, none⟩ = some (.int .i64 eb) := Bb15.out.cell 3
  have yc0 : (w14.alloc (.cells #[.int .i64 cq, .bool nq, .string tq, .int .i64 eq] 23)).cell? ⟨w.heap.size + 1 + 1, 0, none⟩ = some (.int .i64 cc) := Bc15.out.cell 0
  have yc1 : (w14.alloc (.cells #[.int .i64 cq, .bool nq, .string tq, .int .i64 eq] 23)).cell? ⟨w.heap.size + 1 + 1, 1, none⟩ = some (.bool nc) := Bc15.out.cell 1
  have yc2 : (w14.alloc (.cells #[.int .i64 cq, .bool nq, .string tq, .int .i64 eq] 23)).cell? ⟨w.heap.size + 1 + 1, 2, none⟩ = some (.string tc) := Bc15.out.cell 2
  have yc3 : (w14.alloc (.cells #[.int .i64 cq, .bool nq, .string tq, .int .i64 eq] 23)).cell? ⟨w.heap.size + 1 + 1, 3, none⟩ = some (.int .i64 ec) := Bc15.out.cell 3
  have yv00 : (w14.alloc (.cells #[.int .i64 cq, .bool nq, .string tq, .int .i64 eq] 23)).cell? ⟨w1.heap.size, 0, none⟩ = some (.int .i64 cx) := Bv015.out.cell 0
  have yv01 : (w14.alloc (.cells #[.int .i64 cq, .bool nq, .string tq, .int .i64 eq] 23)).cell? ⟨w1.heap.size, 1, none⟩ = some (.bool nx) := Bv015.out.cell 1
  have yv02 : (w14.alloc (.cells #[.int .i64 cq, .bool nq, .string tq, .int .i64 eq] 23)).cell? ⟨w1.heap.size, 2, none⟩ = some (.string tx) := Bv015.out.cell 2
  have yv03 : (w14.alloc (.cells #[.int .i64 cq, .bool nq, .string tq, .int .i64 eq] 23)).cell? ⟨w1.heap.size, 3, none⟩ = some (.int .i64 ex) := Bv015.out.cell 3
  have yv10 : (w14.alloc (.cells #[.int .i64 cq, .bool nq, .string tq, .int .i64 eq] 23)).cell? ⟨w3.heap.size, 0, none⟩ = some (.int .i64 cx) := Bv115.out.cell 0
  have yv11 : (w14.alloc (.cells #[.int .i64 cq, .bool nq, .string tq, .int .i64 eq] 23)).cell? ⟨w3.heap.size, 1, none⟩ = some (.bool nx) := Bv115.out.cell 1
  have yv12 : (w14.alloc (.cells #[.int .i64 cq, .bool nq, .string tq, .int .i64 eq] 23)).cell? ⟨w3.heap.size, 2, none⟩ = some (.string tx) := Bv115.out.cell 2
  have yv13 : (w14.alloc (.cells #[.int .i64 cq, .bool nq, .string tq, .int .i64 eq] 23)).cell? ⟨w3.heap.size, 3, none⟩ = some (.int .i64 ex) := Bv115.out.cell 3
  have yv20 : (w14.alloc (.cells #[.int .i64 cq, .bool nq, .string tq, .int .i64 eq] 23)).cell? ⟨w5.heap.size, 0, none⟩ = some (.int .i64 cz) := Bv215.out.cell 0
  have yv21 : (w14.alloc (.cells #[.int .i64 cq, .bool nq, .string tq, .int .i64 eq] 23)).cell? ⟨w5.heap.size, 1, none⟩ = some (.bool nz) := Bv215.out.cell 1
  have yv22 : (w14.alloc (.cells #[.int .i64 cq, .bool nq, .string tq, .int .i64 eq] 23)).cell? ⟨w5.heap.size, 2, none⟩ = some (.string tz) := Bv215.out.cell 2
  have yv23 : (w14.alloc (.cells #[.int .i64 cq, .bool nq, .string tq, .int .i64 eq] 23)).cell? ⟨w5.heap.size, 3, none⟩ = some (.int .i64 ez) := Bv215.out.cell 3
  have yv30 : (w14.alloc (.cells #[.int .i64 cq, .bool nq, .string tq, .int .i64 eq] 23)).cell? ⟨w7.heap.size, 0, none⟩ = some (.int .i64 cz) := Bv315.out.cell 0
  have yv31 : (w14.alloc (.cells #[.int .i64 cq, .bool nq, .string tq, .int .i64 eq] 23)).cell? ⟨w7.heap.size, 1, none⟩ = some (.bool nz) := Bv315.out.cell 1
  have yv32 : (w14.alloc (.cells #[.int .i64 cq, .bool nq, .string tq, .int .i64 eq] 23)).cell? ⟨w7.heap.size, 2, none⟩ = some (.string tz) := Bv315.out.cell 2
  have yv33 : (w14.alloc (.cells #[.int .i64 cq, .bool nq, .string tq, .int .i64 eq] 23)).cell? ⟨w7.heap.size, 3, none⟩ = some (.int .i64 ez) := Bv315.out.cell 3
  have yv40 : (w14.alloc (.cells #[.int .i64 cq, .bool nq, .string tq, .int .i64 eq] 23)).cell? ⟨w10.heap.size, 0, none⟩ = some (.int .i64 cp) := Bv415.out.cell 0
  have yv41 : (w14.alloc (.cells #[.int .i64 cq, .bool nq, .string tq, .int .i64 eq] 23)).cell? ⟨w10.heap.size, 1, none⟩ = some (.bool np) := Bv415.out.cell 1
  have yv42 : (w14.alloc (.cells #[.int .i64 cq, .bool nq, .string tq, .int .i64 eq] 23)).cell? ⟨w10.heap.size, 2, none⟩ = some (.string tp) := Bv415.out.cell 2
  have yv43 : (w14.alloc (.cells #[.int .i64 cq, .bool nq, .string tq, .int .i64 eq] 23)).cell? ⟨w10.heap.size, 3, none⟩ = some (.int .i64 ep) := Bv415.out.cell 3
  have yv50 : (w14.alloc (.cells #[.int .i64 cq, .bool nq, .string tq, .int .i64 eq] 23)).cell? ⟨w12.heap.size, 0, none⟩ = some (.int .i64 cl) := Bv515.out.cell 0
  have yv51 : (w14.alloc (.cells #[.int .i64 cq, .bool nq, .string tq, .int .i64 eq] 23)).cell? ⟨w12.heap.size, 1, none⟩ = some (.bool nl) := Bv515.out.cell 1
  have yv52 : (w14.alloc (.cells #[.int .i64 cq, .bool nq, .string tq, .int .i64 eq] 23)).cell? ⟨w12.heap.size, 2, none⟩ = some (.string tl) := Bv515.out.cell 2
  have yv53 : (w14.alloc (.cells #[.int .i64 cq, .bool nq, .string tq, .int .i64 eq] 23)).cell? ⟨w12.heap.size, 3, none⟩ = some (.int .i64 el) := Bv515.out.cell 3
  have yv60 : (w14.alloc (.cells #[.int .i64 cq, .bool nq, .string tq, .int .i64 eq] 23)).cell? ⟨w14.heap.size, 0, none⟩ = some (.int .i64 cq) := Bv615.out.cell 0
  have yv61 : (w14.alloc (.cells #[.int .i64 cq, .bool nq, .string tq, .int .i64 eq] 23)).cell? ⟨w14.heap.size, 1, none⟩ = some (.bool nq) := Bv615.out.cell 1
  have yv62 : (w14.alloc (.cells #[.int .i64 cq, .bool nq, .string tq, .int .i64 eq] 23)).cell? ⟨w14.heap.size, 2, none⟩ = some (.string tq) := Bv615.out.cell 2
  have yv63 : (w14.alloc (.cells #[.int .i64 cq, .bool nq, .string tq, .int .i64 eq] 23)).cell? ⟨w14.heap.size, 3, none⟩ = some (.int .i64 eq) := Bv615.out.cell 3
  go_wp2_with fail
  refine (H7.out _ (HT.out.below HB15.out)).mono ?_
  rintro e w16 ⟨rfl, hb⟩
  have Ba16 := hide (Ba15.out.below hb Ba15.out.lt)
  have Bb16 := hide (Bb15.out.below hb Bb15.out.lt)
  have Bc16 := hide (Bc15.out.below hb Bc15.out.lt)
  have Bv016 := hide (Bv015.out.below hb Bv015.out.lt)
  have Bv116 := hide (Bv115.out.below hb Bv115.out.lt)
  have Bv216 := hide (Bv215.out.below hb Bv215.out.lt)
  have Bv316 := hide (Bv315.out.below hb Bv315.out.lt)
  have Bv416 := hide (Bv415.out.below hb Bv415.out.lt)
  have Bv516 := hide (Bv515.out.below hb Bv515.out.lt)
  have Bv616 := hide (Bv615.out.below hb Bv615.out.lt)
  have HB16 := hide (HB15.out.trans (hb.mono HB15.out.size))
  clear hb Ba15 Bb15 Bc15 Bv015 Bv115 Bv215 Bv315 Bv415 Bv515 Bv615 HB15 ya0 ya1 ya2 ya3 yb0 yb1 yb2 yb3 yc0 yc1 yc2 yc3 yv00 yv01 yv02 yv03 yv10 yv11 yv12 yv13 yv20 yv21 yv22 yv23 yv30 yv31 yv32 yv33 yv40 yv41 yv42 yv43 yv50 yv51 yv52 yv53 yv60 yv61 yv62 yv63
  have ya0 : w16.cell? ⟨w.heap.size, 0, none⟩ = some (.int .i64 ca) := Ba16.out.cell 0
  have ya1 : w16.cell? ⟨w.heap.size, 1, none⟩ = some (.bool na) := Ba16.out.cell 1
  have ya2 : w16.cell? ⟨w.heap.size, 2, none⟩ = some (.string ta) := Ba16.out.cell 2
  have ya3 : w16.cell? ⟨w.heap.size, 3, none⟩ = some (.int .i64 ea) := Ba16.out.cell 3
  have yb0 : w16.cell? ⟨w.heap.size + 1, 0, none⟩ = some (.int .i64 cb) := Bb16.out.cell 0
  have yb1 : w16.cell? ⟨w.heap.size + 1, 1, none⟩ = some (.bool nb) := Bb16.out.cell 1
  have yb2 : w16.cell? ⟨w.heap.size + 1, 2, none⟩ = some (.string tb) := Bb16.out.cell 2
  have yb3 : w16.cell? ⟨w.heap.size + 1, 3, none⟩ = some (.int .i64 eb) := Bb16.out.cell 3
  have yc0 : w16.cell? ⟨w.heap.size + 1 + 1, 0, none⟩ = some (.int .i64 cc) := Bc16.out.cell 0
  have yc1 : w16.cell? ⟨w.heap.size + 1 + 1, 1, none⟩ = some (.bool nc) := Bc16.out.cell 1
  have yc2 : w16.cell? ⟨w.heap.size + 1 + 1, 2, none⟩ = some (.string tc) := Bc16.out.cell 2
  have yc3 : w16.cell? ⟨w.heap.size + 1 + 1, 3, none⟩ = some (.int .i64 ec) := Bc16.out.cell 3
  have yv00 : w16.cell? ⟨w1.heap.size, 0, none⟩ = some (.int .i64 cx) := Bv016.out.cell 0
  have yv01 : w16.cell? ⟨w1.heap.size, 1, none⟩ = some (.bool nx) := Bv016.out.cell 1
  have yv02 : w16.cell? ⟨w1.heap.size, 2, none⟩ = some (.string tx) := Bv016.out.cell 2
  have yv03 : w16.cell? ⟨w1.heap.size, 3, none⟩ = some (.int .i64 ex) := Bv016.out.cell 3
  have yv10 : w16.cell? ⟨w3.heap.size, 0, none⟩ = some (.int .i64 cx) := Bv116.out.cell 0
  have yv11 : w16.cell? ⟨w3.heap.size, 1, none⟩ = some (.bool nx) := Bv116.out.cell 1
  have yv12 : w16.cell? ⟨w3.heap.size, 2, none⟩ = some (.string tx) := Bv116.out.cell 2
  have yv13 : w16.cell? ⟨w3.heap.size, 3, none⟩ = some (.int .i64 ex) := Bv116.out.cell 3
  have yv20 : w16.cell? ⟨w5.heap.size, 0, none⟩ = some (.int .i64 cz) := Bv216.out.cell 0
  have yv21 : w16.cell? ⟨w5.heap.size, 1, none⟩ = some (.bool nz) := Bv216.out.cell 1
  have yv22 : w16.cell? ⟨w5.heap.size, 2, none⟩ = some (.string tz) := Bv216.out.cell 2
  have yv23 : w16.cell? ⟨w5.heap.size, 3, none⟩ = some (.int .i64 ez) := Bv216.out.cell 3
  have yv30 : w16.cell? ⟨w7.heap.size, 0, none⟩ = some (.int .i64 cz) := Bv316.out.cell 0
  have yv31 : w16.cell? ⟨w7.heap.size, 1, none⟩ = some (.bool nz) := Bv316.out.cell 1
  have yv32 : w16.cell? ⟨w7.heap.size, 2, none⟩ = some (.string tz) := Bv316.out.cell 2
  have yv33 : w16.cell? ⟨w7.heap.size, 3, none⟩ = some (.int .i64 ez) := Bv316.out.cell 3
  have yv40 : w16.cell? ⟨w10.heap.size, 0, none⟩ = some (.int .i64 cp) := Bv416.out.cell 0
  have yv41 : w16.cell? ⟨w10.heap.size, 1, none⟩ = some (.bool np) := Bv416.out.cell 1
  have yv42 : w16.cell? ⟨w10.heap.size, 2, none⟩ = some (.string tp) := Bv416.out.cell 2
  have yv43 : w16.cell? ⟨w10.heap.size, 3, none⟩ = some (.int .i64 ep) := Bv416.out.cell 3
  have yv50 : w16.cell? ⟨w12.heap.size, 0, none⟩ = some (.int .i64 cl) := Bv516.out.cell 0
  have yv51 : w16.cell? ⟨w12.heap.size, 1, none⟩ = some (.bool nl) := Bv516.out.cell 1
  have yv52 : w16.cell? ⟨w12.heap.size, 2, none⟩ = some (.string tl) := Bv516.out.cell 2
  have yv53 : w16.cell? ⟨w12.heap.size, 3, none⟩ = some (.int .i64 el) := Bv516.out.cell 3
  have yv60 : w16.cell? ⟨w14.heap.size, 0, none⟩ = some (.int .i64 cq) := Bv616.out.cell 0
  have yv61 : w16.cell? ⟨w14.heap.size, 1, none⟩ = some (.bool nq) := Bv616.out.cell 1
  have yv62 : w16.cell? ⟨w14.heap.size, 2, none⟩ = some (.string tq) := Bv616.out.cell 2
  have yv63 : w16.cell? ⟨w14.heap.size, 3, none⟩ = some (.int .i64 eq) := Bv616.out.cell 3
  have Ba17 := hide ((Ba16.out.alloc (.cells #[.int .i64 cr, .bool nr, .string tr, .int .i64 er] 23)))
  have Bb17 := hide ((Bb16.out.alloc (.cells #[.int .i64 cr, .bool nr, .string tr, .int .i64 er] 23)))
  have Bc17 := hide ((Bc16.out.alloc (.cells #[.int .i64 cr, .bool nr, .string tr, .int .i64 er] 23)))
  have Bv017 := hide ((Bv016.out.alloc (.cells #[.int .i64 cr, .bool nr, .string tr, .int .i64 er] 23)))
  have Bv117 := hide ((Bv116.out.alloc (.cells #[.int .i64 cr, .bool nr, .string tr, .int .i64 er] 23)))
  have Bv217 := hide ((Bv216.out.alloc (.cells #[.int .i64 cr, .bool nr, .string tr, .int .i64 er] 23)))
  have Bv317 := hide ((Bv316.out.alloc (.cells #[.int .i64 cr, .bool nr, .string tr, .int .i64 er] 23)))
  have Bv417 := hide ((Bv416.out.alloc (.cells #[.int .i64 cr, .bool nr, .string tr, .int .i64 er] 23)))
  have Bv517 := hide ((Bv516.out.alloc (.cells #[.int .i64 cr, .bool nr, .string tr, .int .i64 er] 23)))
  have Bv617 := hide ((Bv616.out.alloc (.cells #[.int .i64 cr, .bool nr, .string tr, .int .i64 er] 23)))
  have Bv717 := hide ((Blk.newAt w16 (w16.heap.size) (rfl) #[.int .i64 cr, .bool nr, .string tr, .int .i64 er] 23))
  have HB17 : Hid (Below w.heap.size w (w16.alloc (.cells #[.int .i64 cr, .bool nr, .string tr, .int .i64 er] 23))) := (HB16.out.alloc HB16.out.size _)
  clear Ba16 Bb16 Bc16 Bv016 Bv116 Bv216 Bv316 Bv416 Bv516 Bv616 HB16 ya0 ya1 ya2 ya3 yb0 yb1 yb2 yb3 yc0 yc1 yc2 yc3 yv00 yv01 yv02 yv03 yv10 yv11 yv12 yv13 yv20 yv21 yv22 yv23 yv30 yv31 yv32 yv33 yv40 yv41 yv42 yv43 yv50 yv51 yv52 yv53 yv60 yv61 yv62 yv63
  have ya0 : (w16.alloc (.cells #[.int .i64 cr, .bool nr, .string tr, .int .i64 er] 23)).cell? ⟨w.heap.size, 0, none⟩ = some (.int .i64 ca) := Ba17.out.cell 0
  have ya1 : (w16.alloc (.cells #[.int .i64 cr, .bool nr, .string tr, .int .i64 er] 23)).cell? ⟨w.heap.size, 1, none⟩ = some (.bool na) := Ba17.out.cell 1
  have ya2 : (w16.alloc (.cells #[.int .i64 cr, .bool nr, .string tr, .int .i64 er] 23)).cell? ⟨w.heap.size, 2, none⟩ = some (.string ta) := Ba17.out.cell 2
  have ya3 : (w16.alloc (.cells #[.int .i64 cr, .bool nr, .string tr, .int .i64 er] 23)).cell? ⟨w.heap.size, 3, none⟩ = some (.int .i64 ea) := Ba17.out.cell 3
  have yb0 : (w16.alloc (.cells #[.int .i64 cr, .bool nr, .string tr, .int .i64 er] 23)).cell? ⟨w.heap.size + 1, 0, none⟩ = some (.int .i64 cb) := Bb17.out.cell 0
  have yb1 : (w16.alloc (.cells #[.int .i64 cr, .bool nr, .string tr, .int .i64 er] 23)).cell? ⟨w.heap.size + 1, 1, none⟩ = some (.bool nb) := Bb17.out.cell 1
  have yb2 : (w16.alloc (.cells #[.int .i64 cr, .bool nr, .string tr, .int .i64 er] 23)).cell? ⟨w.heap.size + 1, 2, none⟩ = some (.string tb) := Bb17.out.cell 2
  have yb3 : (w16.alloc (.cells #[.int .i64 cr, .bool nr, .string tr, .int .i64 er] 23)).cell? ⟨w.heap.size + 1, 3, none⟩ = some (.int .i64 eb) := Bb17.out.cell 3
  have yc0 : (w16.alloc (.cells #[.int .i64 cr, .bool nr, .string tr, .int .i64 er] 23)).cell? ⟨w.heap.size + 1 + 1, 0, none⟩ = some (.int .i64 cc) := Bc17.out.cell 0
  have yc1 : (w16.alloc (.cells #[.int .i64 cr, .bool nr, .string tr, .int .i64 er] 23)).cell? ⟨w.heap.size + 1 + 1, 1, none⟩ = some (.bool nc) := Bc17.out.cell 1
  have yc2 : (w16.alloc (.cells #[.int .i64 cr, .bool nr, .string tr, .int .i64 er] 23)).cell? ⟨w.heap.size + 1 + 1, 2, none⟩ = some (.string tc) := Bc17.out.cell 2
  have yc3 : (w16.alloc (.cells #[.int .i64 cr, .bool nr, .string tr, .int .i64 er] 23)).cell? ⟨w.heap.size + 1 + 1, 3, none⟩ = some (.int .i64 ec) := Bc17.out.cell 3
  have yv00 : (w16.alloc (.cells #[.int .i64 cr, .bool nr, .string tr, .int .i64 er] 23)).cell? ⟨w1.heap.size, 0, none⟩ = some (.int .i64 cx) := Bv017.out.cell 0
  have yv01 : (w16.alloc (.cells #[.int .i64 cr, .bool nr, .string tr, .int .i64 er] 23)).cell? ⟨w1.heap.size, 1, none⟩ = some (.bool nx) := Bv017.out.cell 1
  have yv02 : (w16.alloc (.cells #[.int .i64 cr, .bool nr, .string tr, .int .i64 er] 23)).cell? ⟨w1.heap.size, 2, none⟩ = some (.string tx) := Bv017.out.cell 2
  have yv03 : (w16.alloc (.cells #[.int .i64 cr, .bool nr, .string tr, .int .i64 er] 23)).cell? ⟨w1.heap.size, 3, none⟩ = some (.int .i64 ex) := Bv017.out.cell 3
  have yv10 : (w16.alloc (.cells #[.int .i64 cr, .bool nr, .string tr, .int .i64 er] 23)).cell? ⟨w3.heap.size, 0, none⟩ = some (.int .i64 cx) := Bv117.out.cell 0
  have yv11 : (w16.alloc (.cells #[.int .i64 cr, .bool nr, .string tr, .int .i64 er] 23)).cell? ⟨w3.heap.size, 1, none⟩ = some (.bool nx) := Bv117.out.cell 1
  have yv12 : (w16.alloc (.cells #[.int .i64 cr, .bool nr, .string tr, .int .i64 er] 23)).cell? ⟨w3.heap.size, 2, none⟩ = some (.string tx) := Bv117.out.cell 2
  have yv13 : (w16.alloc (.cells #[.int .i64 cr, .bool nr, .string tr, .int .i64 er] 23)).cell? ⟨w3.heap.size, 3, none⟩ = some (.int .i64 ex) := Bv117.out.cell 3
  have yv20 : (w16.alloc (.cells #[.int .i64 cr, .bool nr, .string tr, .int .i64 er] 23)).cell? ⟨w5.heap.size, 0, none⟩ = some (.int .i64 cz) := Bv217.out.cell 0
  have yv21 : (w16.alloc (.cells #[.int .i64 cr, .bool nr, .string tr, .int .i64 er] 23)).cell? ⟨w5.heap.size, 1, none⟩ = some (.bool nz) := Bv217.out.cell 1
  have yv22 : (w16.alloc (.cells #[.int .i64 cr, .bool nr, .string tr, .int .i64 er] 23)).cell? ⟨w5.heap.size, 2, none⟩ = some (.string tz) := Bv217.out.cell 2
  have yv23 : (w16.alloc (.cells #[.int .i64 cr, .bool nr, .string tr, .int .i64 er] 23)).cell? ⟨w5.heap.size, 3, none⟩ = some (.int .i64 ez) := Bv217.out.cell 3
  have yv30 : (w16.alloc (.cells #[.int .i64 cr, .bool nr, .string tr, .int .i64 er] 23)).cell? ⟨w7.heap.size, 0, none⟩ = some (.int .i64 cz) := Bv317.out.cell 0
  have yv31 : (w16.alloc (.cells #[.int .i64 cr, .bool nr, .string tr, .int .i64 er] 23)).cell? ⟨w7.heap.size, 1, none⟩ = some (.bool nz) := Bv317.out.cell 1
  have yv32 : (w16.alloc (.cells #[.int .i64 cr, .bool nr, .string tr, .int .i64 er] 23)).cell? ⟨w7.heap.size, 2, none⟩ = some (.string tz) := Bv317.out.cell 2
  have yv33 : (w16.alloc (.cells #[.int .i64 cr, .bool nr, .string tr, .int .i64 er] 23)).cell? ⟨w7.heap.size, 3, none⟩ = some (.int .i64 ez) := Bv317.out.cell 3
  have yv40 : (w16.alloc (.cells #[.int .i64 cr, .bool nr, .string tr, .int .i64 er] 23)).cell? ⟨w10.heap.size, 0, none⟩ = some (.int .i64 cp) := Bv417.out.cell 0
  have yv41 : (w16.alloc (.cells #[.int .i64 cr, .bool nr, .string tr, .int .i64 er] 23)).cell? ⟨w10.heap.size, 1, none⟩ = some (.bool np) := Bv417.out.cell 1
  have yv42 : (w16.alloc (.cells #[.int .i64 cr, .bool nr, .string tr, .int .i64 er] 23)).cell? ⟨w10.heap.size, 2, none⟩ = some (.string tp) := Bv417.out.cell 2
  have yv43 : (w16.alloc (.cells #[.int .i64 cr, .bool nr, .string tr, .int .i64 er] 23)).cell? ⟨w10.heap.size, 3, none⟩ = some (.int .i64 ep) := Bv417.out.cell 3
  have yv50 : (w16.alloc (.cells #[.int .i64 cr, .bool nr, .string tr, .int .i64 er] 23)).cell? ⟨w12.heap.size, 0, none⟩ = some (.int .i64 cl) := Bv517.out.cell 0
  have yv51 : (w16.alloc (.cells #[.int .i64 cr, .bool nr, .string tr, .int .i64 er] 23)).cell? ⟨w12.heap.size, 1, none⟩ = some (.bool nl) := Bv517.out.cell 1
  have yv52 : (w16.alloc (.cells #[.int .i64 cr, .bool nr, .string tr, .int .i64 er] 23)).cell? ⟨w12.heap.size, 2, none⟩ = some (.string tl) := Bv517.out.cell 2
  have yv53 : (w16.alloc (.cells #[.int .i64 cr, .bool nr, .string tr, .int .i64 er] 23)).cell? ⟨w12.heap.size, 3, none⟩ = some (.int .i64 el) := Bv517.out.cell 3
  have yv60 : (w16.alloc (.cells #[.int .i64 cr, .bool nr, .string tr, .int .i64 er] 23)).cell? ⟨w14.heap.size, 0, none⟩ = some (.int .i64 cq) := Bv617.out.cell 0
  have yv61 : (w16.alloc (.cells #[.int .i64 cr, .bool nr, .string tr, .int .i64 er] 23)).cell? ⟨w14.heap.size, 1, none⟩ = some (.bool nq) := Bv617.out.cell 1
  have yv62 : (w16.alloc (.cells #[.int .i64 cr, .bool nr, .string tr, .int .i64 er] 23)).cell? ⟨w14.heap.size, 2, none⟩ = some (.string tq) := Bv617.out.cell 2
  have yv63 : (w16.alloc (.cells #[.int .i64 cr, .bool nr, .string tr, .int .i64 er] 23)).cell? ⟨w14.heap.size, 3, none⟩ = some (.int .i64 eq) := Bv617.out.cell 3
  have yv70 : (w16.alloc (.cells #[.int .i64 cr, .bool nr, .string tr, .int .i64 er] 23)).cell? ⟨w16.heap.size, 0, none⟩ = some (.int .i64 cr) := Bv717.out.cell 0
  have yv71 : (w16.alloc (.cells #[.int .i64 cr, .bool nr, .string tr, .int .i64 er] 23)).cell? ⟨w16.heap.size, 1, none⟩ = some (.bool nr) := Bv717.out.cell 1
  have yv72 : (w16.alloc (.cells #[.int .i64 cr, .bool nr, .string tr, .int .i64 er] 23)).cell? ⟨w16.heap.size, 2, none⟩ = some (.string tr) := Bv717.out.cell 2
  have yv73 : (w16.alloc (.cells #[.int .i64 cr, .bool nr, .string tr, .int .i64 er] 23)).cell? ⟨w16.heap.size, 3, none⟩ = some (.int .i64 er) := Bv717.out.cell 3
  go_wp2_with fail
  all_goals first
    | (go_ret; exact ⟨rfl, HB17.out⟩)
    | (refine (HC.out (by first | rfl | assumption | omega | exact bne_eq (by assumption)) (by first | rfl | assumption | omega | exact bne_eq (by assumption)) (by first | rfl | assumption | omega | exact bne_eq (by assumption)) (by first | rfl | assumption | omega | exact bne_eq (by assumption)) (by first | rfl | assumption | omega | exact bne_eq (by assumption)) (by first | rfl | assumption | omega | exact bne_eq (by assumption)) (by first | rfl | assumption | omega | exact bne_eq (by assumption)) (by first | rfl | assumption | omega | exact bne_eq (by assumption)) _).mono ?_; rintro e wz ⟨rfl, hb⟩; have HZ := hide (HB17.out.trans (hb.mono HB17.out.size)); clear hb; go_wp2; go_ret; exact ⟨rfl, HZ.out⟩)

theorem dring_walk (w : World) (htab : Tab w) (ca : Int) (na : Bool) (ta : ByteArray) (ea : Int) (cb : Int) (nb : Bool) (tb : ByteArray) (eb : Int) (cc : Int) (nc : Bool) (tc : ByteArray) (ec : Int) : Calls Tryz.prog 10 #[dcV ca na ta ea, dcV cb nb tb eb, dcV cc nc tc ec] w fun e w' => e = .returned (.bool true) ∧ Below w.heap.size w w' := by
  obtain ⟨x, x1, x2, x3⟩ := add_ex ca na ta ea cb nb tb eb
  obtain ⟨x', y1, y2, y3⟩ := add_ex cb nb tb eb ca na ta ea
  obtain ⟨z, z1, z2, z3⟩ := mul_ex ca na ta ea cb nb tb eb
  obtain ⟨z', u1, u2, u3⟩ := mul_ex cb nb tb eb ca na ta ea
  have ex : x' = x := by
    rcases x3 with ⟨a1, a2, e⟩ | ⟨a1, e⟩ <;> rcases y3 with ⟨b1, b2, f⟩ | ⟨b1, f⟩
    · rw [e, f, sumT_comm _ _ (mayD_d a1) (mayD_d a2)]
    · exact absurd ⟨a2, a1⟩ b1
    · exact absurd ⟨b2, b1⟩ a1
    · rw [e, f]
  have ez : z' = z := by
    rcases z3 with ⟨a1, a2, e⟩ | ⟨a1, e⟩ <;> rcases u3 with ⟨b1, b2, f⟩ | ⟨b1, f⟩
    · rw [e, f, prodT_comm]
    · exact absurd ⟨a2, a1⟩ b1
    · exact absurd ⟨b2, b1⟩ a1
    · rw [e, f]
  rw [ex] at y1
  rw [ez] at u1
  obtain ⟨p, p1, p2, p3⟩ := add_ex cb nb tb eb cc nc tc ec
  obtain ⟨l, l1, l2, l3⟩ := mul_ex ca na ta ea (p.1.cls : Int) p.1.neg ⟨p.1.dig.toArray⟩ p.1.exp
  obtain ⟨q, q1, q2, q3⟩ := mul_ex ca na ta ea cc nc tc ec
  obtain ⟨r, r1, r2, r3⟩ := add_ex (z.1.cls : Int) z.1.neg ⟨z.1.dig.toArray⟩ z.1.exp (q.1.cls : Int) q.1.neg ⟨q.1.dig.toArray⟩ q.1.exp
  refine ring_gen ca na ta ea cb nb tb eb cc nc tc ec _ _ _ _ _ _ _ _ _ _ _ _ _ _ _ _ _ _ _ _ _ _ _ _ _ _ _ _ _ _ w htab x1 y1 z1 u1 p1 l1 q1 r1 ?_
  intro hp hl hz hq hr ha hb hc W
  have g := Cmp_d l.1 r.1 W l2 r2
  have e : cmpI (wD l.1) (wD r.1) = 0 := by
    rcases p3 with ⟨b1, c1, e1⟩ | ⟨_, e1⟩
    · rcases z3 with ⟨a1, _, e2⟩ | ⟨_, e2⟩
      · rcases q3 with ⟨_, _, e3⟩ | ⟨_, e3⟩
        · rcases l3 with ⟨_, _, e4⟩ | ⟨_, e4⟩
          · rcases r3 with ⟨_, _, e5⟩ | ⟨_, e5⟩
            · rw [bys_mk, Int.toNat_natCast] at e4
              rw [bys_mk, bys_mk, Int.toNat_natCast, Int.toNat_natCast] at e5
              have f4 : l = prodT ⟨ca.toNat, na, bys ta, ea⟩ p.1 := e4
              have f5 : r = sumT z.1 q.1 := e5
              subst e1 e2 e3 f4 f5
              subst ha hb hc
              exact ring_val (mayD_d a1) (mayD_d b1) (mayD_d c1) rfl rfl rfl hp hl hz hq hr
            · rw [e5] at hr; cases hr
          · rw [e4] at hl; cases hl
        · rw [e3] at hq; cases hq
      · rw [e2] at hz; cases hz
    · rw [e1] at hp; cases hp
  rw [e] at g
  exact g

end Go.Proofs.YtafljhfamjabeaaGreatDoor
