/-
  The walk of NearestRises.
-/
import Derived.Test.YtlhekeifffofjaaGreatDoorZB13
import Derived.Test.YtlhekeifffofjaaGreatDoorZB6
import Derived.Test.YtlhekeifffofjaaGreatDoorZB16
import Derived.Test.YtlhekeifffofjaaGreatDoorZB19
namespace Go.Proofs.YtlhekeifffofjaaGreatDoor
open Go.RowKit

set_option maxRecDepth 100000 in
set_option maxHeartbeats 2000000 in
theorem rises_nn (w : World) (htab : Tab w) (ca : Int) (na : Bool) (ta : ByteArray) (ea : Int) (cb : Int) (nb : Bool) (tb : ByteArray) (eb : Int) (ha : ¬ MayD ca na (bys ta) ea) (hb : ¬ MayD cb nb (bys tb) eb) :
    Calls Tryz.prog 8 #[dcV ca na ta ea, dcV cb nb tb eb] w fun e w' => e = .returned (.bool true) ∧ Below w.heap.size w w' := by
  have Ba0 := hide ((Blk.new w #[.int .i64 ca, .bool na, .string ta, .int .i64 ea] 23).alloc (.cells #[.int .i64 cb, .bool nb, .string tb, .int .i64 eb] 23))
  have Bb0 := hide (Blk.newAt (w.alloc (.cells #[.int .i64 ca, .bool na, .string ta, .int .i64 ea] 23)) (w.heap.size + 1) (by simp) #[.int .i64 cb, .bool nb, .string tb, .int .i64 eb] 23)
  have HB0 : Hid (Below w.heap.size w ((w.alloc (.cells #[.int .i64 ca, .bool na, .string ta, .int .i64 ea] 23)).alloc (.cells #[.int .i64 cb, .bool nb, .string tb, .int .i64 eb] 23))) := ((Below.refl _ _).alloc (Nat.le_refl _) _).alloc (by simp) _
  have AW := hide (fun W => nawake_any W)
  have HT := hide htab
  have Ta := hide (fun W => to64_no (ca) na ta ea W ha)
  have Ma := hide (fun W => rmay_no (ca) na ta ea W ha)
  have Tb := hide (fun W => to64_no (cb) nb tb eb W hb)
  have Mb := hide (fun W => rmay_no (cb) nb tb eb W hb)
  clear ha hb htab
  go_enter Tryz.func8, Tryz.ntmps8
  go_wp2_with fail
  refine (Ta.out _).mono ?_
  rintro e w1 ⟨rfl, hb⟩
  have Ba1 := hide (Ba0.out.below hb Ba0.out.lt)
  have Bb1 := hide (Bb0.out.below hb Bb0.out.lt)
  have HB1 := hide (HB0.out.trans (hb.mono HB0.out.size))
  clear hb Ba0 Bb0 HB0
  have ya0 : w1.cell? ⟨w.heap.size, 0, none⟩ = some (.int .i64 ca) := Ba1.out.cell 0
  have ya1 : w1.cell? ⟨w.heap.size, 1, none⟩ = some (.bool na) := Ba1.out.cell 1
  have ya2 : w1.cell? ⟨w.heap.size, 2, none⟩ = some (.string ta) := Ba1.out.cell 2
  have ya3 : w1.cell? ⟨w.heap.size, 3, none⟩ = some (.int .i64 ea) := Ba1.out.cell 3
  have yb0 : w1.cell? ⟨w.heap.size + 1, 0, none⟩ = some (.int .i64 cb) := Bb1.out.cell 0
  have yb1 : w1.cell? ⟨w.heap.size + 1, 1, none⟩ = some (.bool nb) := Bb1.out.cell 1
  have yb2 : w1.cell? ⟨w.heap.size + 1, 2, none⟩ = some (.string tb) := Bb1.out.cell 2
  have yb3 : w1.cell? ⟨w.heap.size + 1, 3, none⟩ = some (.int .i64 eb) := Bb1.out.cell 3
  go_wp2_with fail
  refine (Tb.out _).mono ?_
  rintro e w2 ⟨rfl, hb⟩
  have Ba2 := hide (Ba1.out.below hb Ba1.out.lt)
  have Bb2 := hide (Bb1.out.below hb Bb1.out.lt)
  have HB2 := hide (HB1.out.trans (hb.mono HB1.out.size))
  clear hb Ba1 Bb1 HB1 ya0 ya1 ya2 ya3 yb0 yb1 yb2 yb3
  have ya0 : w2.cell? ⟨w.heap.size, 0, none⟩ = some (.int .i64 ca) := Ba2.out.cell 0
  have ya1 : w2.cell? ⟨w.heap.size, 1, none⟩ = some (.bool na) := Ba2.out.cell 1
  have ya2 : w2.cell? ⟨w.heap.size, 2, none⟩ = some (.string ta) := Ba2.out.cell 2
  have ya3 : w2.cell? ⟨w.heap.size, 3, none⟩ = some (.int .i64 ea) := Ba2.out.cell 3
  have yb0 : w2.cell? ⟨w.heap.size + 1, 0, none⟩ = some (.int .i64 cb) := Bb2.out.cell 0
  have yb1 : w2.cell? ⟨w.heap.size + 1, 1, none⟩ = some (.bool nb) := Bb2.out.cell 1
  have yb2 : w2.cell? ⟨w.heap.size + 1, 2, none⟩ = some (.string tb) := Bb2.out.cell 2
  have yb3 : w2.cell? ⟨w.heap.size + 1, 3, none⟩ = some (.int .i64 eb) := Bb2.out.cell 3
  go_wp2_with fail
  refine (AW.out _ (HT.out.below HB2.out)).mono ?_
  rintro e w3 ⟨rfl, hb⟩
  have Ba3 := hide (Ba2.out.below hb Ba2.out.lt)
  have Bb3 := hide (Bb2.out.below hb Bb2.out.lt)
  have HB3 := hide (HB2.out.trans (hb.mono HB2.out.size))
  clear hb Ba2 Bb2 HB2 ya0 ya1 ya2 ya3 yb0 yb1 yb2 yb3
  have ya0 : w3.cell? ⟨w.heap.size, 0, none⟩ = some (.int .i64 ca) := Ba3.out.cell 0
  have ya1 : w3.cell? ⟨w.heap.size, 1, none⟩ = some (.bool na) := Ba3.out.cell 1
  have ya2 : w3.cell? ⟨w.heap.size, 2, none⟩ = some (.string ta) := Ba3.out.cell 2
  have ya3 : w3.cell? ⟨w.heap.size, 3, none⟩ = some (.int .i64 ea) := Ba3.out.cell 3
  have yb0 : w3.cell? ⟨w.heap.size + 1, 0, none⟩ = some (.int .i64 cb) := Bb3.out.cell 0
  have yb1 : w3.cell? ⟨w.heap.size + 1, 1, none⟩ = some (.bool nb) := Bb3.out.cell 1
  have yb2 : w3.cell? ⟨w.heap.size + 1, 2, none⟩ = some (.string tb) := Bb3.out.cell 2
  have yb3 : w3.cell? ⟨w.heap.size + 1, 3, none⟩ = some (.int .i64 eb) := Bb3.out.cell 3
  go_wp2_with fail
  refine (Ma.out _).mono ?_
  rintro e w4 ⟨rfl, hb⟩
  have Ba4 := hide (Ba3.out.below hb Ba3.out.lt)
  have Bb4 := hide (Bb3.out.below hb Bb3.out.lt)
  have HB4 := hide (HB3.out.trans (hb.mono HB3.out.size))
  clear hb Ba3 Bb3 HB3 ya0 ya1 ya2 ya3 yb0 yb1 yb2 yb3
  have ya0 : w4.cell? ⟨w.heap.size, 0, none⟩ = some (.int .i64 ca) := Ba4.out.cell 0
  have ya1 : w4.cell? ⟨w.heap.size, 1, none⟩ = some (.bool na) := Ba4.out.cell 1
  have ya2 : w4.cell? ⟨w.heap.size, 2, none⟩ = some (.string ta) := Ba4.out.cell 2
  have ya3 : w4.cell? ⟨w.heap.size, 3, none⟩ = some (.int .i64 ea) := Ba4.out.cell 3
  have yb0 : w4.cell? ⟨w.heap.size + 1, 0, none⟩ = some (.int .i64 cb) := Bb4.out.cell 0
  have yb1 : w4.cell? ⟨w.heap.size + 1, 1, none⟩ = some (.bool nb) := Bb4.out.cell 1
  have yb2 : w4.cell? ⟨w.heap.size + 1, 2, none⟩ = some (.string tb) := Bb4.out.cell 2
  have yb3 : w4.cell? ⟨w.heap.size + 1, 3, none⟩ = some (.int .i64 eb) := Bb4.out.cell 3
  go_wp2_with fail
  refine (Mb.out _).mono ?_
  rintro e w5 ⟨rfl, hb⟩
  have Ba5 := hide (Ba4.out.below hb Ba4.out.lt)
  have Bb5 := hide (Bb4.out.below hb Bb4.out.lt)
  have HB5 := hide (HB4.out.trans (hb.mono HB4.out.size))
  clear hb Ba4 Bb4 HB4 ya0 ya1 ya2 ya3 yb0 yb1 yb2 yb3
  have ya0 : w5.cell? ⟨w.heap.size, 0, none⟩ = some (.int .i64 ca) := Ba5.out.cell 0
  have ya1 : w5.cell? ⟨w.heap.size, 1, none⟩ = some (.bool na) := Ba5.out.cell 1
  have ya2 : w5.cell? ⟨w.heap.size, 2, none⟩ = some (.string ta) := Ba5.out.cell 2
  have ya3 : w5.cell? ⟨w.heap.size, 3, none⟩ = some (.int .i64 ea) := Ba5.out.cell 3
  have yb0 : w5.cell? ⟨w.heap.size + 1, 0, none⟩ = some (.int .i64 cb) := Bb5.out.cell 0
  have yb1 : w5.cell? ⟨w.heap.size + 1, 1, none⟩ = some (.bool nb) := Bb5.out.cell 1
  have yb2 : w5.cell? ⟨w.heap.size + 1, 2, none⟩ = some (.string tb) := Bb5.out.cell 2
  have yb3 : w5.cell? ⟨w.heap.size + 1, 3, none⟩ = some (.int .i64 eb) := Bb5.out.cell 3
  go_wp2
  go_ret
  exact ⟨rfl, HB5.out⟩

set_option maxRecDepth 100000 in
set_option maxHeartbeats 2000000 in
theorem rises_ny (w : World) (htab : Tab w) (ca : Int) (na : Bool) (ta : ByteArray) (ea : Int) (cb : Int) (nb : Bool) (tb : ByteArray) (eb : Int) (ha : ¬ MayD ca na (bys ta) ea) (hb : MayD cb nb (bys tb) eb) :
    Calls Tryz.prog 8 #[dcV ca na ta ea, dcV cb nb tb eb] w fun e w' => e = .returned (.bool true) ∧ Below w.heap.size w w' := by
  have Ba0 := hide ((Blk.new w #[.int .i64 ca, .bool na, .string ta, .int .i64 ea] 23).alloc (.cells #[.int .i64 cb, .bool nb, .string tb, .int .i64 eb] 23))
  have Bb0 := hide (Blk.newAt (w.alloc (.cells #[.int .i64 ca, .bool na, .string ta, .int .i64 ea] 23)) (w.heap.size + 1) (by simp) #[.int .i64 cb, .bool nb, .string tb, .int .i64 eb] 23)
  have HB0 : Hid (Below w.heap.size w ((w.alloc (.cells #[.int .i64 ca, .bool na, .string ta, .int .i64 ea] 23)).alloc (.cells #[.int .i64 cb, .bool nb, .string tb, .int .i64 eb] 23))) := ((Below.refl _ _).alloc (Nat.le_refl _) _).alloc (by simp) _
  have AW := hide (fun W => nawake_any W)
  have HT := hide htab
  have Ta := hide (fun W => to64_no (ca) na ta ea W ha)
  have Ma := hide (fun W => rmay_no (ca) na ta ea W ha)
  have Tb := hide (fun W => to64_yes (cb) nb tb eb W hb)
  have Mb := hide (fun W => rmay_yes (cb) nb tb eb W hb)
  obtain ⟨rb, hrb⟩ : ∃ r, r = toD 52 11 1074 ⟨(cb : Int).toNat, nb, bys tb, eb⟩ := ⟨_, rfl⟩
  rw [← hrb] at Tb
  clear hrb
  clear ha hb htab
  go_enter Tryz.func8, Tryz.ntmps8
  go_wp2_with fail
  refine (Ta.out _).mono ?_
  rintro e w1 ⟨rfl, hb⟩
  have Ba1 := hide (Ba0.out.below hb Ba0.out.lt)
  have Bb1 := hide (Bb0.out.below hb Bb0.out.lt)
  have HB1 := hide (HB0.out.trans (hb.mono HB0.out.size))
  clear hb Ba0 Bb0 HB0
  have ya0 : w1.cell? ⟨w.heap.size, 0, none⟩ = some (.int .i64 ca) := Ba1.out.cell 0
  have ya1 : w1.cell? ⟨w.heap.size, 1, none⟩ = some (.bool na) := Ba1.out.cell 1
  have ya2 : w1.cell? ⟨w.heap.size, 2, none⟩ = some (.string ta) := Ba1.out.cell 2
  have ya3 : w1.cell? ⟨w.heap.size, 3, none⟩ = some (.int .i64 ea) := Ba1.out.cell 3
  have yb0 : w1.cell? ⟨w.heap.size + 1, 0, none⟩ = some (.int .i64 cb) := Bb1.out.cell 0
  have yb1 : w1.cell? ⟨w.heap.size + 1, 1, none⟩ = some (.bool nb) := Bb1.out.cell 1
  have yb2 : w1.cell? ⟨w.heap.size + 1, 2, none⟩ = some (.string tb) := Bb1.out.cell 2
  have yb3 : w1.cell? ⟨w.heap.size + 1, 3, none⟩ = some (.int .i64 eb) := Bb1.out.cell 3
  go_wp2_with fail
  refine (Tb.out _).mono ?_
  rintro e w2 ⟨rfl, hb⟩
  have Ba2 := hide (Ba1.out.below hb Ba1.out.lt)
  have Bb2 := hide (Bb1.out.below hb Bb1.out.lt)
  have HB2 := hide (HB1.out.trans (hb.mono HB1.out.size))
  clear hb Ba1 Bb1 HB1 ya0 ya1 ya2 ya3 yb0 yb1 yb2 yb3
  have ya0 : w2.cell? ⟨w.heap.size, 0, none⟩ = some (.int .i64 ca) := Ba2.out.cell 0
  have ya1 : w2.cell? ⟨w.heap.size, 1, none⟩ = some (.bool na) := Ba2.out.cell 1
  have ya2 : w2.cell? ⟨w.heap.size, 2, none⟩ = some (.string ta) := Ba2.out.cell 2
  have ya3 : w2.cell? ⟨w.heap.size, 3, none⟩ = some (.int .i64 ea) := Ba2.out.cell 3
  have yb0 : w2.cell? ⟨w.heap.size + 1, 0, none⟩ = some (.int .i64 cb) := Bb2.out.cell 0
  have yb1 : w2.cell? ⟨w.heap.size + 1, 1, none⟩ = some (.bool nb) := Bb2.out.cell 1
  have yb2 : w2.cell? ⟨w.heap.size + 1, 2, none⟩ = some (.string tb) := Bb2.out.cell 2
  have yb3 : w2.cell? ⟨w.heap.size + 1, 3, none⟩ = some (.int .i64 eb) := Bb2.out.cell 3
  go_wp2_with fail
  refine (AW.out _ (HT.out.below HB2.out)).mono ?_
  rintro e w3 ⟨rfl, hb⟩
  have Ba3 := hide (Ba2.out.below hb Ba2.out.lt)
  have Bb3 := hide (Bb2.out.below hb Bb2.out.lt)
  have HB3 := hide (HB2.out.trans (hb.mono HB2.out.size))
  clear hb Ba2 Bb2 HB2 ya0 ya1 ya2 ya3 yb0 yb1 yb2 yb3
  have ya0 : w3.cell? ⟨w.heap.size, 0, none⟩ = some (.int .i64 ca) := Ba3.out.cell 0
  have ya1 : w3.cell? ⟨w.heap.size, 1, none⟩ = some (.bool na) := Ba3.out.cell 1
  have ya2 : w3.cell? ⟨w.heap.size, 2, none⟩ = some (.string ta) := Ba3.out.cell 2
  have ya3 : w3.cell? ⟨w.heap.size, 3, none⟩ = some (.int .i64 ea) := Ba3.out.cell 3
  have yb0 : w3.cell? ⟨w.heap.size + 1, 0, none⟩ = some (.int .i64 cb) := Bb3.out.cell 0
  have yb1 : w3.cell? ⟨w.heap.size + 1, 1, none⟩ = some (.bool nb) := Bb3.out.cell 1
  have yb2 : w3.cell? ⟨w.heap.size + 1, 2, none⟩ = some (.string tb) := Bb3.out.cell 2
  have yb3 : w3.cell? ⟨w.heap.size + 1, 3, none⟩ = some (.int .i64 eb) := Bb3.out.cell 3
  go_wp2_with fail
  refine (Ma.out _).mono ?_
  rintro e w4 ⟨rfl, hb⟩
  have Ba4 := hide (Ba3.out.below hb Ba3.out.lt)
  have Bb4 := hide (Bb3.out.below hb Bb3.out.lt)
  have HB4 := hide (HB3.out.trans (hb.mono HB3.out.size))
  clear hb Ba3 Bb3 HB3 ya0 ya1 ya2 ya3 yb0 yb1 yb2 yb3
  have ya0 : w4.cell? ⟨w.heap.size, 0, none⟩ = some (.int .i64 ca) := Ba4.out.cell 0
  have ya1 : w4.cell? ⟨w.heap.size, 1, none⟩ = some (.bool na) := Ba4.out.cell 1
  have ya2 : w4.cell? ⟨w.heap.size, 2, none⟩ = some (.string ta) := Ba4.out.cell 2
  have ya3 : w4.cell? ⟨w.heap.size, 3, none⟩ = some (.int .i64 ea) := Ba4.out.cell 3
  have yb0 : w4.cell? ⟨w.heap.size + 1, 0, none⟩ = some (.int .i64 cb) := Bb4.out.cell 0
  have yb1 : w4.cell? ⟨w.heap.size + 1, 1, none⟩ = some (.bool nb) := Bb4.out.cell 1
  have yb2 : w4.cell? ⟨w.heap.size + 1, 2, none⟩ = some (.string tb) := Bb4.out.cell 2
  have yb3 : w4.cell? ⟨w.heap.size + 1, 3, none⟩ = some (.int .i64 eb) := Bb4.out.cell 3
  go_wp2_with fail
  refine (Mb.out _).mono ?_
  rintro e w5 ⟨rfl, hb⟩
  have Ba5 := hide (Ba4.out.below hb Ba4.out.lt)
  have Bb5 := hide (Bb4.out.below hb Bb4.out.lt)
  have HB5 := hide (HB4.out.trans (hb.mono HB4.out.size))
  clear hb Ba4 Bb4 HB4 ya0 ya1 ya2 ya3 yb0 yb1 yb2 yb3
  have ya0 : w5.cell? ⟨w.heap.size, 0, none⟩ = some (.int .i64 ca) := Ba5.out.cell 0
  have ya1 : w5.cell? ⟨w.heap.size, 1, none⟩ = some (.bool na) := Ba5.out.cell 1
  have ya2 : w5.cell? ⟨w.heap.size, 2, none⟩ = some (.string ta) := Ba5.out.cell 2
  have ya3 : w5.cell? ⟨w.heap.size, 3, none⟩ = some (.int .i64 ea) := Ba5.out.cell 3
  have yb0 : w5.cell? ⟨w.heap.size + 1, 0, none⟩ = some (.int .i64 cb) := Bb5.out.cell 0
  have yb1 : w5.cell? ⟨w.heap.size + 1, 1, none⟩ = some (.bool nb) := Bb5.out.cell 1
  have yb2 : w5.cell? ⟨w.heap.size + 1, 2, none⟩ = some (.string tb) := Bb5.out.cell 2
  have yb3 : w5.cell? ⟨w.heap.size + 1, 3, none⟩ = some (.int .i64 eb) := Bb5.out.cell 3
  go_wp2
  go_ret
  exact ⟨rfl, HB5.out⟩

set_option maxRecDepth 100000 in
set_option maxHeartbeats 2000000 in
theorem rises_yn (w : World) (htab : Tab w) (ca : Int) (na : Bool) (ta : ByteArray) (ea : Int) (cb : Int) (nb : Bool) (tb : ByteArray) (eb : Int) (ha : MayD ca na (bys ta) ea) (hb : ¬ MayD cb nb (bys tb) eb) :
    Calls Tryz.prog 8 #[dcV ca na ta ea, dcV cb nb tb eb] w fun e w' => e = .returned (.bool true) ∧ Below w.heap.size w w' := by
  have Ba0 := hide ((Blk.new w #[.int .i64 ca, .bool na, .string ta, .int .i64 ea] 23).alloc (.cells #[.int .i64 cb, .bool nb, .string tb, .int .i64 eb] 23))
  have Bb0 := hide (Blk.newAt (w.alloc (.cells #[.int .i64 ca, .bool na, .string ta, .int .i64 ea] 23)) (w.heap.size + 1) (by simp) #[.int .i64 cb, .bool nb, .string tb, .int .i64 eb] 23)
  have HB0 : Hid (Below w.heap.size w ((w.alloc (.cells #[.int .i64 ca, .bool na, .string ta, .int .i64 ea] 23)).alloc (.cells #[.int .i64 cb, .bool nb, .string tb, .int .i64 eb] 23))) := ((Below.refl _ _).alloc (Nat.le_refl _) _).alloc (by simp) _
  have AW := hide (fun W => nawake_any W)
  have HT := hide htab
  have Ta := hide (fun W => to64_yes (ca) na ta ea W ha)
  have Ma := hide (fun W => rmay_yes (ca) na ta ea W ha)
  obtain ⟨ra, hra⟩ : ∃ r, r = toD 52 11 1074 ⟨(ca : Int).toNat, na, bys ta, ea⟩ := ⟨_, rfl⟩
  rw [← hra] at Ta
  clear hra
  have Tb := hide (fun W => to64_no (cb) nb tb eb W hb)
  have Mb := hide (fun W => rmay_no (cb) nb tb eb W hb)
  clear ha hb htab
  go_enter Tryz.func8, Tryz.ntmps8
  go_wp2_with fail
  refine (Ta.out _).mono ?_
  rintro e w1 ⟨rfl, hb⟩
  have Ba1 := hide (Ba0.out.below hb Ba0.out.lt)
  have Bb1 := hide (Bb0.out.below hb Bb0.out.lt)
  have HB1 := hide (HB0.out.trans (hb.mono HB0.out.size))
  clear hb Ba0 Bb0 HB0
  have ya0 : w1.cell? ⟨w.heap.size, 0, none⟩ = some (.int .i64 ca) := Ba1.out.cell 0
  have ya1 : w1.cell? ⟨w.heap.size, 1, none⟩ = some (.bool na) := Ba1.out.cell 1
  have ya2 : w1.cell? ⟨w.heap.size, 2, none⟩ = some (.string ta) := Ba1.out.cell 2
  have ya3 : w1.cell? ⟨w.heap.size, 3, none⟩ = some (.int .i64 ea) := Ba1.out.cell 3
  have yb0 : w1.cell? ⟨w.heap.size + 1, 0, none⟩ = some (.int .i64 cb) := Bb1.out.cell 0
  have yb1 : w1.cell? ⟨w.heap.size + 1, 1, none⟩ = some (.bool nb) := Bb1.out.cell 1
  have yb2 : w1.cell? ⟨w.heap.size + 1, 2, none⟩ = some (.string tb) := Bb1.out.cell 2
  have yb3 : w1.cell? ⟨w.heap.size + 1, 3, none⟩ = some (.int .i64 eb) := Bb1.out.cell 3
  go_wp2_with fail
  refine (Tb.out _).mono ?_
  rintro e w2 ⟨rfl, hb⟩
  have Ba2 := hide (Ba1.out.below hb Ba1.out.lt)
  have Bb2 := hide (Bb1.out.below hb Bb1.out.lt)
  have HB2 := hide (HB1.out.trans (hb.mono HB1.out.size))
  clear hb Ba1 Bb1 HB1 ya0 ya1 ya2 ya3 yb0 yb1 yb2 yb3
  have ya0 : w2.cell? ⟨w.heap.size, 0, none⟩ = some (.int .i64 ca) := Ba2.out.cell 0
  have ya1 : w2.cell? ⟨w.heap.size, 1, none⟩ = some (.bool na) := Ba2.out.cell 1
  have ya2 : w2.cell? ⟨w.heap.size, 2, none⟩ = some (.string ta) := Ba2.out.cell 2
  have ya3 : w2.cell? ⟨w.heap.size, 3, none⟩ = some (.int .i64 ea) := Ba2.out.cell 3
  have yb0 : w2.cell? ⟨w.heap.size + 1, 0, none⟩ = some (.int .i64 cb) := Bb2.out.cell 0
  have yb1 : w2.cell? ⟨w.heap.size + 1, 1, none⟩ = some (.bool nb) := Bb2.out.cell 1
  have yb2 : w2.cell? ⟨w.heap.size + 1, 2, none⟩ = some (.string tb) := Bb2.out.cell 2
  have yb3 : w2.cell? ⟨w.heap.size + 1, 3, none⟩ = some (.int .i64 eb) := Bb2.out.cell 3
  go_wp2_with fail
  refine (AW.out _ (HT.out.below HB2.out)).mono ?_
  rintro e w3 ⟨rfl, hb⟩
  have Ba3 := hide (Ba2.out.below hb Ba2.out.lt)
  have Bb3 := hide (Bb2.out.below hb Bb2.out.lt)
  have HB3 := hide (HB2.out.trans (hb.mono HB2.out.size))
  clear hb Ba2 Bb2 HB2 ya0 ya1 ya2 ya3 yb0 yb1 yb2 yb3
  have ya0 : w3.cell? ⟨w.heap.size, 0, none⟩ = some (.int .i64 ca) := Ba3.out.cell 0
  have ya1 : w3.cell? ⟨w.heap.size, 1, none⟩ = some (.bool na) := Ba3.out.cell 1
  have ya2 : w3.cell? ⟨w.heap.size, 2, none⟩ = some (.string ta) := Ba3.out.cell 2
  have ya3 : w3.cell? ⟨w.heap.size, 3, none⟩ = some (.int .i64 ea) := Ba3.out.cell 3
  have yb0 : w3.cell? ⟨w.heap.size + 1, 0, none⟩ = some (.int .i64 cb) := Bb3.out.cell 0
  have yb1 : w3.cell? ⟨w.heap.size + 1, 1, none⟩ = some (.bool nb) := Bb3.out.cell 1
  have yb2 : w3.cell? ⟨w.heap.size + 1, 2, none⟩ = some (.string tb) := Bb3.out.cell 2
  have yb3 : w3.cell? ⟨w.heap.size + 1, 3, none⟩ = some (.int .i64 eb) := Bb3.out.cell 3
  go_wp2_with fail
  refine (Ma.out _).mono ?_
  rintro e w4 ⟨rfl, hb⟩
  have Ba4 := hide (Ba3.out.below hb Ba3.out.lt)
  have Bb4 := hide (Bb3.out.below hb Bb3.out.lt)
  have HB4 := hide (HB3.out.trans (hb.mono HB3.out.size))
  clear hb Ba3 Bb3 HB3 ya0 ya1 ya2 ya3 yb0 yb1 yb2 yb3
  have ya0 : w4.cell? ⟨w.heap.size, 0, none⟩ = some (.int .i64 ca) := Ba4.out.cell 0
  have ya1 : w4.cell? ⟨w.heap.size, 1, none⟩ = some (.bool na) := Ba4.out.cell 1
  have ya2 : w4.cell? ⟨w.heap.size, 2, none⟩ = some (.string ta) := Ba4.out.cell 2
  have ya3 : w4.cell? ⟨w.heap.size, 3, none⟩ = some (.int .i64 ea) := Ba4.out.cell 3
  have yb0 : w4.cell? ⟨w.heap.size + 1, 0, none⟩ = some (.int .i64 cb) := Bb4.out.cell 0
  have yb1 : w4.cell? ⟨w.heap.size + 1, 1, none⟩ = some (.bool nb) := Bb4.out.cell 1
  have yb2 : w4.cell? ⟨w.heap.size + 1, 2, none⟩ = some (.string tb) := Bb4.out.cell 2
  have yb3 : w4.cell? ⟨w.heap.size + 1, 3, none⟩ = some (.int .i64 eb) := Bb4.out.cell 3
  go_wp2_with fail
  refine (Mb.out _).mono ?_
  rintro e w5 ⟨rfl, hb⟩
  have Ba5 := hide (Ba4.out.below hb Ba4.out.lt)
  have Bb5 := hide (Bb4.out.below hb Bb4.out.lt)
  have HB5 := hide (HB4.out.trans (hb.mono HB4.out.size))
  clear hb Ba4 Bb4 HB4 ya0 ya1 ya2 ya3 yb0 yb1 yb2 yb3
  have ya0 : w5.cell? ⟨w.heap.size, 0, none⟩ = some (.int .i64 ca) := Ba5.out.cell 0
  have ya1 : w5.cell? ⟨w.heap.size, 1, none⟩ = some (.bool na) := Ba5.out.cell 1
  have ya2 : w5.cell? ⟨w.heap.size, 2, none⟩ = some (.string ta) := Ba5.out.cell 2
  have ya3 : w5.cell? ⟨w.heap.size, 3, none⟩ = some (.int .i64 ea) := Ba5.out.cell 3
  have yb0 : w5.cell? ⟨w.heap.size + 1, 0, none⟩ = some (.int .i64 cb) := Bb5.out.cell 0
  have yb1 : w5.cell? ⟨w.heap.size + 1, 1, none⟩ = some (.bool nb) := Bb5.out.cell 1
  have yb2 : w5.cell? ⟨w.heap.size + 1, 2, none⟩ = some (.string tb) := Bb5.out.cell 2
  have yb3 : w5.cell? ⟨w.heap.size + 1, 3, none⟩ = some (.int .i64 eb) := Bb5.out.cell 3
  go_wp2
  go_ret
  exact ⟨rfl, HB5.out⟩

set_option maxRecDepth 100000 in
set_option maxHeartbeats 2000000 in
theorem rises_ca (w : World) (htab : Tab w) (ca : Int) (na : Bool) (ta : ByteArray) (ea : Int) (cb : Int) (nb : Bool) (tb : ByteArray) (eb : Int) (ha : MayD ca na (bys ta) ea) (hb : MayD cb nb (bys tb) eb) (h : ¬ ca = 0) :
    Calls Tryz.prog 8 #[dcV ca na ta ea, dcV cb nb tb eb] w fun e w' => e = .returned (.bool true) ∧ Below w.heap.size w w' := by
  have Ba0 := hide ((Blk.new w #[.int .i64 ca, .bool na, .string ta, .int .i64 ea] 23).alloc (.cells #[.int .i64 cb, .bool nb, .string tb, .int .i64 eb] 23))
  have Bb0 := hide (Blk.newAt (w.alloc (.cells #[.int .i64 ca, .bool na, .string ta, .int .i64 ea] 23)) (w.heap.size + 1) (by simp) #[.int .i64 cb, .bool nb, .string tb, .int .i64 eb] 23)
  have HB0 : Hid (Below w.heap.size w ((w.alloc (.cells #[.int .i64 ca, .bool na, .string ta, .int .i64 ea] 23)).alloc (.cells #[.int .i64 cb, .bool nb, .string tb, .int .i64 eb] 23))) := ((Below.refl _ _).alloc (Nat.le_refl _) _).alloc (by simp) _
  have AW := hide (fun W => nawake_any W)
  have HT := hide htab
  have Ta := hide (fun W => to64_yes (ca) na ta ea W ha)
  have Ma := hide (fun W => rmay_yes (ca) na ta ea W ha)
  obtain ⟨ra, hra⟩ : ∃ r, r = toD 52 11 1074 ⟨(ca : Int).toNat, na, bys ta, ea⟩ := ⟨_, rfl⟩
  rw [← hra] at Ta
  clear hra
  have Tb := hide (fun W => to64_yes (cb) nb tb eb W hb)
  have Mb := hide (fun W => rmay_yes (cb) nb tb eb W hb)
  obtain ⟨rb, hrb⟩ : ∃ r, r = toD 52 11 1074 ⟨(cb : Int).toNat, nb, bys tb, eb⟩ := ⟨_, rfl⟩
  rw [← hrb] at Tb
  clear hrb
  clear ha hb htab
  have hc : (ca != 0) = true := by simpa using h
  go_enter Tryz.func8, Tryz.ntmps8
  go_wp2_with fail
  refine (Ta.out _).mono ?_
  rintro e w1 ⟨rfl, hb⟩
  have Ba1 := hide (Ba0.out.below hb Ba0.out.lt)
  have Bb1 := hide (Bb0.out.below hb Bb0.out.lt)
  have HB1 := hide (HB0.out.trans (hb.mono HB0.out.size))
  clear hb Ba0 Bb0 HB0
  have ya0 : w1.cell? ⟨w.heap.size, 0, none⟩ = some (.int .i64 ca) := Ba1.out.cell 0
  have ya1 : w1.cell? ⟨w.heap.size, 1, none⟩ = some (.bool na) := Ba1.out.cell 1
  have ya2 : w1.cell? ⟨w.heap.size, 2, none⟩ = some (.string ta) := Ba1.out.cell 2
  have ya3 : w1.cell? ⟨w.heap.size, 3, none⟩ = some (.int .i64 ea) := Ba1.out.cell 3
  have yb0 : w1.cell? ⟨w.heap.size + 1, 0, none⟩ = some (.int .i64 cb) := Bb1.out.cell 0
  have yb1 : w1.cell? ⟨w.heap.size + 1, 1, none⟩ = some (.bool nb) := Bb1.out.cell 1
  have yb2 : w1.cell? ⟨w.heap.size + 1, 2, none⟩ = some (.string tb) := Bb1.out.cell 2
  have yb3 : w1.cell? ⟨w.heap.size + 1, 3, none⟩ = some (.int .i64 eb) := Bb1.out.cell 3
  go_wp2_with fail
  refine (Tb.out _).mono ?_
  rintro e w2 ⟨rfl, hb⟩
  have Ba2 := hide (Ba1.out.below hb Ba1.out.lt)
  have Bb2 := hide (Bb1.out.below hb Bb1.out.lt)
  have HB2 := hide (HB1.out.trans (hb.mono HB1.out.size))
  clear hb Ba1 Bb1 HB1 ya0 ya1 ya2 ya3 yb0 yb1 yb2 yb3
  have ya0 : w2.cell? ⟨w.heap.size, 0, none⟩ = some (.int .i64 ca) := Ba2.out.cell 0
  have ya1 : w2.cell? ⟨w.heap.size, 1, none⟩ = some (.bool na) := Ba2.out.cell 1
  have ya2 : w2.cell? ⟨w.heap.size, 2, none⟩ = some (.string ta) := Ba2.out.cell 2
  have ya3 : w2.cell? ⟨w.heap.size, 3, none⟩ = some (.int .i64 ea) := Ba2.out.cell 3
  have yb0 : w2.cell? ⟨w.heap.size + 1, 0, none⟩ = some (.int .i64 cb) := Bb2.out.cell 0
  have yb1 : w2.cell? ⟨w.heap.size + 1, 1, none⟩ = some (.bool nb) := Bb2.out.cell 1
  have yb2 : w2.cell? ⟨w.heap.size + 1, 2, none⟩ = some (.string tb) := Bb2.out.cell 2
  have yb3 : w2.cell? ⟨w.heap.size + 1, 3, none⟩ = some (.int .i64 eb) := Bb2.out.cell 3
  go_wp2_with fail
  refine (AW.out _ (HT.out.below HB2.out)).mono ?_
  rintro e w3 ⟨rfl, hb⟩
  have Ba3 := hide (Ba2.out.below hb Ba2.out.lt)
  have Bb3 := hide (Bb2.out.below hb Bb2.out.lt)
  have HB3 := hide (HB2.out.trans (hb.mono HB2.out.size))
  clear hb Ba2 Bb2 HB2 ya0 ya1 ya2 ya3 yb0 yb1 yb2 yb3
  have ya0 : w3.cell? ⟨w.heap.size, 0, none⟩ = some (.int .i64 ca) := Ba3.out.cell 0
  have ya1 : w3.cell? ⟨w.heap.size, 1, none⟩ = some (.bool na) := Ba3.out.cell 1
  have ya2 : w3.cell? ⟨w.heap.size, 2, none⟩ = some (.string ta) := Ba3.out.cell 2
  have ya3 : w3.cell? ⟨w.heap.size, 3, none⟩ = some (.int .i64 ea) := Ba3.out.cell 3
  have yb0 : w3.cell? ⟨w.heap.size + 1, 0, none⟩ = some (.int .i64 cb) := Bb3.out.cell 0
  have yb1 : w3.cell? ⟨w.heap.size + 1, 1, none⟩ = some (.bool nb) := Bb3.out.cell 1
  have yb2 : w3.cell? ⟨w.heap.size + 1, 2, none⟩ = some (.string tb) := Bb3.out.cell 2
  have yb3 : w3.cell? ⟨w.heap.size + 1, 3, none⟩ = some (.int .i64 eb) := Bb3.out.cell 3
  go_wp2_with fail
  refine (Ma.out _).mono ?_
  rintro e w4 ⟨rfl, hb⟩
  have Ba4 := hide (Ba3.out.below hb Ba3.out.lt)
  have Bb4 := hide (Bb3.out.below hb Bb3.out.lt)
  have HB4 := hide (HB3.out.trans (hb.mono HB3.out.size))
  clear hb Ba3 Bb3 HB3 ya0 ya1 ya2 ya3 yb0 yb1 yb2 yb3
  have ya0 : w4.cell? ⟨w.heap.size, 0, none⟩ = some (.int .i64 ca) := Ba4.out.cell 0
  have ya1 : w4.cell? ⟨w.heap.size, 1, none⟩ = some (.bool na) := Ba4.out.cell 1
  have ya2 : w4.cell? ⟨w.heap.size, 2, none⟩ = some (.string ta) := Ba4.out.cell 2
  have ya3 : w4.cell? ⟨w.heap.size, 3, none⟩ = some (.int .i64 ea) := Ba4.out.cell 3
  have yb0 : w4.cell? ⟨w.heap.size + 1, 0, none⟩ = some (.int .i64 cb) := Bb4.out.cell 0
  have yb1 : w4.cell? ⟨w.heap.size + 1, 1, none⟩ = some (.bool nb) := Bb4.out.cell 1
  have yb2 : w4.cell? ⟨w.heap.size + 1, 2, none⟩ = some (.string tb) := Bb4.out.cell 2
  have yb3 : w4.cell? ⟨w.heap.size + 1, 3, none⟩ = some (.int .i64 eb) := Bb4.out.cell 3
  go_wp2_with fail
  refine (Mb.out _).mono ?_
  rintro e w5 ⟨rfl, hb⟩
  have Ba5 := hide (Ba4.out.below hb Ba4.out.lt)
  have Bb5 := hide (Bb4.out.below hb Bb4.out.lt)
  have HB5 := hide (HB4.out.trans (hb.mono HB4.out.size))
  clear hb Ba4 Bb4 HB4 ya0 ya1 ya2 ya3 yb0 yb1 yb2 yb3
  have ya0 : w5.cell? ⟨w.heap.size, 0, none⟩ = some (.int .i64 ca) := Ba5.out.cell 0
  have ya1 : w5.cell? ⟨w.heap.size, 1, none⟩ = some (.bool na) := Ba5.out.cell 1
  have ya2 : w5.cell? ⟨w.heap.size, 2, none⟩ = some (.string ta) := Ba5.out.cell 2
  have ya3 : w5.cell? ⟨w.heap.size, 3, none⟩ = some (.int .i64 ea) := Ba5.out.cell 3
  have yb0 : w5.cell? ⟨w.heap.size + 1, 0, none⟩ = some (.int .i64 cb) := Bb5.out.cell 0
  have yb1 : w5.cell? ⟨w.heap.size + 1, 1, none⟩ = some (.bool nb) := Bb5.out.cell 1
  have yb2 : w5.cell? ⟨w.heap.size + 1, 2, none⟩ = some (.string tb) := Bb5.out.cell 2
  have yb3 : w5.cell? ⟨w.heap.size + 1, 3, none⟩ = some (.int .i64 eb) := Bb5.out.cell 3
  go_wp2
  go_ret
  exact ⟨rfl, HB5.out⟩

set_option maxRecDepth 100000 in
set_option maxHeartbeats 2000000 in
theorem rises_cb (w : World) (htab : Tab w) (na : Bool) (ta : ByteArray) (ea : Int) (cb : Int) (nb : Bool) (tb : ByteArray) (eb : Int) (ha : MayD 0 na (bys ta) ea) (hb : MayD cb nb (bys tb) eb) (h : ¬ cb = 0) :
    Calls Tryz.prog 8 #[dcV 0 na ta ea, dcV cb nb tb eb] w fun e w' => e = .returned (.bool true) ∧ Below w.heap.size w w' := by
  have Ba0 := hide ((Blk.new w #[.int .i64 0, .bool na, .string ta, .int .i64 ea] 23).alloc (.cells #[.int .i64 cb, .bool nb, .string tb, .int .i64 eb] 23))
  have Bb0 := hide (Blk.newAt (w.alloc (.cells #[.int .i64 0, .bool na, .string ta, .int .i64 ea] 23)) (w.heap.size + 1) (by simp) #[.int .i64 cb, .bool nb, .string tb, .int .i64 eb] 23)
  have HB0 : Hid (Below w.heap.size w ((w.alloc (.cells #[.int .i64 0, .bool na, .string ta, .int .i64 ea] 23)).alloc (.cells #[.int .i64 cb, .bool nb, .string tb, .int .i64 eb] 23))) := ((Below.refl _ _).alloc (Nat.le_refl _) _).alloc (by simp) _
  have AW := hide (fun W => nawake_any W)
  have HT := hide htab
  have Ta := hide (fun W => to64_yes (0) na ta ea W ha)
  have Ma := hide (fun W => rmay_yes (0) na ta ea W ha)
  obtain ⟨ra, hra⟩ : ∃ r, r = toD 52 11 1074 ⟨(0 : Int).toNat, na, bys ta, ea⟩ := ⟨_, rfl⟩
  rw [← hra] at Ta
  clear hra
  have Tb := hide (fun W => to64_yes (cb) nb tb eb W hb)
  have Mb := hide (fun W => rmay_yes (cb) nb tb eb W hb)
  obtain ⟨rb, hrb⟩ : ∃ r, r = toD 52 11 1074 ⟨(cb : Int).toNat, nb, bys tb, eb⟩ := ⟨_, rfl⟩
  rw [← hrb] at Tb
  clear hrb
  clear ha hb htab
  have hc : (cb != 0) = true := by simpa using h
  go_enter Tryz.func8, Tryz.ntmps8
  go_wp2_with fail
  refine (Ta.out _).mono ?_
  rintro e w1 ⟨rfl, hb⟩
  have Ba1 := hide (Ba0.out.below hb Ba0.out.lt)
  have Bb1 := hide (Bb0.out.below hb Bb0.out.lt)
  have HB1 := hide (HB0.out.trans (hb.mono HB0.out.size))
  clear hb Ba0 Bb0 HB0
  have ya0 : w1.cell? ⟨w.heap.size, 0, none⟩ = some (.int .i64 0) := Ba1.out.cell 0
  have ya1 : w1.cell? ⟨w.heap.size, 1, none⟩ = some (.bool na) := Ba1.out.cell 1
  have ya2 : w1.cell? ⟨w.heap.size, 2, none⟩ = some (.string ta) := Ba1.out.cell 2
  have ya3 : w1.cell? ⟨w.heap.size, 3, none⟩ = some (.int .i64 ea) := Ba1.out.cell 3
  have yb0 : w1.cell? ⟨w.heap.size + 1, 0, none⟩ = some (.int .i64 cb) := Bb1.out.cell 0
  have yb1 : w1.cell? ⟨w.heap.size + 1, 1, none⟩ = some (.bool nb) := Bb1.out.cell 1
  have yb2 : w1.cell? ⟨w.heap.size + 1, 2, none⟩ = some (.string tb) := Bb1.out.cell 2
  have yb3 : w1.cell? ⟨w.heap.size + 1, 3, none⟩ = some (.int .i64 eb) := Bb1.out.cell 3
  go_wp2_with fail
  refine (Tb.out _).mono ?_
  rintro e w2 ⟨rfl, hb⟩
  have Ba2 := hide (Ba1.out.below hb Ba1.out.lt)
  have Bb2 := hide (Bb1.out.below hb Bb1.out.lt)
  have HB2 := hide (HB1.out.trans (hb.mono HB1.out.size))
  clear hb Ba1 Bb1 HB1 ya0 ya1 ya2 ya3 yb0 yb1 yb2 yb3
  have ya0 : w2.cell? ⟨w.heap.size, 0, none⟩ = some (.int .i64 0) := Ba2.out.cell 0
  have ya1 : w2.cell? ⟨w.heap.size, 1, none⟩ = some (.bool na) := Ba2.out.cell 1
  have ya2 : w2.cell? ⟨w.heap.size, 2, none⟩ = some (.string ta) := Ba2.out.cell 2
  have ya3 : w2.cell? ⟨w.heap.size, 3, none⟩ = some (.int .i64 ea) := Ba2.out.cell 3
  have yb0 : w2.cell? ⟨w.heap.size + 1, 0, none⟩ = some (.int .i64 cb) := Bb2.out.cell 0
  have yb1 : w2.cell? ⟨w.heap.size + 1, 1, none⟩ = some (.bool nb) := Bb2.out.cell 1
  have yb2 : w2.cell? ⟨w.heap.size + 1, 2, none⟩ = some (.string tb) := Bb2.out.cell 2
  have yb3 : w2.cell? ⟨w.heap.size + 1, 3, none⟩ = some (.int .i64 eb) := Bb2.out.cell 3
  go_wp2_with fail
  refine (AW.out _ (HT.out.below HB2.out)).mono ?_
  rintro e w3 ⟨rfl, hb⟩
  have Ba3 := hide (Ba2.out.below hb Ba2.out.lt)
  have Bb3 := hide (Bb2.out.below hb Bb2.out.lt)
  have HB3 := hide (HB2.out.trans (hb.mono HB2.out.size))
  clear hb Ba2 Bb2 HB2 ya0 ya1 ya2 ya3 yb0 yb1 yb2 yb3
  have ya0 : w3.cell? ⟨w.heap.size, 0, none⟩ = some (.int .i64 0) := Ba3.out.cell 0
  have ya1 : w3.cell? ⟨w.heap.size, 1, none⟩ = some (.bool na) := Ba3.out.cell 1
  have ya2 : w3.cell? ⟨w.heap.size, 2, none⟩ = some (.string ta) := Ba3.out.cell 2
  have ya3 : w3.cell? ⟨w.heap.size, 3, none⟩ = some (.int .i64 ea) := Ba3.out.cell 3
  have yb0 : w3.cell? ⟨w.heap.size + 1, 0, none⟩ = some (.int .i64 cb) := Bb3.out.cell 0
  have yb1 : w3.cell? ⟨w.heap.size + 1, 1, none⟩ = some (.bool nb) := Bb3.out.cell 1
  have yb2 : w3.cell? ⟨w.heap.size + 1, 2, none⟩ = some (.string tb) := Bb3.out.cell 2
  have yb3 : w3.cell? ⟨w.heap.size + 1, 3, none⟩ = some (.int .i64 eb) := Bb3.out.cell 3
  go_wp2_with fail
  refine (Ma.out _).mono ?_
  rintro e w4 ⟨rfl, hb⟩
  have Ba4 := hide (Ba3.out.below hb Ba3.out.lt)
  have Bb4 := hide (Bb3.out.below hb Bb3.out.lt)
  have HB4 := hide (HB3.out.trans (hb.mono HB3.out.size))
  clear hb Ba3 Bb3 HB3 ya0 ya1 ya2 ya3 yb0 yb1 yb2 yb3
  have ya0 : w4.cell? ⟨w.heap.size, 0, none⟩ = some (.int .i64 0) := Ba4.out.cell 0
  have ya1 : w4.cell? ⟨w.heap.size, 1, none⟩ = some (.bool na) := Ba4.out.cell 1
  have ya2 : w4.cell? ⟨w.heap.size, 2, none⟩ = some (.string ta) := Ba4.out.cell 2
  have ya3 : w4.cell? ⟨w.heap.size, 3, none⟩ = some (.int .i64 ea) := Ba4.out.cell 3
  have yb0 : w4.cell? ⟨w.heap.size + 1, 0, none⟩ = some (.int .i64 cb) := Bb4.out.cell 0
  have yb1 : w4.cell? ⟨w.heap.size + 1, 1, none⟩ = some (.bool nb) := Bb4.out.cell 1
  have yb2 : w4.cell? ⟨w.heap.size + 1, 2, none⟩ = some (.string tb) := Bb4.out.cell 2
  have yb3 : w4.cell? ⟨w.heap.size + 1, 3, none⟩ = some (.int .i64 eb) := Bb4.out.cell 3
  go_wp2_with fail
  refine (Mb.out _).mono ?_
  rintro e w5 ⟨rfl, hb⟩
  have Ba5 := hide (Ba4.out.below hb Ba4.out.lt)
  have Bb5 := hide (Bb4.out.below hb Bb4.out.lt)
  have HB5 := hide (HB4.out.trans (hb.mono HB4.out.size))
  clear hb Ba4 Bb4 HB4 ya0 ya1 ya2 ya3 yb0 yb1 yb2 yb3
  have ya0 : w5.cell? ⟨w.heap.size, 0, none⟩ = some (.int .i64 0) := Ba5.out.cell 0
  have ya1 : w5.cell? ⟨w.heap.size, 1, none⟩ = some (.bool na) := Ba5.out.cell 1
  have ya2 : w5.cell? ⟨w.heap.size, 2, none⟩ = some (.string ta) := Ba5.out.cell 2
  have ya3 : w5.cell? ⟨w.heap.size, 3, none⟩ = some (.int .i64 ea) := Ba5.out.cell 3
  have yb0 : w5.cell? ⟨w.heap.size + 1, 0, none⟩ = some (.int .i64 cb) := Bb5.out.cell 0
  have yb1 : w5.cell? ⟨w.heap.size + 1, 1, none⟩ = some (.bool nb) := Bb5.out.cell 1
  have yb2 : w5.cell? ⟨w.heap.size + 1, 2, none⟩ = some (.string tb) := Bb5.out.cell 2
  have yb3 : w5.cell? ⟨w.heap.size + 1, 3, none⟩ = some (.int .i64 eb) := Bb5.out.cell 3
  go_wp2
  go_ret
  exact ⟨rfl, HB5.out⟩

set_option maxRecDepth 100000 in
set_option maxHeartbeats 2000000 in
theorem rises_na (w : World) (htab : Tab w) (ta : ByteArray) (ea : Int) (nb : Bool) (tb : ByteArray) (eb : Int) (ha : MayD 0 true (bys ta) ea) (hb : MayD 0 nb (bys tb) eb) :
    Calls Tryz.prog 8 #[dcV 0 true ta ea, dcV 0 nb tb eb] w fun e w' => e = .returned (.bool true) ∧ Below w.heap.size w w' := by
  have Ba0 := hide ((Blk.new w #[.int .i64 0, .bool true, .string ta, .int .i64 ea] 23).alloc (.cells #[.int .i64 0, .bool nb, .string tb, .int .i64 eb] 23))
  have Bb0 := hide (Blk.newAt (w.alloc (.cells #[.int .i64 0, .bool true, .string ta, .int .i64 ea] 23)) (w.heap.size + 1) (by simp) #[.int .i64 0, .bool nb, .string tb, .int .i64 eb] 23)
  have HB0 : Hid (Below w.heap.size w ((w.alloc (.cells #[.int .i64 0, .bool true, .string ta, .int .i64 ea] 23)).alloc (.cells #[.int .i64 0, .bool nb, .string tb, .int .i64 eb] 23))) := ((Below.refl _ _).alloc (Nat.le_refl _) _).alloc (by simp) _
  have AW := hide (fun W => nawake_any W)
  have HT := hide htab
  have Ta := hide (fun W => to64_yes (0) true ta ea W ha)
  have Ma := hide (fun W => rmay_yes (0) true ta ea W ha)
  obtain ⟨ra, hra⟩ : ∃ r, r = toD 52 11 1074 ⟨(0 : Int).toNat, true, bys ta, ea⟩ := ⟨_, rfl⟩
  rw [← hra] at Ta
  clear hra
  have Tb := hide (fun W => to64_yes (0) nb tb eb W hb)
  have Mb := hide (fun W => rmay_yes (0) nb tb eb W hb)
  obtain ⟨rb, hrb⟩ : ∃ r, r = toD 52 11 1074 ⟨(0 : Int).toNat, nb, bys tb, eb⟩ := ⟨_, rfl⟩
  rw [← hrb] at Tb
  clear hrb
  clear ha hb htab
  go_enter Tryz.func8, Tryz.ntmps8
  go_wp2_with fail
  refine (Ta.out _).mono ?_
  rintro e w1 ⟨rfl, hb⟩
  have Ba1 := hide (Ba0.out.below hb Ba0.out.lt)
  have Bb1 := hide (Bb0.out.below hb Bb0.out.lt)
  have HB1 := hide (HB0.out.trans (hb.mono HB0.out.size))
  clear hb Ba0 Bb0 HB0
  have ya0 : w1.cell? ⟨w.heap.size, 0, none⟩ = some (.int .i64 0) := Ba1.out.cell 0
  have ya1 : w1.cell? ⟨w.heap.size, 1, none⟩ = some (.bool true) := Ba1.out.cell 1
  have ya2 : w1.cell? ⟨w.heap.size, 2, none⟩ = some (.string ta) := Ba1.out.cell 2
  have ya3 : w1.cell? ⟨w.heap.size, 3, none⟩ = some (.int .i64 ea) := Ba1.out.cell 3
  have yb0 : w1.cell? ⟨w.heap.size + 1, 0, none⟩ = some (.int .i64 0) := Bb1.out.cell 0
  have yb1 : w1.cell? ⟨w.heap.size + 1, 1, none⟩ = some (.bool nb) := Bb1.out.cell 1
  have yb2 : w1.cell? ⟨w.heap.size + 1, 2, none⟩ = some (.string tb) := Bb1.out.cell 2
  have yb3 : w1.cell? ⟨w.heap.size + 1, 3, none⟩ = some (.int .i64 eb) := Bb1.out.cell 3
  go_wp2_with fail
  refine (Tb.out _).mono ?_
  rintro e w2 ⟨rfl, hb⟩
  have Ba2 := hide (Ba1.out.below hb Ba1.out.lt)
  have Bb2 := hide (Bb1.out.below hb Bb1.out.lt)
  have HB2 := hide (HB1.out.trans (hb.mono HB1.out.size))
  clear hb Ba1 Bb1 HB1 ya0 ya1 ya2 ya3 yb0 yb1 yb2 yb3
  have ya0 : w2.cell? ⟨w.heap.size, 0, none⟩ = some (.int .i64 0) := Ba2.out.cell 0
  have ya1 : w2.cell? ⟨w.heap.size, 1, none⟩ = some (.bool true) := Ba2.out.cell 1
  have ya2 : w2.cell? ⟨w.heap.size, 2, none⟩ = some (.string ta) := Ba2.out.cell 2
  have ya3 : w2.cell? ⟨w.heap.size, 3, none⟩ = some (.int .i64 ea) := Ba2.out.cell 3
  have yb0 : w2.cell? ⟨w.heap.size + 1, 0, none⟩ = some (.int .i64 0) := Bb2.out.cell 0
  have yb1 : w2.cell? ⟨w.heap.size + 1, 1, none⟩ = some (.bool nb) := Bb2.out.cell 1
  have yb2 : w2.cell? ⟨w.heap.size + 1, 2, none⟩ = some (.string tb) := Bb2.out.cell 2
  have yb3 : w2.cell? ⟨w.heap.size + 1, 3, none⟩ = some (.int .i64 eb) := Bb2.out.cell 3
  go_wp2_with fail
  refine (AW.out _ (HT.out.below HB2.out)).mono ?_
  rintro e w3 ⟨rfl, hb⟩
  have Ba3 := hide (Ba2.out.below hb Ba2.out.lt)
  have Bb3 := hide (Bb2.out.below hb Bb2.out.lt)
  have HB3 := hide (HB2.out.trans (hb.mono HB2.out.size))
  clear hb Ba2 Bb2 HB2 ya0 ya1 ya2 ya3 yb0 yb1 yb2 yb3
  have ya0 : w3.cell? ⟨w.heap.size, 0, none⟩ = some (.int .i64 0) := Ba3.out.cell 0
  have ya1 : w3.cell? ⟨w.heap.size, 1, none⟩ = some (.bool true) := Ba3.out.cell 1
  have ya2 : w3.cell? ⟨w.heap.size, 2, none⟩ = some (.string ta) := Ba3.out.cell 2
  have ya3 : w3.cell? ⟨w.heap.size, 3, none⟩ = some (.int .i64 ea) := Ba3.out.cell 3
  have yb0 : w3.cell? ⟨w.heap.size + 1, 0, none⟩ = some (.int .i64 0) := Bb3.out.cell 0
  have yb1 : w3.cell? ⟨w.heap.size + 1, 1, none⟩ = some (.bool nb) := Bb3.out.cell 1
  have yb2 : w3.cell? ⟨w.heap.size + 1, 2, none⟩ = some (.string tb) := Bb3.out.cell 2
  have yb3 : w3.cell? ⟨w.heap.size + 1, 3, none⟩ = some (.int .i64 eb) := Bb3.out.cell 3
  go_wp2_with fail
  refine (Ma.out _).mono ?_
  rintro e w4 ⟨rfl, hb⟩
  have Ba4 := hide (Ba3.out.below hb Ba3.out.lt)
  have Bb4 := hide (Bb3.out.below hb Bb3.out.lt)
  have HB4 := hide (HB3.out.trans (hb.mono HB3.out.size))
  clear hb Ba3 Bb3 HB3 ya0 ya1 ya2 ya3 yb0 yb1 yb2 yb3
  have ya0 : w4.cell? ⟨w.heap.size, 0, none⟩ = some (.int .i64 0) := Ba4.out.cell 0
  have ya1 : w4.cell? ⟨w.heap.size, 1, none⟩ = some (.bool true) := Ba4.out.cell 1
  have ya2 : w4.cell? ⟨w.heap.size, 2, none⟩ = some (.string ta) := Ba4.out.cell 2
  have ya3 : w4.cell? ⟨w.heap.size, 3, none⟩ = some (.int .i64 ea) := Ba4.out.cell 3
  have yb0 : w4.cell? ⟨w.heap.size + 1, 0, none⟩ = some (.int .i64 0) := Bb4.out.cell 0
  have yb1 : w4.cell? ⟨w.heap.size + 1, 1, none⟩ = some (.bool nb) := Bb4.out.cell 1
  have yb2 : w4.cell? ⟨w.heap.size + 1, 2, none⟩ = some (.string tb) := Bb4.out.cell 2
  have yb3 : w4.cell? ⟨w.heap.size + 1, 3, none⟩ = some (.int .i64 eb) := Bb4.out.cell 3
  go_wp2_with fail
  refine (Mb.out _).mono ?_
  rintro e w5 ⟨rfl, hb⟩
  have Ba5 := hide (Ba4.out.below hb Ba4.out.lt)
  have Bb5 := hide (Bb4.out.below hb Bb4.out.lt)
  have HB5 := hide (HB4.out.trans (hb.mono HB4.out.size))
  clear hb Ba4 Bb4 HB4 ya0 ya1 ya2 ya3 yb0 yb1 yb2 yb3
  have ya0 : w5.cell? ⟨w.heap.size, 0, none⟩ = some (.int .i64 0) := Ba5.out.cell 0
  have ya1 : w5.cell? ⟨w.heap.size, 1, none⟩ = some (.bool true) := Ba5.out.cell 1
  have ya2 : w5.cell? ⟨w.heap.size, 2, none⟩ = some (.string ta) := Ba5.out.cell 2
  have ya3 : w5.cell? ⟨w.heap.size, 3, none⟩ = some (.int .i64 ea) := Ba5.out.cell 3
  have yb0 : w5.cell? ⟨w.heap.size + 1, 0, none⟩ = some (.int .i64 0) := Bb5.out.cell 0
  have yb1 : w5.cell? ⟨w.heap.size + 1, 1, none⟩ = some (.bool nb) := Bb5.out.cell 1
  have yb2 : w5.cell? ⟨w.heap.size + 1, 2, none⟩ = some (.string tb) := Bb5.out.cell 2
  have yb3 : w5.cell? ⟨w.heap.size + 1, 3, none⟩ = some (.int .i64 eb) := Bb5.out.cell 3
  go_wp2
  go_ret
  exact ⟨rfl, HB5.out⟩

set_option maxRecDepth 100000 in
set_option maxHeartbeats 2000000 in
theorem rises_nb (w : World) (htab : Tab w) (ta : ByteArray) (ea : Int) (tb : ByteArray) (eb : Int) (ha : MayD 0 false (bys ta) ea) (hb : MayD 0 true (bys tb) eb) :
    Calls Tryz.prog 8 #[dcV 0 false ta ea, dcV 0 true tb eb] w fun e w' => e = .returned (.bool true) ∧ Below w.heap.size w w' := by
  have Ba0 := hide ((Blk.new w #[.int .i64 0, .bool false, .string ta, .int .i64 ea] 23).alloc (.cells #[.int .i64 0, .bool true, .string tb, .int .i64 eb] 23))
  have Bb0 := hide (Blk.newAt (w.alloc (.cells #[.int .i64 0, .bool false, .string ta, .int .i64 ea] 23)) (w.heap.size + 1) (by simp) #[.int .i64 0, .bool true, .string tb, .int .i64 eb] 23)
  have HB0 : Hid (Below w.heap.size w ((w.alloc (.cells #[.int .i64 0, .bool false, .string ta, .int .i64 ea] 23)).alloc (.cells #[.int .i64 0, .bool true, .string tb, .int .i64 eb] 23))) := ((Below.refl _ _).alloc (Nat.le_refl _) _).alloc (by simp) _
  have AW := hide (fun W => nawake_any W)
  have HT := hide htab
  have Ta := hide (fun W => to64_yes (0) false ta ea W ha)
  have Ma := hide (fun W => rmay_yes (0) false ta ea W ha)
  obtain ⟨ra, hra⟩ : ∃ r, r = toD 52 11 1074 ⟨(0 : Int).toNat, false, bys ta, ea⟩ := ⟨_, rfl⟩
  rw [← hra] at Ta
  clear hra
  have Tb := hide (fun W => to64_yes (0) true tb eb W hb)
  have Mb := hide (fun W => rmay_yes (0) true tb eb W hb)
  obtain ⟨rb, hrb⟩ : ∃ r, r = toD 52 11 1074 ⟨(0 : Int).toNat, true, bys tb, eb⟩ := ⟨_, rfl⟩
  rw [← hrb] at Tb
  clear hrb
  clear ha hb htab
  go_enter Tryz.func8, Tryz.ntmps8
  go_wp2_with fail
  refine (Ta.out _).mono ?_
  rintro e w1 ⟨rfl, hb⟩
  have Ba1 := hide (Ba0.out.below hb Ba0.out.lt)
  have Bb1 := hide (Bb0.out.below hb Bb0.out.lt)
  have HB1 := hide (HB0.out.trans (hb.mono HB0.out.size))
  clear hb Ba0 Bb0 HB0
  have ya0 : w1.cell? ⟨w.heap.size, 0, none⟩ = some (.int .i64 0) := Ba1.out.cell 0
  have ya1 : w1.cell? ⟨w.heap.size, 1, none⟩ = some (.bool false) := Ba1.out.cell 1
  have ya2 : w1.cell? ⟨w.heap.size, 2, none⟩ = some (.string ta) := Ba1.out.cell 2
  have ya3 : w1.cell? ⟨w.heap.size, 3, none⟩ = some (.int .i64 ea) := Ba1.out.cell 3
  have yb0 : w1.cell? ⟨w.heap.size + 1, 0, none⟩ = some (.int .i64 0) := Bb1.out.cell 0
  have yb1 : w1.cell? ⟨w.heap.size + 1, 1, none⟩ = some (.bool true) := Bb1.out.cell 1
  have yb2 : w1.cell? ⟨w.heap.size + 1, 2, none⟩ = some (.string tb) := Bb1.out.cell 2
  have yb3 : w1.cell? ⟨w.heap.size + 1, 3, none⟩ = some (.int .i64 eb) := Bb1.out.cell 3
  go_wp2_with fail
  refine (Tb.out _).mono ?_
  rintro e w2 ⟨rfl, hb⟩
  have Ba2 := hide (Ba1.out.below hb Ba1.out.lt)
  have Bb2 := hide (Bb1.out.below hb Bb1.out.lt)
  have HB2 := hide (HB1.out.trans (hb.mono HB1.out.size))
  clear hb Ba1 Bb1 HB1 ya0 ya1 ya2 ya3 yb0 yb1 yb2 yb3
  have ya0 : w2.cell? ⟨w.heap.size, 0, none⟩ = some (.int .i64 0) := Ba2.out.cell 0
  have ya1 : w2.cell? ⟨w.heap.size, 1, none⟩ = some (.bool false) := Ba2.out.cell 1
  have ya2 : w2.cell? ⟨w.heap.size, 2, none⟩ = some (.string ta) := Ba2.out.cell 2
  have ya3 : w2.cell? ⟨w.heap.size, 3, none⟩ = some (.int .i64 ea) := Ba2.out.cell 3
  have yb0 : w2.cell? ⟨w.heap.size + 1, 0, none⟩ = some (.int .i64 0) := Bb2.out.cell 0
  have yb1 : w2.cell? ⟨w.heap.size + 1, 1, none⟩ = some (.bool true) := Bb2.out.cell 1
  have yb2 : w2.cell? ⟨w.heap.size + 1, 2, none⟩ = some (.string tb) := Bb2.out.cell 2
  have yb3 : w2.cell? ⟨w.heap.size + 1, 3, none⟩ = some (.int .i64 eb) := Bb2.out.cell 3
  go_wp2_with fail
  refine (AW.out _ (HT.out.below HB2.out)).mono ?_
  rintro e w3 ⟨rfl, hb⟩
  have Ba3 := hide (Ba2.out.below hb Ba2.out.lt)
  have Bb3 := hide (Bb2.out.below hb Bb2.out.lt)
  have HB3 := hide (HB2.out.trans (hb.mono HB2.out.size))
  clear hb Ba2 Bb2 HB2 ya0 ya1 ya2 ya3 yb0 yb1 yb2 yb3
  have ya0 : w3.cell? ⟨w.heap.size, 0, none⟩ = some (.int .i64 0) := Ba3.out.cell 0
  have ya1 : w3.cell? ⟨w.heap.size, 1, none⟩ = some (.bool false) := Ba3.out.cell 1
  have ya2 : w3.cell? ⟨w.heap.size, 2, none⟩ = some (.string ta) := Ba3.out.cell 2
  have ya3 : w3.cell? ⟨w.heap.size, 3, none⟩ = some (.int .i64 ea) := Ba3.out.cell 3
  have yb0 : w3.cell? ⟨w.heap.size + 1, 0, none⟩ = some (.int .i64 0) := Bb3.out.cell 0
  have yb1 : w3.cell? ⟨w.heap.size + 1, 1, none⟩ = some (.bool true) := Bb3.out.cell 1
  have yb2 : w3.cell? ⟨w.heap.size + 1, 2, none⟩ = some (.string tb) := Bb3.out.cell 2
  have yb3 : w3.cell? ⟨w.heap.size + 1, 3, none⟩ = some (.int .i64 eb) := Bb3.out.cell 3
  go_wp2_with fail
  refine (Ma.out _).mono ?_
  rintro e w4 ⟨rfl, hb⟩
  have Ba4 := hide (Ba3.out.below hb Ba3.out.lt)
  have Bb4 := hide (Bb3.out.below hb Bb3.out.lt)
  have HB4 := hide (HB3.out.trans (hb.mono HB3.out.size))
  clear hb Ba3 Bb3 HB3 ya0 ya1 ya2 ya3 yb0 yb1 yb2 yb3
  have ya0 : w4.cell? ⟨w.heap.size, 0, none⟩ = some (.int .i64 0) := Ba4.out.cell 0
  have ya1 : w4.cell? ⟨w.heap.size, 1, none⟩ = some (.bool false) := Ba4.out.cell 1
  have ya2 : w4.cell? ⟨w.heap.size, 2, none⟩ = some (.string ta) := Ba4.out.cell 2
  have ya3 : w4.cell? ⟨w.heap.size, 3, none⟩ = some (.int .i64 ea) := Ba4.out.cell 3
  have yb0 : w4.cell? ⟨w.heap.size + 1, 0, none⟩ = some (.int .i64 0) := Bb4.out.cell 0
  have yb1 : w4.cell? ⟨w.heap.size + 1, 1, none⟩ = some (.bool true) := Bb4.out.cell 1
  have yb2 : w4.cell? ⟨w.heap.size + 1, 2, none⟩ = some (.string tb) := Bb4.out.cell 2
  have yb3 : w4.cell? ⟨w.heap.size + 1, 3, none⟩ = some (.int .i64 eb) := Bb4.out.cell 3
  go_wp2_with fail
  refine (Mb.out _).mono ?_
  rintro e w5 ⟨rfl, hb⟩
  have Ba5 := hide (Ba4.out.below hb Ba4.out.lt)
  have Bb5 := hide (Bb4.out.below hb Bb4.out.lt)
  have HB5 := hide (HB4.out.trans (hb.mono HB4.out.size))
  clear hb Ba4 Bb4 HB4 ya0 ya1 ya2 ya3 yb0 yb1 yb2 yb3
  have ya0 : w5.cell? ⟨w.heap.size, 0, none⟩ = some (.int .i64 0) := Ba5.out.cell 0
  have ya1 : w5.cell? ⟨w.heap.size, 1, none⟩ = some (.bool false) := Ba5.out.cell 1
  have ya2 : w5.cell? ⟨w.heap.size, 2, none⟩ = some (.string ta) := Ba5.out.cell 2
  have ya3 : w5.cell? ⟨w.heap.size, 3, none⟩ = some (.int .i64 ea) := Ba5.out.cell 3
  have yb0 : w5.cell? ⟨w.heap.size + 1, 0, none⟩ = some (.int .i64 0) := Bb5.out.cell 0
  have yb1 : w5.cell? ⟨w.heap.size + 1, 1, none⟩ = some (.bool true) := Bb5.out.cell 1
  have yb2 : w5.cell? ⟨w.heap.size + 1, 2, none⟩ = some (.string tb) := Bb5.out.cell 2
  have yb3 : w5.cell? ⟨w.heap.size + 1, 3, none⟩ = some (.int .i64 eb) := Bb5.out.cell 3
  go_wp2
  go_ret
  exact ⟨rfl, HB5.out⟩

theorem sm_pow (k : Nat) (hk : k ≤ 7900) : Sm (10 ^ k) :=
  Sm.of (k := k + 1) (by rw [Nat.pow_succ]; have : 0 < 10 ^ k := Nat.pow_pos (by omega); omega) (by omega)

theorem sm_mul {V n k : Nat} (h : V < 10 ^ n) (hn : n + k ≤ 8000) : Sm (V * 10 ^ k) := by
  refine Sm.of (k := n + k) ?_ hn
  rw [Nat.pow_add]
  exact Nat.mul_lt_mul_of_pos_right h (Nat.pow_pos (by omega))

set_option maxRecDepth 100000 in
set_option maxHeartbeats 4000000 in
theorem rises_fin (w : World) (htab : Tab w) (ta : ByteArray) (ea : Int) (tb : ByteArray) (eb : Int) (ha : MayD 0 false (bys ta) ea) (hb : MayD 0 false (bys tb) eb) (da : DigB (bys ta)) (db : DigB (bys tb)) (la : ta.size ≤ 1000 ∧ -3500 ≤ ea ∧ ea ≤ 2000) (lb : tb.size ≤ 1000 ∧ -3500 ≤ eb ∧ eb ≤ 2000) (u : Int) (hu : u = min ea eb) (z : Int) (hz : cmpN (decV (bys ta) * 10 ^ (ea - u).toNat) (decV (bys tb) * 10 ^ (eb - u).toNat) = z)
    (hx : (z = -1 ∧ toD 52 11 1074 ⟨0, false, bys ta, ea⟩ ≤ toD 52 11 1074 ⟨0, false, bys tb, eb⟩) ∨ (z = 0 ∧ toD 52 11 1074 ⟨0, false, bys ta, ea⟩ = toD 52 11 1074 ⟨0, false, bys tb, eb⟩) ∨ (z = 1 ∧ toD 52 11 1074 ⟨0, false, bys tb, eb⟩ ≤ toD 52 11 1074 ⟨0, false, bys ta, ea⟩)) :
    Calls Tryz.prog 8 #[dcV 0 false ta ea, dcV 0 false tb eb] w fun e w' => e = .returned (.bool true) ∧ Below w.heap.size w w' := by
  have Ba0 := hide ((Blk.new w #[.int .i64 0, .bool false, .string ta, .int .i64 ea] 23).alloc (.cells #[.int .i64 0, .bool false, .string tb, .int .i64 eb] 23))
  have Bb0 := hide (Blk.newAt (w.alloc (.cells #[.int .i64 0, .bool false, .string ta, .int .i64 ea] 23)) (w.heap.size + 1) (by simp) #[.int .i64 0, .bool false, .string tb, .int .i64 eb] 23)
  have HB0 : Hid (Below w.heap.size w ((w.alloc (.cells #[.int .i64 0, .bool false, .string ta, .int .i64 ea] 23)).alloc (.cells #[.int .i64 0, .bool false, .string tb, .int .i64 eb] 23))) := ((Below.refl _ _).alloc (Nat.le_refl _) _).alloc (by simp) _
  have AW := hide (fun W => nawake_any W)
  have HT := hide htab
  have Ta := hide (fun W => to64_yes 0 false ta ea W ha)
  have Ma := hide (fun W => rmay_yes 0 false ta ea W ha)
  have Tb := hide (fun W => to64_yes 0 false tb eb W hb)
  have Mb := hide (fun W => rmay_yes 0 false tb eb W hb)
  have ez : (0 : Int).toNat = 0 := rfl
  rw [ez] at Ta Tb
  obtain ⟨ra, hra⟩ : ∃ r, r = toD 52 11 1074 ⟨0, false, bys ta, ea⟩ := ⟨_, rfl⟩
  obtain ⟨rb, hrb⟩ : ∃ r, r = toD 52 11 1074 ⟨0, false, bys tb, eb⟩ := ⟨_, rfl⟩
  rw [← hra] at Ta
  rw [← hrb] at Tb
  rw [← hra, ← hrb] at hx
  have HX := hide hx
  obtain ⟨ka, hka⟩ : ∃ k : Nat, ea - u = (k : Int) := ⟨(ea - u).toNat, by omega⟩
  obtain ⟨kb, hkb⟩ : ∃ k : Nat, eb - u = (k : Int) := ⟨(eb - u).toNat, by omega⟩
  rw [show (ea - u).toNat = ka by omega, show (eb - u).toNat = kb by omega] at hz
  have hka2 : ka ≤ 6000 := by omega
  have hkb2 : kb ≤ 6000 := by omega
  obtain ⟨Va, hVa⟩ : ∃ V, V = decV (bys ta) := ⟨_, rfl⟩
  obtain ⟨Vb, hVb⟩ : ∃ V, V = decV (bys tb) := ⟨_, rfl⟩
  have sa : Va < 10 ^ ta.size := by rw [hVa]; exact decV_lt _ _ (bys_len ta) da
  have sb : Vb < 10 ^ tb.size := by rw [hVb]; exact decV_lt _ _ (bys_len tb) db
  rw [← hVa, ← hVb] at hz
  have SS : Hid ((Sm Va ∧ Sm (10 ^ ka) ∧ Sm (Va * 10 ^ ka)) ∧ (Sm Vb ∧ Sm (10 ^ kb) ∧ Sm (Vb * 10 ^ kb))) :=
    ⟨⟨Sm.of sa (by omega), sm_pow ka (by omega), sm_mul sa (by omega)⟩, ⟨Sm.of sb (by omega), sm_pow kb (by omega), sm_mul sb (by omega)⟩⟩
  have OFa : Hid (∀ W', Calls Tryz.prog 28 #[.string ta] W' (NrPost W' Va)) := fun W' => by
    rw [hVa]; exact (rof_any ta W' (by omega) da).mono fun e w' hh => NrPost.of hh
  have OFb : Hid (∀ W', Calls Tryz.prog 28 #[.string tb] W' (NrPost W' Vb)) := fun W' => by
    rw [hVb]; exact (rof_any tb W' (by omega) db).mono fun e w' hh => NrPost.of hh
  have HZ := hide hz
  have HKA := hide hka
  have HKB := hide hkb
  have hl1 := la.2.1
  have hl2 := la.2.2
  have hl3 := lb.2.1
  have hl4 := lb.2.2
  have HU := hide hu
  clear ha hb htab hra hrb hx hVa hVb sa sb da db hz hka hkb hu la lb ez
  go_enter Tryz.func8, Tryz.ntmps8
  go_wp2_with fail
  refine (Ta.out _).mono ?_
  rintro e w1 ⟨rfl, hb⟩
  have Ba1 := hide (Ba0.out.below hb Ba0.out.lt)
  have Bb1 := hide (Bb0.out.below hb Bb0.out.lt)
  have HB1 := hide (HB0.out.trans (hb.mono HB0.out.size))
  clear hb Ba0 Bb0 HB0
  have ya0 : w1.cell? ⟨w.heap.size, 0, none⟩ = some (.int .i64 0) := Ba1.out.cell 0
  have ya1 : w1.cell? ⟨w.heap.size, 1, none⟩ = some (.bool false) := Ba1.out.cell 1
  have ya2 : w1.cell? ⟨w.heap.size, 2, none⟩ = some (.string ta) := Ba1.out.cell 2
  have ya3 : w1.cell? ⟨w.heap.size, 3, none⟩ = some (.int .i64 ea) := Ba1.out.cell 3
  have yb0 : w1.cell? ⟨w.heap.size + 1, 0, none⟩ = some (.int .i64 0) := Bb1.out.cell 0
  have yb1 : w1.cell? ⟨w.heap.size + 1, 1, none⟩ = some (.bool false) := Bb1.out.cell 1
  have yb2 : w1.cell? ⟨w.heap.size + 1, 2, none⟩ = some (.string tb) := Bb1.out.cell 2
  have yb3 : w1.cell? ⟨w.heap.size + 1, 3, none⟩ = some (.int .i64 eb) := Bb1.out.cell 3
  go_wp2_with fail
  refine (Tb.out _).mono ?_
  rintro e w2 ⟨rfl, hb⟩
  have Ba2 := hide (Ba1.out.below hb Ba1.out.lt)
  have Bb2 := hide (Bb1.out.below hb Bb1.out.lt)
  have HB2 := hide (HB1.out.trans (hb.mono HB1.out.size))
  clear hb Ba1 Bb1 HB1 ya0 ya1 ya2 ya3 yb0 yb1 yb2 yb3
  have ya0 : w2.cell? ⟨w.heap.size, 0, none⟩ = some (.int .i64 0) := Ba2.out.cell 0
  have ya1 : w2.cell? ⟨w.heap.size, 1, none⟩ = some (.bool false) := Ba2.out.cell 1
  have ya2 : w2.cell? ⟨w.heap.size, 2, none⟩ = some (.string ta) := Ba2.out.cell 2
  have ya3 : w2.cell? ⟨w.heap.size, 3, none⟩ = some (.int .i64 ea) := Ba2.out.cell 3
  have yb0 : w2.cell? ⟨w.heap.size + 1, 0, none⟩ = some (.int .i64 0) := Bb2.out.cell 0
  have yb1 : w2.cell? ⟨w.heap.size + 1, 1, none⟩ = some (.bool false) := Bb2.out.cell 1
  have yb2 : w2.cell? ⟨w.heap.size + 1, 2, none⟩ = some (.string tb) := Bb2.out.cell 2
  have yb3 : w2.cell? ⟨w.heap.size + 1, 3, none⟩ = some (.int .i64 eb) := Bb2.out.cell 3
  go_wp2_with fail
  refine (AW.out _ (HT.out.below HB2.out)).mono ?_
  rintro e w3 ⟨rfl, hb⟩
  have Ba3 := hide (Ba2.out.below hb Ba2.out.lt)
  have Bb3 := hide (Bb2.out.below hb Bb2.out.lt)
  have HB3 := hide (HB2.out.trans (hb.mono HB2.out.size))
  clear hb Ba2 Bb2 HB2 ya0 ya1 ya2 ya3 yb0 yb1 yb2 yb3
  have ya0 : w3.cell? ⟨w.heap.size, 0, none⟩ = some (.int .i64 0) := Ba3.out.cell 0
  have ya1 : w3.cell? ⟨w.heap.size, 1, none⟩ = some (.bool false) := Ba3.out.cell 1
  have ya2 : w3.cell? ⟨w.heap.size, 2, none⟩ = some (.string ta) := Ba3.out.cell 2
  have ya3 : w3.cell? ⟨w.heap.size, 3, none⟩ = some (.int .i64 ea) := Ba3.out.cell 3
  have yb0 : w3.cell? ⟨w.heap.size + 1, 0, none⟩ = some (.int .i64 0) := Bb3.out.cell 0
  have yb1 : w3.cell? ⟨w.heap.size + 1, 1, none⟩ = some (.bool false) := Bb3.out.cell 1
  have yb2 : w3.cell? ⟨w.heap.size + 1, 2, none⟩ = some (.string tb) := Bb3.out.cell 2
  have yb3 : w3.cell? ⟨w.heap.size + 1, 3, none⟩ = some (.int .i64 eb) := Bb3.out.cell 3
  go_wp2_with fail
  refine (Ma.out _).mono ?_
  rintro e w4 ⟨rfl, hb⟩
  have Ba4 := hide (Ba3.out.below hb Ba3.out.lt)
  have Bb4 := hide (Bb3.out.below hb Bb3.out.lt)
  have HB4 := hide (HB3.out.trans (hb.mono HB3.out.size))
  clear hb Ba3 Bb3 HB3 ya0 ya1 ya2 ya3 yb0 yb1 yb2 yb3
  have ya0 : w4.cell? ⟨w.heap.size, 0, none⟩ = some (.int .i64 0) := Ba4.out.cell 0
  have ya1 : w4.cell? ⟨w.heap.size, 1, none⟩ = some (.bool false) := Ba4.out.cell 1
  have ya2 : w4.cell? ⟨w.heap.size, 2, none⟩ = some (.string ta) := Ba4.out.cell 2
  have ya3 : w4.cell? ⟨w.heap.size, 3, none⟩ = some (.int .i64 ea) := Ba4.out.cell 3
  have yb0 : w4.cell? ⟨w.heap.size + 1, 0, none⟩ = some (.int .i64 0) := Bb4.out.cell 0
  have yb1 : w4.cell? ⟨w.heap.size + 1, 1, none⟩ = some (.bool false) := Bb4.out.cell 1
  have yb2 : w4.cell? ⟨w.heap.size + 1, 2, none⟩ = some (.string tb) := Bb4.out.cell 2
  have yb3 : w4.cell? ⟨w.heap.size + 1, 3, none⟩ = some (.int .i64 eb) := Bb4.out.cell 3
  go_wp2_with fail
  refine (Mb.out _).mono ?_
  rintro e w5 ⟨rfl, hb⟩
  have Ba5 := hide (Ba4.out.below hb Ba4.out.lt)
  have Bb5 := hide (Bb4.out.below hb Bb4.out.lt)
  have HB5 := hide (HB4.out.trans (hb.mono HB4.out.size))
  clear hb Ba4 Bb4 HB4 ya0 ya1 ya2 ya3 yb0 yb1 yb2 yb3
  have ya0 : w5.cell? ⟨w.heap.size, 0, none⟩ = some (.int .i64 0) := Ba5.out.cell 0
  have ya1 : w5.cell? ⟨w.heap.size, 1, none⟩ = some (.bool false) := Ba5.out.cell 1
  have ya2 : w5.cell? ⟨w.heap.size, 2, none⟩ = some (.string ta) := Ba5.out.cell 2
  have ya3 : w5.cell? ⟨w.heap.size, 3, none⟩ = some (.int .i64 ea) := Ba5.out.cell 3
  have yb0 : w5.cell? ⟨w.heap.size + 1, 0, none⟩ = some (.int .i64 0) := Bb5.out.cell 0
  have yb1 : w5.cell? ⟨w.heap.size + 1, 1, none⟩ = some (.bool false) := Bb5.out.cell 1
  have yb2 : w5.cell? ⟨w.heap.size + 1, 2, none⟩ = some (.string tb) := Bb5.out.cell 2
  have yb3 : w5.cell? ⟨w.heap.size + 1, 3, none⟩ = some (.int .i64 eb) := Bb5.out.cell 3
  have HC : Hid (∀ w', Below w5.heap.size w5 w' → w'.cell? ⟨w.heap.size, 2, none⟩ = some (.string ta) ∧ w'.cell? ⟨w.heap.size, 3, none⟩ = some (.int .i64 ea) ∧ w'.cell? ⟨w.heap.size + 1, 2, none⟩ = some (.string tb) ∧ w'.cell? ⟨w.heap.size + 1, 3, none⟩ = some (.int .i64 eb)) := fun w' h => by
    have q := Ba5.out.below h Ba5.out.lt
    have q2 := Bb5.out.below h Bb5.out.lt
    exact ⟨q.cell 2, q.cell 3, q2.cell 2, q2.cell 3⟩
  have OA : Hid (∀ w', Hid (Below w5.heap.size w5 w') → Calls Tryz.prog 28 #[.string ta] w' fun e w'' => ∃ o c l, e = .returned (.slice o l c) ∧ Hid (Nr w'' (.slice o l c) (Va) ∧ Below w'.heap.size w' w'') ∧ Hid (Below w5.heap.size w5 w'') ∧ w''.cell? ⟨w.heap.size, 2, none⟩ = some (.string ta) ∧ w''.cell? ⟨w.heap.size, 3, none⟩ = some (.int .i64 ea) ∧ w''.cell? ⟨w.heap.size + 1, 2, none⟩ = some (.string tb) ∧ w''.cell? ⟨w.heap.size + 1, 3, none⟩ = some (.int .i64 eb)) := by
    intro w' hw'
    refine (OFa.out w').mono ?_
    rintro e w'' ⟨o, c, l, rfl, n1, hb⟩
    have hbb := hw'.out.trans (hb.mono hw'.out.size)
    exact ⟨o, c, l, rfl, ⟨n1, hb⟩, hbb, HC.out _ hbb⟩
  have PA : Hid (∀ w', Hid (Below w5.heap.size w5 w') → ∀ zz : Int, zz = (ka : Int) → Calls Tryz.prog 29 #[.int .i64 10, .int .i64 zz] w' fun e w'' => ∃ o c l, e = .returned (.slice o l c) ∧ Hid (Nr w'' (.slice o l c) (10 ^ ka) ∧ Below w'.heap.size w' w'') ∧ Hid (Below w5.heap.size w5 w'') ∧ w''.cell? ⟨w.heap.size, 2, none⟩ = some (.string ta) ∧ w''.cell? ⟨w.heap.size, 3, none⟩ = some (.int .i64 ea) ∧ w''.cell? ⟨w.heap.size + 1, 2, none⟩ = some (.string tb) ∧ w''.cell? ⟨w.heap.size + 1, 3, none⟩ = some (.int .i64 eb)) := by
    intro w' hw' zz hzz
    refine (nr_pow10 zz ka w' hzz (by omega)).mono ?_
    rintro e w'' ⟨o, c, l, rfl, n1, hb⟩
    have hbb := hw'.out.trans (hb.mono hw'.out.size)
    exact ⟨o, c, l, rfl, ⟨n1, hb⟩, hbb, HC.out _ hbb⟩
  have XA : Hid (∀ w', Hid (Below w5.heap.size w5 w') → ∀ o1 l1 q1 o2 l2 q2, Nr w' (.slice o1 l1 q1) Va → Nr w' (.slice o2 l2 q2) (10 ^ ka) → Calls Tryz.prog 27 #[.slice o1 l1 q1, .slice o2 l2 q2] w' fun e w'' => ∃ o c l, e = .returned (.slice o l c) ∧ Hid (Nr w'' (.slice o l c) (Va * 10 ^ ka) ∧ Below w'.heap.size w' w'') ∧ Hid (Below w5.heap.size w5 w'') ∧ w''.cell? ⟨w.heap.size, 2, none⟩ = some (.string ta) ∧ w''.cell? ⟨w.heap.size, 3, none⟩ = some (.int .i64 ea) ∧ w''.cell? ⟨w.heap.size + 1, 2, none⟩ = some (.string tb) ∧ w''.cell? ⟨w.heap.size + 1, 3, none⟩ = some (.int .i64 eb)) := by
    intro w' hw' o1 l1 q1 o2 l2 q2 g1 g2
    refine (nr_mul _ _ Va (10 ^ ka) w' g1 g2 SS.out.1.1 SS.out.1.2.1).mono ?_
    rintro e w'' ⟨o, c, l, rfl, n1, hb⟩
    have hbb := hw'.out.trans (hb.mono hw'.out.size)
    exact ⟨o, c, l, rfl, ⟨n1, hb⟩, hbb, HC.out _ hbb⟩
  have OB : Hid (∀ w', Hid (Below w5.heap.size w5 w') → Calls Tryz.prog 28 #[.string tb] w' fun e w'' => ∃ o c l, e = .returned (.slice o l c) ∧ Hid (Nr w'' (.slice o l c) (Vb) ∧ Below w'.heap.size w' w'') ∧ Hid (Below w5.heap.size w5 w'') ∧ w''.cell? ⟨w.heap.size, 2, none⟩ = some (.string ta) ∧ w''.cell? ⟨w.heap.size, 3, none⟩ = some (.int .i64 ea) ∧ w''.cell? ⟨w.heap.size + 1, 2, none⟩ = some (.string tb) ∧ w''.cell? ⟨w.heap.size + 1, 3, none⟩ = some (.int .i64 eb)) := by
    intro w' hw'
    refine (OFb.out w').mono ?_
    rintro e w'' ⟨o, c, l, rfl, n1, hb⟩
    have hbb := hw'.out.trans (hb.mono hw'.out.size)
    exact ⟨o, c, l, rfl, ⟨n1, hb⟩, hbb, HC.out _ hbb⟩
  have PB : Hid (∀ w', Hid (Below w5.heap.size w5 w') → ∀ zz : Int, zz = (kb : Int) → Calls Tryz.prog 29 #[.int .i64 10, .int .i64 zz] w' fun e w'' => ∃ o c l, e = .returned (.slice o l c) ∧ Hid (Nr w'' (.slice o l c) (10 ^ kb) ∧ Below w'.heap.size w' w'') ∧ Hid (Below w5.heap.size w5 w'') ∧ w''.cell? ⟨w.heap.size, 2, none⟩ = some (.string ta) ∧ w''.cell? ⟨w.heap.size, 3, none⟩ = some (.int .i64 ea) ∧ w''.cell? ⟨w.heap.size + 1, 2, none⟩ = some (.string tb) ∧ w''.cell? ⟨w.heap.size + 1, 3, none⟩ = some (.int .i64 eb)) := by
    intro w' hw' zz hzz
    refine (nr_pow10 zz kb w' hzz (by omega)).mono ?_
    rintro e w'' ⟨o, c, l, rfl, n1, hb⟩
    have hbb := hw'.out.trans (hb.mono hw'.out.size)
    exact ⟨o, c, l, rfl, ⟨n1, hb⟩, hbb, HC.out _ hbb⟩
  have XB : Hid (∀ w', Hid (Below w5.heap.size w5 w') → ∀ o1 l1 q1 o2 l2 q2, Nr w' (.slice o1 l1 q1) Vb → Nr w' (.slice o2 l2 q2) (10 ^ kb) → Calls Tryz.prog 27 #[.slice o1 l1 q1, .slice o2 l2 q2] w' fun e w'' => ∃ o c l, e = .returned (.slice o l c) ∧ Hid (Nr w'' (.slice o l c) (Vb * 10 ^ kb) ∧ Below w'.heap.size w' w'') ∧ Hid (Below w5.heap.size w5 w'') ∧ w''.cell? ⟨w.heap.size, 2, none⟩ = some (.string ta) ∧ w''.cell? ⟨w.heap.size, 3, none⟩ = some (.int .i64 ea) ∧ w''.cell? ⟨w.heap.size + 1, 2, none⟩ = some (.string tb) ∧ w''.cell? ⟨w.heap.size + 1, 3, none⟩ = some (.int .i64 eb)) := by
    intro w' hw' o1 l1 q1 o2 l2 q2 g1 g2
    refine (nr_mul _ _ Vb (10 ^ kb) w' g1 g2 SS.out.2.1 SS.out.2.2.1).mono ?_
    rintro e w'' ⟨o, c, l, rfl, n1, hb⟩
    have hbb := hw'.out.trans (hb.mono hw'.out.size)
    exact ⟨o, c, l, rfl, ⟨n1, hb⟩, hbb, HC.out _ hbb⟩
  have CC : Hid (∀ w', Hid (Below w5.heap.size w5 w') → ∀ o1 l1 q1 o2 l2 q2, Nr w' (.slice o1 l1 q1) (Va * 10 ^ ka) → Nr w' (.slice o2 l2 q2) (Vb * 10 ^ kb) → Calls Tryz.prog 26 #[.slice o1 l1 q1, .slice o2 l2 q2] w' fun e w'' => e = .returned (.int .i64 z) ∧ Hid (Below w5.heap.size w5 w'') ∧ w''.cell? ⟨w.heap.size, 2, none⟩ = some (.string ta) ∧ w''.cell? ⟨w.heap.size, 3, none⟩ = some (.int .i64 ea) ∧ w''.cell? ⟨w.heap.size + 1, 2, none⟩ = some (.string tb) ∧ w''.cell? ⟨w.heap.size + 1, 3, none⟩ = some (.int .i64 eb)) := by
    intro w' hw' o1 l1 q1 o2 l2 q2 g1 g2
    refine (nr_cmp _ _ _ _ z w' g1 g2 SS.out.1.2.2 SS.out.2.2.2 HZ.out).mono ?_
    rintro e w'' ⟨rfl, hb⟩
    have hbb := hw'.out.trans (hb.mono hw'.out.size)
    exact ⟨rfl, hbb, HC.out _ hbb⟩
  have b0 : Hid (Below w5.heap.size w5 w5.drew) := bdrew' w5
  have EWA : Hid (IntKind.i64.wrap (ea - u) = (ka : Int)) := by show IntKind.i64.wrap (ea - u) = (ka : Int); rw [HKA.out, IntKind.wrap_i64]; omega
  have EWB : Hid (IntKind.i64.wrap (eb - u) = (kb : Int)) := by show IntKind.i64.wrap (eb - u) = (kb : Int); rw [HKB.out, IntKind.wrap_i64]; omega
  go_wp2_with fail
  simp only [← HU.out]
  have mk0 : True := trivial
  clear Ta Tb Ma Mb AW HT OFa OFb
  go_region_held3 (fun w' => w'.cell? ⟨w.heap.size, 2, none⟩ = some (.string ta) ∧ w'.cell? ⟨w.heap.size, 3, none⟩ = some (.int .i64 ea) ∧ w'.cell? ⟨w.heap.size + 1, 2, none⟩ = some (.string tb) ∧ w'.cell? ⟨w.heap.size + 1, 3, none⟩ = some (.int .i64 eb)) (go_keep) (first
    | (clear mk0; go_at_call 28; refine (OA.out _ b0).mono ?_; rintro e v1 ⟨oa, qa, la, rfl, na1, b1, f0, f1, f2, f3⟩; have mk1 : True := trivial)
    | (clear mk1; go_at_call 29; refine (PA.out _ b1 _ (by first | exact EWA.out | exact HKA.out)).mono ?_; rintro e v2 ⟨op, qp, lp, rfl, na2, b2, g0, g1, g2, g3⟩; have mk2 : True := trivial)
    | (clear mk2; go_at_call 27; refine (XA.out _ b2 _ _ _ _ _ _ (na1.out.1.below na2.out.2) na2.out.1).mono ?_; rintro e v3 ⟨ox, qx, lx, rfl, na3, b3, h0, h1, h2, h3⟩; have mk3 : True := trivial)
    | (clear mk3; go_at_call 28; refine (OB.out _ b3).mono ?_; rintro e v4 ⟨ob, qb, lb, rfl, nb1, b4, i0, i1, i2, i3⟩; have mk4 : True := trivial)
    | (clear mk4; go_at_call 29; refine (PB.out _ b4 _ (by first | exact EWB.out | exact HKB.out)).mono ?_; rintro e v5 ⟨oq, qq, lq, rfl, nb2, b5, j0, j1, j2, j3⟩; have mk5 : True := trivial)
    | (clear mk5; go_at_call 27; refine (XB.out _ b5 _ _ _ _ _ _ (nb1.out.1.below nb2.out.2) nb2.out.1).mono ?_; rintro e v6 ⟨oy, qy, ly, rfl, nb3, b6, k0, k1, k2, k3⟩; have mk6 : True := trivial)
    | (clear mk6; go_at_call 26; refine (CC.out _ b6 _ _ _ _ _ _ (na3.out.1.below (nb1.out.2.trans ((nb2.out.2.trans (nb3.out.2.mono nb2.out.2.size)).mono nb1.out.2.size))) nb3.out.1).mono ?_; rintro e v7 ⟨rfl, b7, l0, l1, l2, l3⟩; have mk7 : True := trivial))
  all_goals (
    have FIN := hide (HB5.out.trans (b7.out.mono HB5.out.size))
    clear OA PA XA OB PB XB CC HC b0 na1 na2 na3 nb1 nb2 nb3 b1 b2 b3 b4 b5 b6 b7
    rcases HX.out with ⟨rfl, hle⟩ | ⟨rfl, rfl⟩ | ⟨rfl, hle⟩)
  · have hle' : (ra : Int) ≤ (rb : Int) := by omega
    clear hle HX
    go_wp2
    go_ret
    exact ⟨rfl, FIN.out⟩
  · clear HX
    go_wp2
    go_ret
    exact ⟨rfl, FIN.out⟩
  · have hle' : (rb : Int) ≤ (ra : Int) := by omega
    clear hle HX
    go_wp2
    go_ret
    exact ⟨rfl, FIN.out⟩

/-- What a finite Dec that may be, and is not below 0, gives. -/
theorem rises_data {t : ByteArray} {ex : Int} (h : MayD 0 false (bys t) ex) : DigB (bys t) ∧ (t.size ≤ 1000 ∧ -3500 ≤ ex ∧ ex ≤ 2000) ∧ Pos ⟨0, false, bys t, ex⟩ := by
  rcases (mayD_0 false t ex).1 h with ⟨h1, rfl⟩ | ⟨h0, h1, h2, h3, h4, _, h6⟩
  · have e := bys_nil.2 h1
    refine ⟨by rw [e]; intro k hk; simp at hk, by omega, ⟨rfl, rfl, fun hn => absurd e hn⟩⟩
  · rw [bys_len] at h1 h2 h3
    have hn0 : t.size ≠ 0 := fun e => h0 (bys_nil.2 e)
    exact ⟨h6, by omega, ⟨rfl, rfl, fun hn => decV_ne hn h4 h6⟩⟩

theorem rises_walk (w : World) (htab : Tab w) (ca : Int) (na : Bool) (ta : ByteArray) (ea : Int) (cb : Int) (nb : Bool) (tb : ByteArray) (eb : Int) :
    Calls Tryz.prog 8 #[.agg #[.int .i64 ca, .bool na, .string ta, .int .i64 ea], .agg #[.int .i64 cb, .bool nb, .string tb, .int .i64 eb]] w fun e w' => e = .returned (.bool true) ∧ Below w.heap.size w w' := by
  by_cases ha : MayD ca na (bys ta) ea
  · by_cases hb : MayD cb nb (bys tb) eb
    · by_cases h0 : ca = 0
      · subst h0
        by_cases h1 : cb = 0
        · subst h1
          cases na with
          | true => exact rises_na w htab ta ea nb tb eb ha hb
          | false =>
            cases nb with
            | true => exact rises_nb w htab ta ea tb eb ha hb
            | false =>
              obtain ⟨da, la, pa⟩ := rises_data ha
              obtain ⟨db, lb, pb⟩ := rises_data hb
              obtain ⟨u, hu⟩ : ∃ u, u = min ea eb := ⟨_, rfl⟩
              have hu2 : u = min eb ea := by omega
              have hI : infN 52 11 % 2 = 0 := by rw [inf64]
              refine rises_fin w htab ta ea tb eb ha hb da db la lb u hu _ rfl ?_
              rcases cmpN_or (decV (bys ta) * 10 ^ (ea - u).toNat) (decV (bys tb) * 10 ^ (eb - u).toNat) with h | h | h
              · exact .inl ⟨h, toD_rises (by omega) hI pa pb hu (Nat.le_of_lt (cmpN_lt h))⟩
              · have e := cmpN_eq h
                exact .inr (.inl ⟨h, Nat.le_antisymm (toD_rises (by omega) hI pa pb hu (Nat.le_of_eq e)) (toD_rises (by omega) hI pb pa hu2 (Nat.le_of_eq e.symm))⟩)
              · exact .inr (.inr ⟨h, toD_rises (by omega) hI pb pa hu2 (Nat.le_of_lt (cmpN_gt h))⟩)
        · exact rises_cb w htab na ta ea cb nb tb eb ha hb h1
      · exact rises_ca w htab ca na ta ea cb nb tb eb ha hb h0
    · exact rises_yn w htab ca na ta ea cb nb tb eb ha hb
  · by_cases hb : MayD cb nb (bys tb) eb
    · exact rises_ny w htab ca na ta ea cb nb tb eb ha hb
    · exact rises_nn w htab ca na ta ea cb nb tb eb ha hb

end Go.Proofs.YtlhekeifffofjaaGreatDoor
