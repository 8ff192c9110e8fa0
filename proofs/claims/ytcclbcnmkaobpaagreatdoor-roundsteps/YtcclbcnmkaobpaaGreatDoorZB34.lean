/-
  What quipuref06's Step does.
  RoundSteps answers true, whatever it is handed.
-/
import Derived.Test.YtcclbcnmkaobpaaGreatDoorZB32
import Derived.Test.YtcclbcnmkaobpaaGreatDoorZB27
namespace Go.Proofs.YtcclbcnmkaobpaaGreatDoor
open Go.RowKit

set_option maxHeartbeats 2000000 in
theorem rStep_no (ca : Int) (na : Bool) (ta : ByteArray) (ea : Int) (cb : Int) (nb : Bool) (tb : ByteArray) (eb : Int) (m : Int) (w : World) (h : ¬ MayD ca na (bys ta) ea) : Calls Tryz.prog 17 #[dcV ca na ta ea, dcV cb nb tb eb, .int .i64 m] w fun e w' => e = .returned (.tuple #[dcV 0 false ⟨#[]⟩ 0, .int .i64 52]) ∧ Below w.heap.size w w' := by
  have K0 := hide (fun W => rmay_no ca na ta ea W h)
  clear h
  have Ba0 := hide (((Blk.newAt w (w.heap.size) (rfl) #[.int .i64 ca, .bool na, .string ta, .int .i64 ea] 23).alloc (.cells #[.int .i64 cb, .bool nb, .string tb, .int .i64 eb] 23)).alloc (.cells #[.int .i64 0, .bool false, .string ⟨#[]⟩, .int .i64 0] 23))
  have Bb0 := hide ((Blk.newAt (w.alloc (.cells #[.int .i64 ca, .bool na, .string ta, .int .i64 ea] 23)) (w.heap.size + 1) (by simp) #[.int .i64 cb, .bool nb, .string tb, .int .i64 eb] 23).alloc (.cells #[.int .i64 0, .bool false, .string ⟨#[]⟩, .int .i64 0] 23))
  have Br0 := hide (Blk.newAt ((w.alloc (.cells #[.int .i64 ca, .bool na, .string ta, .int .i64 ea] 23)).alloc (.cells #[.int .i64 cb, .bool nb, .string tb, .int .i64 eb] 23)) (w.heap.size + 1 + 1) (by simp) #[.int .i64 0, .bool false, .string ⟨#[]⟩, .int .i64 0] 23)
  have HB0 : Hid (Below w.heap.size w (((w.alloc (.cells #[.int .i64 ca, .bool na, .string ta, .int .i64 ea] 23)).alloc (.cells #[.int .i64 cb, .bool nb, .string tb, .int .i64 eb] 23)).alloc (.cells #[.int .i64 0, .bool false, .string ⟨#[]⟩, .int .i64 0] 23))) := ((((Below.refl _ _).alloc (Nat.le_refl _) _).alloc (by simp <;> omega) _).alloc (by simp <;> omega) _)
  go_enter Tryz.func17, Tryz.ntmps17
  go_wp2_with fail
  refine (K0.out _).mono ?_
  rintro e w1 ⟨rfl, hb⟩
  have Ba1 := hide (Ba0.out.below hb Ba0.out.lt)
  have Bb1 := hide (Bb0.out.below hb Bb0.out.lt)
  have Br1 := hide (Br0.out.below hb Br0.out.lt)
  have HB1 := hide (HB0.out.trans (hb.mono HB0.out.size))
  clear hb Ba0 Bb0 Br0 HB0 
  have ya0 : w1.cell? ⟨w.heap.size, 0, none⟩ = some (.int .i64 ca) := Ba1.out.cell 0
  have ya1 : w1.cell? ⟨w.heap.size, 1, none⟩ = some (.bool na) := Ba1.out.cell 1
  have ya2 : w1.cell? ⟨w.heap.size, 2, none⟩ = some (.string ta) := Ba1.out.cell 2
  have ya3 : w1.cell? ⟨w.heap.size, 3, none⟩ = some (.int .i64 ea) := Ba1.out.cell 3
  have yb0 : w1.cell? ⟨w.heap.size + 1, 0, none⟩ = some (.int .i64 cb) := Bb1.out.cell 0
  have yb1 : w1.cell? ⟨w.heap.size + 1, 1, none⟩ = some (.bool nb) := Bb1.out.cell 1
  have yb2 : w1.cell? ⟨w.heap.size + 1, 2, none⟩ = some (.string tb) := Bb1.out.cell 2
  have yb3 : w1.cell? ⟨w.heap.size + 1, 3, none⟩ = some (.int .i64 eb) := Bb1.out.cell 3
  have yr0 : w1.cell? ⟨w.heap.size + 1 + 1, 0, none⟩ = some (.int .i64 0) := Br1.out.cell 0
  have yr1 : w1.cell? ⟨w.heap.size + 1 + 1, 1, none⟩ = some (.bool false) := Br1.out.cell 1
  have yr2 : w1.cell? ⟨w.heap.size + 1 + 1, 2, none⟩ = some (.string ⟨#[]⟩) := Br1.out.cell 2
  have yr3 : w1.cell? ⟨w.heap.size + 1 + 1, 3, none⟩ = some (.int .i64 0) := Br1.out.cell 3
  have fr0 := Br1.out.free 0
  have fr1 := Br1.out.free 1
  have fr2 := Br1.out.free 2
  have fr3 := Br1.out.free 3
  go_wp2
  refine bodyPost_ret (results_dec2 rfl _ _ _ _ _ _ _ rfl (Br1.out.put4 _ _ _ _)) rfl ?_
  exact ⟨rfl, below_put4 (HB1.out) (by omega) _ _ _ _⟩

set_option maxHeartbeats 2000000 in
theorem rStep_bno (ca : Int) (na : Bool) (ta : ByteArray) (ea : Int) (cb : Int) (nb : Bool) (tb : ByteArray) (eb : Int) (m : Int) (w : World) (h : MayD ca na (bys ta) ea) (hb : ¬ MayD cb nb (bys tb) eb) : Calls Tryz.prog 17 #[dcV ca na ta ea, dcV cb nb tb eb, .int .i64 m] w fun e w' => e = .returned (.tuple #[dcV 0 false ⟨#[]⟩ 0, .int .i64 52]) ∧ Below w.heap.size w w' := by
  have K0 := hide (fun W => rmay_yes ca na ta ea W h)
  have K1 := hide (fun W => rmay_no cb nb tb eb W hb)
  clear h hb
  have Ba0 := hide (((Blk.newAt w (w.heap.size) (rfl) #[.int .i64 ca, .bool na, .string ta, .int .i64 ea] 23).alloc (.cells #[.int .i64 cb, .bool nb, .string tb, .int .i64 eb] 23)).alloc (.cells #[.int .i64 0, .bool false, .string ⟨#[]⟩, .int .i64 0] 23))
  have Bb0 := hide ((Blk.newAt (w.alloc (.cells #[.int .i64 ca, .bool na, .string ta, .int .i64 ea] 23)) (w.heap.size + 1) (by simp) #[.int .i64 cb, .bool nb, .string tb, .int .i64 eb] 23).alloc (.cells #[.int .i64 0, .bool false, .string ⟨#[]⟩, .int .i64 0] 23))
  have Br0 := hide (Blk.newAt ((w.alloc (.cells #[.int .i64 ca, .bool na, .string ta, .int .i64 ea] 23)).alloc (.cells #[.int .i64 cb, .bool nb, .string tb, .int .i64 eb] 23)) (w.heap.size + 1 + 1) (by simp) #[.int .i64 0, .bool false, .string ⟨#[]⟩, .int .i64 0] 23)
  have HB0 : Hid (Below w.heap.size w (((w.alloc (.cells #[.int .i64 ca, .bool na, .string ta, .int .i64 ea] 23)).alloc (.cells #[.int .i64 cb, .bool nb, .string tb, .int .i64 eb] 23)).alloc (.cells #[.int .i64 0, .bool false, .string ⟨#[]⟩, .int .i64 0] 23))) := ((((Below.refl _ _).alloc (Nat.le_refl _) _).alloc (by simp <;> omega) _).alloc (by simp <;> omega) _)
  go_enter Tryz.func17, Tryz.ntmps17
  go_wp2_with fail
  refine (K0.out _).mono ?_
  rintro e w1 ⟨rfl, hb⟩
  have Ba1 := hide (Ba0.out.below hb Ba0.out.lt)
  have Bb1 := hide (Bb0.out.below hb Bb0.out.lt)
  have Br1 := hide (Br0.out.below hb Br0.out.lt)
  have HB1 := hide (HB0.out.trans (hb.mono HB0.out.size))
  clear hb Ba0 Bb0 Br0 HB0 
  have ya0 : w1.cell? ⟨w.heap.size, 0, none⟩ = some (.int .i64 ca) := Ba1.out.cell 0
  have ya1 : w1.cell? ⟨w.heap.size, 1, none⟩ = some (.bool na) := Ba1.out.cell 1
  have ya2 : w1.cell? ⟨w.heap.size, 2, none⟩ = some (.string ta) := Ba1.out.cell 2
  have ya3 : w1.cell? ⟨w.heap.size, 3, none⟩ = some (.int .i64 ea) := Ba1.out.cell 3
  have yb0 : w1.cell? ⟨w.heap.size + 1, 0, none⟩ = some (.int .i64 cb) := Bb1.out.cell 0
  have yb1 : w1.cell? ⟨w.heap.size + 1, 1, none⟩ = some (.bool nb) := Bb1.out.cell 1
  have yb2 : w1.cell? ⟨w.heap.size + 1, 2, none⟩ = some (.string tb) := Bb1.out.cell 2
  have yb3 : w1.cell? ⟨w.heap.size + 1, 3, none⟩ = some (.int .i64 eb) := Bb1.out.cell 3
  have yr0 : w1.cell? ⟨w.heap.size + 1 + 1, 0, none⟩ = some (.int .i64 0) := Br1.out.cell 0
  have yr1 : w1.cell? ⟨w.heap.size + 1 + 1, 1, none⟩ = some (.bool false) := Br1.out.cell 1
  have yr2 : w1.cell? ⟨w.heap.size + 1 + 1, 2, none⟩ = some (.string ⟨#[]⟩) := Br1.out.cell 2
  have yr3 : w1.cell? ⟨w.heap.size + 1 + 1, 3, none⟩ = some (.int .i64 0) := Br1.out.cell 3
  go_wp2_with fail
  refine (K1.out _).mono ?_
  rintro e w2 ⟨rfl, hb⟩
  have Ba2 := hide (Ba1.out.below hb Ba1.out.lt)
  have Bb2 := hide (Bb1.out.below hb Bb1.out.lt)
  have Br2 := hide (Br1.out.below hb Br1.out.lt)
  have HB2 := hide (HB1.out.trans (hb.mono HB1.out.size))
  clear hb Ba1 Bb1 Br1 HB1 ya0 ya1 ya2 ya3 yb0 yb1 yb2 yb3 yr0 yr1 yr2 yr3
  have ya0 : w2.cell? ⟨w.heap.size, 0, none⟩ = some (.int .i64 ca) := Ba2.out.cell 0
  have ya1 : w2.cell? ⟨w.heap.size, 1, none⟩ = some (.bool na) := Ba2.out.cell 1
  have ya2 : w2.cell? ⟨w.heap.size, 2, none⟩ = some (.string ta) := Ba2.out.cell 2
  have ya3 : w2.cell? ⟨w.heap.size, 3, none⟩ = some (.int .i64 ea) := Ba2.out.cell 3
  have yb0 : w2.cell? ⟨w.heap.size + 1, 0, none⟩ = some (.int .i64 cb) := Bb2.out.cell 0
  have yb1 : w2.cell? ⟨w.heap.size + 1, 1, none⟩ = some (.bool nb) := Bb2.out.cell 1
  have yb2 : w2.cell? ⟨w.heap.size + 1, 2, none⟩ = some (.string tb) := Bb2.out.cell 2
  have yb3 : w2.cell? ⟨w.heap.size + 1, 3, none⟩ = some (.int .i64 eb) := Bb2.out.cell 3
  have yr0 : w2.cell? ⟨w.heap.size + 1 + 1, 0, none⟩ = some (.int .i64 0) := Br2.out.cell 0
  have yr1 : w2.cell? ⟨w.heap.size + 1 + 1, 1, none⟩ = some (.bool false) := Br2.out.cell 1
  have yr2 : w2.cell? ⟨w.heap.size + 1 + 1, 2, none⟩ = some (.string ⟨#[]⟩) := Br2.out.cell 2
  have yr3 : w2.cell? ⟨w.heap.size + 1 + 1, 3, none⟩ = some (.int .i64 0) := Br2.out.cell 3
  have fr0 := Br2.out.free 0
  have fr1 := Br2.out.free 1
  have fr2 := Br2.out.free 2
  have fr3 := Br2.out.free 3
  go_wp2
  refine bodyPost_ret (results_dec2 rfl _ _ _ _ _ _ _ rfl (Br2.out.put4 _ _ _ _)) rfl ?_
  exact ⟨rfl, below_put4 (HB2.out) (by omega) _ _ _ _⟩

set_option maxHeartbeats 2000000 in
theorem rStep_mlow (ca : Int) (na : Bool) (ta : ByteArray) (ea : Int) (cb : Int) (nb : Bool) (tb : ByteArray) (eb : Int) (m : Int) (w : World) (h : MayD ca na (bys ta) ea) (hb : MayD cb nb (bys tb) eb) (hm : m < 0) : Calls Tryz.prog 17 #[dcV ca na ta ea, dcV cb nb tb eb, .int .i64 m] w fun e w' => e = .returned (.tuple #[dcV 0 false ⟨#[]⟩ 0, .int .i64 60]) ∧ Below w.heap.size w w' := by
  have K0 := hide (fun W => rmay_yes ca na ta ea W h)
  have K1 := hide (fun W => rmay_yes cb nb tb eb W hb)
  clear h hb
  have Ba0 := hide (((Blk.newAt w (w.heap.size) (rfl) #[.int .i64 ca, .bool na, .string ta, .int .i64 ea] 23).alloc (.cells #[.int .i64 cb, .bool nb, .string tb, .int .i64 eb] 23)).alloc (.cells #[.int .i64 0, .bool false, .string ⟨#[]⟩, .int .i64 0] 23))
  have Bb0 := hide ((Blk.newAt (w.alloc (.cells #[.int .i64 ca, .bool na, .string ta, .int .i64 ea] 23)) (w.heap.size + 1) (by simp) #[.int .i64 cb, .bool nb, .string tb, .int .i64 eb] 23).alloc (.cells #[.int .i64 0, .bool false, .string ⟨#[]⟩, .int .i64 0] 23))
  have Br0 := hide (Blk.newAt ((w.alloc (.cells #[.int .i64 ca, .bool na, .string ta, .int .i64 ea] 23)).alloc (.cells #[.int .i64 cb, .bool nb, .string tb, .int .i64 eb] 23)) (w.heap.size + 1 + 1) (by simp) #[.int .i64 0, .bool false, .string ⟨#[]⟩, .int .i64 0] 23)
  have HB0 : Hid (Below w.heap.size w (((w.alloc (.cells #[.int .i64 ca, .bool na, .string ta, .int .i64 ea] 23)).alloc (.cells #[.int .i64 cb, .bool nb, .string tb, .int .i64 eb] 23)).alloc (.cells #[.int .i64 0, .bool false, .string ⟨#[]⟩, .int .i64 0] 23))) := ((((Below.refl _ _).alloc (Nat.le_refl _) _).alloc (by simp <;> omega) _).alloc (by simp <;> omega) _)
  go_enter Tryz.func17, Tryz.ntmps17
  go_wp2_with fail
  refine (K0.out _).mono ?_
  rintro e w1 ⟨rfl, hb⟩
  have Ba1 := hide (Ba0.out.below hb Ba0.out.lt)
  have Bb1 := hide (Bb0.out.below hb Bb0.out.lt)
  have Br1 := hide (Br0.out.below hb Br0.out.lt)
  have HB1 := hide (HB0.out.trans (hb.mono HB0.out.size))
  clear hb Ba0 Bb0 Br0 HB0 
  have ya0 : w1.cell? ⟨w.heap.size, 0, none⟩ = some (.int .i64 ca) := Ba1.out.cell 0
  have ya1 : w1.cell? ⟨w.heap.size, 1, none⟩ = some (.bool na) := Ba1.out.cell 1
  have ya2 : w1.cell? ⟨w.heap.size, 2, none⟩ = some (.string ta) := Ba1.out.cell 2
  have ya3 : w1.cell? ⟨w.heap.size, 3, none⟩ = some (.int .i64 ea) := Ba1.out.cell 3
  have yb0 : w1.cell? ⟨w.heap.size + 1, 0, none⟩ = some (.int .i64 cb) := Bb1.out.cell 0
  have yb1 : w1.cell? ⟨w.heap.size + 1, 1, none⟩ = some (.bool nb) := Bb1.out.cell 1
  have yb2 : w1.cell? ⟨w.heap.size + 1, 2, none⟩ = some (.string tb) := Bb1.out.cell 2
  have yb3 : w1.cell? ⟨w.heap.size + 1, 3, none⟩ = some (.int .i64 eb) := Bb1.out.cell 3
  have yr0 : w1.cell? ⟨w.heap.size + 1 + 1, 0, none⟩ = some (.int .i64 0) := Br1.out.cell 0
  have yr1 : w1.cell? ⟨w.heap.size + 1 + 1, 1, none⟩ = some (.bool false) := Br1.out.cell 1
  have yr2 : w1.cell? ⟨w.heap.size + 1 + 1, 2, none⟩ = some (.string ⟨#[]⟩) := Br1.out.cell 2
  have yr3 : w1.cell? ⟨w.heap.size + 1 + 1, 3, none⟩ = some (.int .i64 0) := Br1.out.cell 3
  go_wp2_with fail
  refine (K1.out _).mono ?_
  rintro e w2 ⟨rfl, hb⟩
  have Ba2 := hide (Ba1.out.below hb Ba1.out.lt)
  have Bb2 := hide (Bb1.out.below hb Bb1.out.lt)
  have Br2 := hide (Br1.out.below hb Br1.out.lt)
  have HB2 := hide (HB1.out.trans (hb.mono HB1.out.size))
  clear hb Ba1 Bb1 Br1 HB1 ya0 ya1 ya2 ya3 yb0 yb1 yb2 yb3 yr0 yr1 yr2 yr3
  have ya0 : w2.cell? ⟨w.heap.size, 0, none⟩ = some (.int .i64 ca) := Ba2.out.cell 0
  have ya1 : w2.cell? ⟨w.heap.size, 1, none⟩ = some (.bool na) := Ba2.out.cell 1
  have ya2 : w2.cell? ⟨w.heap.size, 2, none⟩ = some (.string ta) := Ba2.out.cell 2
  have ya3 : w2.cell? ⟨w.heap.size, 3, none⟩ = some (.int .i64 ea) := Ba2.out.cell 3
  have yb0 : w2.cell? ⟨w.heap.size + 1, 0, none⟩ = some (.int .i64 cb) := Bb2.out.cell 0
  have yb1 : w2.cell? ⟨w.heap.size + 1, 1, none⟩ = some (.bool nb) := Bb2.out.cell 1
  have yb2 : w2.cell? ⟨w.heap.size + 1, 2, none⟩ = some (.string tb) := Bb2.out.cell 2
  have yb3 : w2.cell? ⟨w.heap.size + 1, 3, none⟩ = some (.int .i64 eb) := Bb2.out.cell 3
  have yr0 : w2.cell? ⟨w.heap.size + 1 + 1, 0, none⟩ = some (.int .i64 0) := Br2.out.cell 0
  have yr1 : w2.cell? ⟨w.heap.size + 1 + 1, 1, none⟩ = some (.bool false) := Br2.out.cell 1
  have yr2 : w2.cell? ⟨w.heap.size + 1 + 1, 2, none⟩ = some (.string ⟨#[]⟩) := Br2.out.cell 2
  have yr3 : w2.cell? ⟨w.heap.size + 1 + 1, 3, none⟩ = some (.int .i64 0) := Br2.out.cell 3
  have fr0 := Br2.out.free 0
  have fr1 := Br2.out.free 1
  have fr2 := Br2.out.free 2
  have fr3 := Br2.out.free 3
  go_wp2
  refine bodyPost_ret (results_dec2 rfl _ _ _ _ _ _ _ rfl (Br2.out.put4 _ _ _ _)) rfl ?_
  exact ⟨rfl, below_put4 (HB2.out) (by omega) _ _ _ _⟩

set_option maxHeartbeats 2000000 in
theorem rStep_mhigh (ca : Int) (na : Bool) (ta : ByteArray) (ea : Int) (cb : Int) (nb : Bool) (tb : ByteArray) (eb : Int) (m : Int) (w : World) (h : MayD ca na (bys ta) ea) (hb : MayD cb nb (bys tb) eb) (hm : 8 ≤ m) : Calls Tryz.prog 17 #[dcV ca na ta ea, dcV cb nb tb eb, .int .i64 m] w fun e w' => e = .returned (.tuple #[dcV 0 false ⟨#[]⟩ 0, .int .i64 60]) ∧ Below w.heap.size w w' := by
  have K0 := hide (fun W => rmay_yes ca na ta ea W h)
  have K1 := hide (fun W => rmay_yes cb nb tb eb W hb)
  clear h hb
  have hm7 : 7 < m := by omega
  have Ba0 := hide (((Blk.newAt w (w.heap.size) (rfl) #[.int .i64 ca, .bool na, .string ta, .int .i64 ea] 23).alloc (.cells #[.int .i64 cb, .bool nb, .string tb, .int .i64 eb] 23)).alloc (.cells #[.int .i64 0, .bool false, .string ⟨#[]⟩, .int .i64 0] 23))
  have Bb0 := hide ((Blk.newAt (w.alloc (.cells #[.int .i64 ca, .bool na, .string ta, .int .i64 ea] 23)) (w.heap.size + 1) (by simp) #[.int .i64 cb, .bool nb, .string tb, .int .i64 eb] 23).alloc (.cells #[.int .i64 0, .bool false, .string ⟨#[]⟩, .int .i64 0] 23))
  have Br0 := hide (Blk.newAt ((w.alloc (.cells #[.int .i64 ca, .bool na, .string ta, .int .i64 ea] 23)).alloc (.cells #[.int .i64 cb, .bool nb, .string tb, .int .i64 eb] 23)) (w.heap.size + 1 + 1) (by simp) #[.int .i64 0, .bool false, .string ⟨#[]⟩, .int .i64 0] 23)
  have HB0 : Hid (Below w.heap.size w (((w.alloc (.cells #[.int .i64 ca, .bool na, .string ta, .int .i64 ea] 23)).alloc (.cells #[.int .i64 cb, .bool nb, .string tb, .int .i64 eb] 23)).alloc (.cells #[.int .i64 0, .bool false, .string ⟨#[]⟩, .int .i64 0] 23))) := ((((Below.refl _ _).alloc (Nat.le_refl _) _).alloc (by simp <;> omega) _).alloc (by simp <;> omega) _)
  go_enter Tryz.func17, Tryz.ntmps17
  go_wp2_with fail
  refine (K0.out _).mono ?_
  rintro e w1 ⟨rfl, hb⟩
  have Ba1 := hide (Ba0.out.below hb Ba0.out.lt)
  have Bb1 := hide (Bb0.out.below hb Bb0.out.lt)
  have Br1 := hide (Br0.out.below hb Br0.out.lt)
  have HB1 := hide (HB0.out.trans (hb.mono HB0.out.size))
  clear hb Ba0 Bb0 Br0 HB0 
  have ya0 : w1.cell? ⟨w.heap.size, 0, none⟩ = some (.int .i64 ca) := Ba1.out.cell 0
  have ya1 : w1.cell? ⟨w.heap.size, 1, none⟩ = some (.bool na) := Ba1.out.cell 1
  have ya2 : w1.cell? ⟨w.heap.size, 2, none⟩ = some (.string ta) := Ba1.out.cell 2
  have ya3 : w1.cell? ⟨w.heap.size, 3, none⟩ = some (.int .i64 ea) := Ba1.out.cell 3
  have yb0 : w1.cell? ⟨w.heap.size + 1, 0, none⟩ = some (.int .i64 cb) := Bb1.out.cell 0
  have yb1 : w1.cell? ⟨w.heap.size + 1, 1, none⟩ = some (.bool nb) := Bb1.out.cell 1
  have yb2 : w1.cell? ⟨w.heap.size + 1, 2, none⟩ = some (.string tb) := Bb1.out.cell 2
  have yb3 : w1.cell? ⟨w.heap.size + 1, 3, none⟩ = some (.int .i64 eb) := Bb1.out.cell 3
  have yr0 : w1.cell? ⟨w.heap.size + 1 + 1, 0, none⟩ = some (.int .i64 0) := Br1.out.cell 0
  have yr1 : w1.cell? ⟨w.heap.size + 1 + 1, 1, none⟩ = some (.bool false) := Br1.out.cell 1
  have yr2 : w1.cell? ⟨w.heap.size + 1 + 1, 2, none⟩ = some (.string ⟨#[]⟩) := Br1.out.cell 2
  have yr3 : w1.cell? ⟨w.heap.size + 1 + 1, 3, none⟩ = some (.int .i64 0) := Br1.out.cell 3
  go_wp2_with fail
  refine (K1.out _).mono ?_
  rintro e w2 ⟨rfl, hb⟩
  have Ba2 := hide (Ba1.out.below hb Ba1.out.lt)
  have Bb2 := hide (Bb1.out.below hb Bb1.out.lt)
  have Br2 := hide (Br1.out.below hb Br1.out.lt)
  have HB2 := hide (HB1.out.trans (hb.mono HB1.out.size))
  clear hb Ba1 Bb1 Br1 HB1 ya0 ya1 ya2 ya3 yb0 yb1 yb2 yb3 yr0 yr1 yr2 yr3
  have ya0 : w2.cell? ⟨w.heap.size, 0, none⟩ = some (.int .i64 ca) := Ba2.out.cell 0
  have ya1 : w2.cell? ⟨w.heap.size, 1, none⟩ = some (.bool na) := Ba2.out.cell 1
  have ya2 : w2.cell? ⟨w.heap.size, 2, none⟩ = some (.string ta) := Ba2.out.cell 2
  have ya3 : w2.cell? ⟨w.heap.size, 3, none⟩ = some (.int .i64 ea) := Ba2.out.cell 3
  have yb0 : w2.cell? ⟨w.heap.size + 1, 0, none⟩ = some (.int .i64 cb) := Bb2.out.cell 0
  have yb1 : w2.cell? ⟨w.heap.size + 1, 1, none⟩ = some (.bool nb) := Bb2.out.cell 1
  have yb2 : w2.cell? ⟨w.heap.size + 1, 2, none⟩ = some (.string tb) := Bb2.out.cell 2
  have yb3 : w2.cell? ⟨w.heap.size + 1, 3, none⟩ = some (.int .i64 eb) := Bb2.out.cell 3
  have yr0 : w2.cell? ⟨w.heap.size + 1 + 1, 0, none⟩ = some (.int .i64 0) := Br2.out.cell 0
  have yr1 : w2.cell? ⟨w.heap.size + 1 + 1, 1, none⟩ = some (.bool false) := Br2.out.cell 1
  have yr2 : w2.cell? ⟨w.heap.size + 1 + 1, 2, none⟩ = some (.string ⟨#[]⟩) := Br2.out.cell 2
  have yr3 : w2.cell? ⟨w.heap.size + 1 + 1, 3, none⟩ = some (.int .i64 0) := Br2.out.cell 3
  have fr0 := Br2.out.free 0
  have fr1 := Br2.out.free 1
  have fr2 := Br2.out.free 2
  have fr3 := Br2.out.free 3
  go_wp2
  refine bodyPost_ret (results_dec2 rfl _ _ _ _ _ _ _ rfl (Br2.out.put4 _ _ _ _)) rfl ?_
  exact ⟨rfl, below_put4 (HB2.out) (by omega) _ _ _ _⟩

set_option maxHeartbeats 2000000 in
theorem rStep_cls (ca : Int) (na : Bool) (ta : ByteArray) (ea : Int) (cb : Int) (nb : Bool) (tb : ByteArray) (eb : Int) (m : Int) (w : World) (h : MayD ca na (bys ta) ea) (hb : MayD cb nb (bys tb) eb) (m1 : 0 ≤ m) (m2 : m < 8) (hc : ¬ cb = 0) : Calls Tryz.prog 17 #[dcV ca na ta ea, dcV cb nb tb eb, .int .i64 m] w fun e w' => e = .returned (.tuple #[dcV 0 false ⟨#[]⟩ 0, .int .i64 62]) ∧ Below w.heap.size w w' := by
  have K0 := hide (fun W => rmay_yes ca na ta ea W h)
  have K1 := hide (fun W => rmay_yes cb nb tb eb W hb)
  clear h hb
  have m7 : ¬ 7 < m := by omega
  have m0 : ¬ m < 0 := by omega
  have hc2 : (cb == 0) = false := by simpa using hc
  have Ba0 := hide (((Blk.newAt w (w.heap.size) (rfl) #[.int .i64 ca, .bool na, .string ta, .int .i64 ea] 23).alloc (.cells #[.int .i64 cb, .bool nb, .string tb, .int .i64 eb] 23)).alloc (.cells #[.int .i64 0, .bool false, .string ⟨#[]⟩, .int .i64 0] 23))
  have Bb0 := hide ((Blk.newAt (w.alloc (.cells #[.int .i64 ca, .bool na, .string ta, .int .i64 ea] 23)) (w.heap.size + 1) (by simp) #[.int .i64 cb, .bool nb, .string tb, .int .i64 eb] 23).alloc (.cells #[.int .i64 0, .bool false, .string ⟨#[]⟩, .int .i64 0] 23))
  have Br0 := hide (Blk.newAt ((w.alloc (.cells #[.int .i64 ca, .bool na, .string ta, .int .i64 ea] 23)).alloc (.cells #[.int .i64 cb, .bool nb, .string tb, .int .i64 eb] 23)) (w.heap.size + 1 + 1) (by simp) #[.int .i64 0, .bool false, .string ⟨#[]⟩, .int .i64 0] 23)
  have HB0 : Hid (Below w.heap.size w (((w.alloc (.cells #[.int .i64 ca, .bool na, .string ta, .int .i64 ea] 23)).alloc (.cells #[.int .i64 cb, .bool nb, .string tb, .int .i64 eb] 23)).alloc (.cells #[.int .i64 0, .bool false, .string ⟨#[]⟩, .int .i64 0] 23))) := ((((Below.refl _ _).alloc (Nat.le_refl _) _).alloc (by simp <;> omega) _).alloc (by simp <;> omega) _)
  go_enter Tryz.func17, Tryz.ntmps17
  go_wp2_with fail
  refine (K0.out _).mono ?_
  rintro e w1 ⟨rfl, hb⟩
  have Ba1 := hide (Ba0.out.below hb Ba0.out.lt)
  have Bb1 := hide (Bb0.out.below hb Bb0.out.lt)
  have Br1 := hide (Br0.out.below hb Br0.out.lt)
  have HB1 := hide (HB0.out.trans (hb.mono HB0.out.size))
  clear hb Ba0 Bb0 Br0 HB0 
  have ya0 : w1.cell? ⟨w.heap.size, 0, none⟩ = some (.int .i64 ca) := Ba1.out.cell 0
  have ya1 : w1.cell? ⟨w.heap.size, 1, none⟩ = some (.bool na) := Ba1.out.cell 1
  have ya2 : w1.cell? ⟨w.heap.size, 2, none⟩ = some (.string ta) := Ba1.out.cell 2
  have ya3 : w1.cell? ⟨w.heap.size, 3, none⟩ = some (.int .i64 ea) := Ba1.out.cell 3
  have yb0 : w1.cell? ⟨w.heap.size + 1, 0, none⟩ = some (.int .i64 cb) := Bb1.out.cell 0
  have yb1 : w1.cell? ⟨w.heap.size + 1, 1, none⟩ = some (.bool nb) := Bb1.out.cell 1
  have yb2 : w1.cell? ⟨w.heap.size + 1, 2, none⟩ = some (.string tb) := Bb1.out.cell 2
  have yb3 : w1.cell? ⟨w.heap.size + 1, 3, none⟩ = some (.int .i64 eb) := Bb1.out.cell 3
  have yr0 : w1.cell? ⟨w.heap.size + 1 + 1, 0, none⟩ = some (.int .i64 0) := Br1.out.cell 0
  have yr1 : w1.cell? ⟨w.heap.size + 1 + 1, 1, none⟩ = some (.bool false) := Br1.out.cell 1
  have yr2 : w1.cell? ⟨w.heap.size + 1 + 1, 2, none⟩ = some (.string ⟨#[]⟩) := Br1.out.cell 2
  have yr3 : w1.cell? ⟨w.heap.size + 1 + 1, 3, none⟩ = some (.int .i64 0) := Br1.out.cell 3
  go_wp2_with fail
  refine (K1.out _).mono ?_
  rintro e w2 ⟨rfl, hb⟩
  have Ba2 := hide (Ba1.out.below hb Ba1.out.lt)
  have Bb2 := hide (Bb1.out.below hb Bb1.out.lt)
  have Br2 := hide (Br1.out.below hb Br1.out.lt)
  have HB2 := hide (HB1.out.trans (hb.mono HB1.out.size))
  clear hb Ba1 Bb1 Br1 HB1 ya0 ya1 ya2 ya3 yb0 yb1 yb2 yb3 yr0 yr1 yr2 yr3
  have ya0 : w2.cell? ⟨w.heap.size, 0, none⟩ = some (.int .i64 ca) := Ba2.out.cell 0
  have ya1 : w2.cell? ⟨w.heap.size, 1, none⟩ = some (.bool na) := Ba2.out.cell 1
  have ya2 : w2.cell? ⟨w.heap.size, 2, none⟩ = some (.string ta) := Ba2.out.cell 2
  have ya3 : w2.cell? ⟨w.heap.size, 3, none⟩ = some (.int .i64 ea) := Ba2.out.cell 3
  have yb0 : w2.cell? ⟨w.heap.size + 1, 0, none⟩ = some (.int .i64 cb) := Bb2.out.cell 0
  have yb1 : w2.cell? ⟨w.heap.size + 1, 1, none⟩ = some (.bool nb) := Bb2.out.cell 1
  have yb2 : w2.cell? ⟨w.heap.size + 1, 2, none⟩ = some (.string tb) := Bb2.out.cell 2
  have yb3 : w2.cell? ⟨w.heap.size + 1, 3, none⟩ = some (.int .i64 eb) := Bb2.out.cell 3
  have yr0 : w2.cell? ⟨w.heap.size + 1 + 1, 0, none⟩ = some (.int .i64 0) := Br2.out.cell 0
  have yr1 : w2.cell? ⟨w.heap.size + 1 + 1, 1, none⟩ = some (.bool false) := Br2.out.cell 1
  have yr2 : w2.cell? ⟨w.heap.size + 1 + 1, 2, none⟩ = some (.string ⟨#[]⟩) := Br2.out.cell 2
  have yr3 : w2.cell? ⟨w.heap.size + 1 + 1, 3, none⟩ = some (.int .i64 0) := Br2.out.cell 3
  have fr0 := Br2.out.free 0
  have fr1 := Br2.out.free 1
  have fr2 := Br2.out.free 2
  have fr3 := Br2.out.free 3
  go_wp2
  refine bodyPost_ret (results_dec2 rfl _ _ _ _ _ _ _ rfl (Br2.out.put4 _ _ _ _)) rfl ?_
  exact ⟨rfl, below_put4 (HB2.out) (by omega) _ _ _ _⟩

set_option maxHeartbeats 2000000 in
theorem rStep_neg (ca : Int) (na : Bool) (ta : ByteArray) (ea : Int) (tb : ByteArray) (eb : Int) (m : Int) (w : World) (h : MayD ca na (bys ta) ea) (hb : MayD 0 true (bys tb) eb) (m1 : 0 ≤ m) (m2 : m < 8) : Calls Tryz.prog 17 #[dcV ca na ta ea, dcV 0 true tb eb, .int .i64 m] w fun e w' => e = .returned (.tuple #[dcV 0 false ⟨#[]⟩ 0, .int .i64 62]) ∧ Below w.heap.size w w' := by
  have K0 := hide (fun W => rmay_yes ca na ta ea W h)
  have K1 := hide (fun W => rmay_yes 0 true tb eb W hb)
  clear h hb
  have m7 : ¬ 7 < m := by omega
  have m0 : ¬ m < 0 := by omega
  have Ba0 := hide (((Blk.newAt w (w.heap.size) (rfl) #[.int .i64 ca, .bool na, .string ta, .int .i64 ea] 23).alloc (.cells #[.int .i64 0, .bool true, .string tb, .int .i64 eb] 23)).alloc (.cells #[.int .i64 0, .bool false, .string ⟨#[]⟩, .int .i64 0] 23))
  have Bb0 := hide ((Blk.newAt (w.alloc (.cells #[.int .i64 ca, .bool na, .string ta, .int .i64 ea] 23)) (w.heap.size + 1) (by simp) #[.int .i64 0, .bool true, .string tb, .int .i64 eb] 23).alloc (.cells #[.int .i64 0, .bool false, .string ⟨#[]⟩, .int .i64 0] 23))
  have Br0 := hide (Blk.newAt ((w.alloc (.cells #[.int .i64 ca, .bool na, .string ta, .int .i64 ea] 23)).alloc (.cells #[.int .i64 0, .bool true, .string tb, .int .i64 eb] 23)) (w.heap.size + 1 + 1) (by simp) #[.int .i64 0, .bool false, .string ⟨#[]⟩, .int .i64 0] 23)
  have HB0 : Hid (Below w.heap.size w (((w.alloc (.cells #[.int .i64 ca, .bool na, .string ta, .int .i64 ea] 23)).alloc (.cells #[.int .i64 0, .bool true, .string tb, .int .i64 eb] 23)).alloc (.cells #[.int .i64 0, .bool false, .string ⟨#[]⟩, .int .i64 0] 23))) := ((((Below.refl _ _).alloc (Nat.le_refl _) _).alloc (by simp <;> omega) _).alloc (by simp <;> omega) _)
  go_enter Tryz.func17, Tryz.ntmps17
  go_wp2_with fail
  refine (K0.out _).mono ?_
  rintro e w1 ⟨rfl, hb⟩
  have Ba1 := hide (Ba0.out.below hb Ba0.out.lt)
  have Bb1 := hide (Bb0.out.below hb Bb0.out.lt)
  have Br1 := hide (Br0.out.below hb Br0.out.lt)
  have HB1 := hide (HB0.out.trans (hb.mono HB0.out.size))
  clear hb Ba0 Bb0 Br0 HB0 
  have ya0 : w1.cell? ⟨w.heap.size, 0, none⟩ = some (.int .i64 ca) := Ba1.out.cell 0
  have ya1 : w1.cell? ⟨w.heap.size, 1, none⟩ = some (.bool na) := Ba1.out.cell 1
  have ya2 : w1.cell? ⟨w.heap.size, 2, none⟩ = some (.string ta) := Ba1.out.cell 2
  have ya3 : w1.cell? ⟨w.heap.size, 3, none⟩ = some (.int .i64 ea) := Ba1.out.cell 3
  have yb0 : w1.cell? ⟨w.heap.size + 1, 0, none⟩ = some (.int .i64 0) := Bb1.out.cell 0
  have yb1 : w1.cell? ⟨w.heap.size + 1, 1, none⟩ = some (.bool true) := Bb1.out.cell 1
  have yb2 : w1.cell? ⟨w.heap.size + 1, 2, none⟩ = some (.string tb) := Bb1.out.cell 2
  have yb3 : w1.cell? ⟨w.heap.size + 1, 3, none⟩ = some (.int .i64 eb) := Bb1.out.cell 3
  have yr0 : w1.cell? ⟨w.heap.size + 1 + 1, 0, none⟩ = some (.int .i64 0) := Br1.out.cell 0
  have yr1 : w1.cell? ⟨w.heap.size + 1 + 1, 1, none⟩ = some (.bool false) := Br1.out.cell 1
  have yr2 : w1.cell? ⟨w.heap.size + 1 + 1, 2, none⟩ = some (.string ⟨#[]⟩) := Br1.out.cell 2
  have yr3 : w1.cell? ⟨w.heap.size + 1 + 1, 3, none⟩ = some (.int .i64 0) := Br1.out.cell 3
  go_wp2_with fail
  refine (K1.out _).mono ?_
  rintro e w2 ⟨rfl, hb⟩
  have Ba2 := hide (Ba1.out.below hb Ba1.out.lt)
  have Bb2 := hide (Bb1.out.below hb Bb1.out.lt)
  have Br2 := hide (Br1.out.below hb Br1.out.lt)
  have HB2 := hide (HB1.out.trans (hb.mono HB1.out.size))
  clear hb Ba1 Bb1 Br1 HB1 ya0 ya1 ya2 ya3 yb0 yb1 yb2 yb3 yr0 yr1 yr2 yr3
  have ya0 : w2.cell? ⟨w.heap.size, 0, none⟩ = some (.int .i64 ca) := Ba2.out.cell 0
  have ya1 : w2.cell? ⟨w.heap.size, 1, none⟩ = some (.bool na) := Ba2.out.cell 1
  have ya2 : w2.cell? ⟨w.heap.size, 2, none⟩ = some (.string ta) := Ba2.out.cell 2
  have ya3 : w2.cell? ⟨w.heap.size, 3, none⟩ = some (.int .i64 ea) := Ba2.out.cell 3
  have yb0 : w2.cell? ⟨w.heap.size + 1, 0, none⟩ = some (.int .i64 0) := Bb2.out.cell 0
  have yb1 : w2.cell? ⟨w.heap.size + 1, 1, none⟩ = some (.bool true) := Bb2.out.cell 1
  have yb2 : w2.cell? ⟨w.heap.size + 1, 2, none⟩ = some (.string tb) := Bb2.out.cell 2
  have yb3 : w2.cell? ⟨w.heap.size + 1, 3, none⟩ = some (.int .i64 eb) := Bb2.out.cell 3
  have yr0 : w2.cell? ⟨w.heap.size + 1 + 1, 0, none⟩ = some (.int .i64 0) := Br2.out.cell 0
  have yr1 : w2.cell? ⟨w.heap.size + 1 + 1, 1, none⟩ = some (.bool false) := Br2.out.cell 1
  have yr2 : w2.cell? ⟨w.heap.size + 1 + 1, 2, none⟩ = some (.string ⟨#[]⟩) := Br2.out.cell 2
  have yr3 : w2.cell? ⟨w.heap.size + 1 + 1, 3, none⟩ = some (.int .i64 0) := Br2.out.cell 3
  have fr0 := Br2.out.free 0
  have fr1 := Br2.out.free 1
  have fr2 := Br2.out.free 2
  have fr3 := Br2.out.free 3
  go_wp2
  refine bodyPost_ret (results_dec2 rfl _ _ _ _ _ _ _ rfl (Br2.out.put4 _ _ _ _)) rfl ?_
  exact ⟨rfl, below_put4 (HB2.out) (by omega) _ _ _ _⟩

set_option maxHeartbeats 2000000 in
theorem rStep_bnil (ca : Int) (na : Bool) (ta : ByteArray) (ea : Int) (eb : Int) (m : Int) (w : World) (h : MayD ca na (bys ta) ea) (hb : MayD 0 false (bys ⟨#[]⟩) eb) (m1 : 0 ≤ m) (m2 : m < 8) : Calls Tryz.prog 17 #[dcV ca na ta ea, dcV 0 false ⟨#[]⟩ eb, .int .i64 m] w fun e w' => e = .returned (.tuple #[dcV 0 false ⟨#[]⟩ 0, .int .i64 62]) ∧ Below w.heap.size w w' := by
  have K0 := hide (fun W => rmay_yes ca na ta ea W h)
  have K1 := hide (fun W => rmay_yes 0 false ⟨#[]⟩ eb W hb)
  clear h hb
  have m7 : ¬ 7 < m := by omega
  have m0 : ¬ m < 0 := by omega
  have Ba0 := hide (((Blk.newAt w (w.heap.size) (rfl) #[.int .i64 ca, .bool na, .string ta, .int .i64 ea] 23).alloc (.cells #[.int .i64 0, .bool false, .string ⟨#[]⟩, .int .i64 eb] 23)).alloc (.cells #[.int .i64 0, .bool false, .string ⟨#[]⟩, .int .i64 0] 23))
  have Bb0 := hide ((Blk.newAt (w.alloc (.cells #[.int .i64 ca, .bool na, .string ta, .int .i64 ea] 23)) (w.heap.size + 1) (by simp) #[.int .i64 0, .bool false, .string ⟨#[]⟩, .int .i64 eb] 23).alloc (.cells #[.int .i64 0, .bool false, .string ⟨#[]⟩, .int .i64 0] 23))
  have Br0 := hide (Blk.newAt ((w.alloc (.cells #[.int .i64 ca, .bool na, .string ta, .int .i64 ea] 23)).alloc (.cells #[.int .i64 0, .bool false, .string ⟨#[]⟩, .int .i64 eb] 23)) (w.heap.size + 1 + 1) (by simp) #[.int .i64 0, .bool false, .string ⟨#[]⟩, .int .i64 0] 23)
  have HB0 : Hid (Below w.heap.size w (((w.alloc (.cells #[.int .i64 ca, .bool na, .string ta, .int .i64 ea] 23)).alloc (.cells #[.int .i64 0, .bool false, .string ⟨#[]⟩, .int .i64 eb] 23)).alloc (.cells #[.int .i64 0, .bool false, .string ⟨#[]⟩, .int .i64 0] 23))) := ((((Below.refl _ _).alloc (Nat.le_refl _) _).alloc (by simp <;> omega) _).alloc (by simp <;> omega) _)
  go_enter Tryz.func17, Tryz.ntmps17
  go_wp2_with fail
  refine (K0.out _).mono ?_
  rintro e w1 ⟨rfl, hb⟩
  have Ba1 := hide (Ba0.out.below hb Ba0.out.lt)
  have Bb1 := hide (Bb0.out.below hb Bb0.out.lt)
  have Br1 := hide (Br0.out.below hb Br0.out.lt)
  have HB1 := hide (HB0.out.trans (hb.mono HB0.out.size))
  clear hb Ba0 Bb0 Br0 HB0 
  have ya0 : w1.cell? ⟨w.heap.size, 0, none⟩ = some (.int .i64 ca) := Ba1.out.cell 0
  have ya1 : w1.cell? ⟨w.heap.size, 1, none⟩ = some (.bool na) := Ba1.out.cell 1
  have ya2 : w1.cell? ⟨w.heap.size, 2, none⟩ = some (.string ta) := Ba1.out.cell 2
  have ya3 : w1.cell? ⟨w.heap.size, 3, none⟩ = some (.int .i64 ea) := Ba1.out.cell 3
  have yb0 : w1.cell? ⟨w.heap.size + 1, 0, none⟩ = some (.int .i64 0) := Bb1.out.cell 0
  have yb1 : w1.cell? ⟨w.heap.size + 1, 1, none⟩ = some (.bool false) := Bb1.out.cell 1
  have yb2 : w1.cell? ⟨w.heap.size + 1, 2, none⟩ = some (.string ⟨#[]⟩) := Bb1.out.cell 2
  have yb3 : w1.cell? ⟨w.heap.size + 1, 3, none⟩ = some (.int .i64 eb) := Bb1.out.cell 3
  have yr0 : w1.cell? ⟨w.heap.size + 1 + 1, 0, none⟩ = some (.int .i64 0) := Br1.out.cell 0
  have yr1 : w1.cell? ⟨w.heap.size + 1 + 1, 1, none⟩ = some (.bool false) := Br1.out.cell 1
  have yr2 : w1.cell? ⟨w.heap.size + 1 + 1, 2, none⟩ = some (.string ⟨#[]⟩) := Br1.out.cell 2
  have yr3 : w1.cell? ⟨w.heap.size + 1 + 1, 3, none⟩ = some (.int .i64 0) := Br1.out.cell 3
  go_wp2_with fail
  refine (K1.out _).mono ?_
  rintro e w2 ⟨rfl, hb⟩
  have Ba2 := hide (Ba1.out.below hb Ba1.out.lt)
  have Bb2 := hide (Bb1.out.below hb Bb1.out.lt)
  have Br2 := hide (Br1.out.below hb Br1.out.lt)
  have HB2 := hide (HB1.out.trans (hb.mono HB1.out.size))
  clear hb Ba1 Bb1 Br1 HB1 ya0 ya1 ya2 ya3 yb0 yb1 yb2 yb3 yr0 yr1 yr2 yr3
  have ya0 : w2.cell? ⟨w.heap.size, 0, none⟩ = some (.int .i64 ca) := Ba2.out.cell 0
  have ya1 : w2.cell? ⟨w.heap.size, 1, none⟩ = some (.bool na) := Ba2.out.cell 1
  have ya2 : w2.cell? ⟨w.heap.size, 2, none⟩ = some (.string ta) := Ba2.out.cell 2
  have ya3 : w2.cell? ⟨w.heap.size, 3, none⟩ = some (.int .i64 ea) := Ba2.out.cell 3
  have yb0 : w2.cell? ⟨w.heap.size + 1, 0, none⟩ = some (.int .i64 0) := Bb2.out.cell 0
  have yb1 : w2.cell? ⟨w.heap.size + 1, 1, none⟩ = some (.bool false) := Bb2.out.cell 1
  have yb2 : w2.cell? ⟨w.heap.size + 1, 2, none⟩ = some (.string ⟨#[]⟩) := Bb2.out.cell 2
  have yb3 : w2.cell? ⟨w.heap.size + 1, 3, none⟩ = some (.int .i64 eb) := Bb2.out.cell 3
  have yr0 : w2.cell? ⟨w.heap.size + 1 + 1, 0, none⟩ = some (.int .i64 0) := Br2.out.cell 0
  have yr1 : w2.cell? ⟨w.heap.size + 1 + 1, 1, none⟩ = some (.bool false) := Br2.out.cell 1
  have yr2 : w2.cell? ⟨w.heap.size + 1 + 1, 2, none⟩ = some (.string ⟨#[]⟩) := Br2.out.cell 2
  have yr3 : w2.cell? ⟨w.heap.size + 1 + 1, 3, none⟩ = some (.int .i64 0) := Br2.out.cell 3
  have fr0 := Br2.out.free 0
  have fr1 := Br2.out.free 1
  have fr2 := Br2.out.free 2
  have fr3 := Br2.out.free 3
  go_wp2
  refine bodyPost_ret (results_dec2 rfl _ _ _ _ _ _ _ rfl (Br2.out.put4 _ _ _ _)) rfl ?_
  exact ⟨rfl, below_put4 (HB2.out) (by omega) _ _ _ _⟩

set_option maxHeartbeats 2000000 in
theorem rStep_long (ca : Int) (na : Bool) (ta : ByteArray) (ea : Int) (tb : ByteArray) (eb : Int) (m : Int) (w : World) (h : MayD ca na (bys ta) ea) (hb : MayD 0 false (bys tb) eb) (m1 : 0 ≤ m) (m2 : m < 8) (hz : tb.size ≠ 0) (hl : 32 < tb.size) : Calls Tryz.prog 17 #[dcV ca na ta ea, dcV 0 false tb eb, .int .i64 m] w fun e w' => e = .returned (.tuple #[dcV 0 false ⟨#[]⟩ 0, .int .i64 62]) ∧ Below w.heap.size w w' := by
  have K0 := hide (fun W => rmay_yes ca na ta ea W h)
  have K1 := hide (fun W => rmay_yes 0 false tb eb W hb)
  clear h hb
  have m7 : ¬ 7 < m := by omega
  have m0 : ¬ m < 0 := by omega
  have hz2 := toList_ne hz
  have Ba0 := hide (((Blk.newAt w (w.heap.size) (rfl) #[.int .i64 ca, .bool na, .string ta, .int .i64 ea] 23).alloc (.cells #[.int .i64 0, .bool false, .string tb, .int .i64 eb] 23)).alloc (.cells #[.int .i64 0, .bool false, .string ⟨#[]⟩, .int .i64 0] 23))
  have Bb0 := hide ((Blk.newAt (w.alloc (.cells #[.int .i64 ca, .bool na, .string ta, .int .i64 ea] 23)) (w.heap.size + 1) (by simp) #[.int .i64 0, .bool false, .string tb, .int .i64 eb] 23).alloc (.cells #[.int .i64 0, .bool false, .string ⟨#[]⟩, .int .i64 0] 23))
  have Br0 := hide (Blk.newAt ((w.alloc (.cells #[.int .i64 ca, .bool na, .string ta, .int .i64 ea] 23)).alloc (.cells #[.int .i64 0, .bool false, .string tb, .int .i64 eb] 23)) (w.heap.size + 1 + 1) (by simp) #[.int .i64 0, .bool false, .string ⟨#[]⟩, .int .i64 0] 23)
  have HB0 : Hid (Below w.heap.size w (((w.alloc (.cells #[.int .i64 ca, .bool na, .string ta, .int .i64 ea] 23)).alloc (.cells #[.int .i64 0, .bool false, .string tb, .int .i64 eb] 23)).alloc (.cells #[.int .i64 0, .bool false, .string ⟨#[]⟩, .int .i64 0] 23))) := ((((Below.refl _ _).alloc (Nat.le_refl _) _).alloc (by simp <;> omega) _).alloc (by simp <;> omega) _)
  go_enter Tryz.func17, Tryz.ntmps17
  go_wp2_with fail
  refine (K0.out _).mono ?_
  rintro e w1 ⟨rfl, hb⟩
  have Ba1 := hide (Ba0.out.below hb Ba0.out.lt)
  have Bb1 := hide (Bb0.out.below hb Bb0.out.lt)
  have Br1 := hide (Br0.out.below hb Br0.out.lt)
  have HB1 := hide (HB0.out.trans (hb.mono HB0.out.size))
  clear hb Ba0 Bb0 Br0 HB0 
  have ya0 : w1.cell? ⟨w.heap.size, 0, none⟩ = some (.int .i64 ca) := Ba1.out.cell 0
  have ya1 : w1.cell? ⟨w.heap.size, 1, none⟩ = some (.bool na) := Ba1.out.cell 1
  have ya2 : w1.cell? ⟨w.heap.size, 2, none⟩ = some (.string ta) := Ba1.out.cell 2
  have ya3 : w1.cell? ⟨w.heap.size, 3, none⟩ = some (.int .i64 ea) := Ba1.out.cell 3
  have yb0 : w1.cell? ⟨w.heap.size + 1, 0, none⟩ = some (.int .i64 0) := Bb1.out.cell 0
  have yb1 : w1.cell? ⟨w.heap.size + 1, 1, none⟩ = some (.bool false) := Bb1.out.cell 1
  have yb2 : w1.cell? ⟨w.heap.size + 1, 2, none⟩ = some (.string tb) := Bb1.out.cell 2
  have yb3 : w1.cell? ⟨w.heap.size + 1, 3, none⟩ = some (.int .i64 eb) := Bb1.out.cell 3
  have yr0 : w1.cell? ⟨w.heap.size + 1 + 1, 0, none⟩ = some (.int .i64 0) := Br1.out.cell 0
  have yr1 : w1.cell? ⟨w.heap.size + 1 + 1, 1, none⟩ = some (.bool false) := Br1.out.cell 1
  have yr2 : w1.cell? ⟨w.heap.size + 1 + 1, 2, none⟩ = some (.string ⟨#[]⟩) := Br1.out.cell 2
  have yr3 : w1.cell? ⟨w.heap.size + 1 + 1, 3, none⟩ = some (.int .i64 0) := Br1.out.cell 3
  go_wp2_with fail
  refine (K1.out _).mono ?_
  rintro e w2 ⟨rfl, hb⟩
  have Ba2 := hide (Ba1.out.below hb Ba1.out.lt)
  have Bb2 := hide (Bb1.out.below hb Bb1.out.lt)
  have Br2 := hide (Br1.out.below hb Br1.out.lt)
  have HB2 := hide (HB1.out.trans (hb.mono HB1.out.size))
  clear hb Ba1 Bb1 Br1 HB1 ya0 ya1 ya2 ya3 yb0 yb1 yb2 yb3 yr0 yr1 yr2 yr3
  have ya0 : w2.cell? ⟨w.heap.size, 0, none⟩ = some (.int .i64 ca) := Ba2.out.cell 0
  have ya1 : w2.cell? ⟨w.heap.size, 1, none⟩ = some (.bool na) := Ba2.out.cell 1
  have ya2 : w2.cell? ⟨w.heap.size, 2, none⟩ = some (.string ta) := Ba2.out.cell 2
  have ya3 : w2.cell? ⟨w.heap.size, 3, none⟩ = some (.int .i64 ea) := Ba2.out.cell 3
  have yb0 : w2.cell? ⟨w.heap.size + 1, 0, none⟩ = some (.int .i64 0) := Bb2.out.cell 0
  have yb1 : w2.cell? ⟨w.heap.size + 1, 1, none⟩ = some (.bool false) := Bb2.out.cell 1
  have yb2 : w2.cell? ⟨w.heap.size + 1, 2, none⟩ = some (.string tb) := Bb2.out.cell 2
  have yb3 : w2.cell? ⟨w.heap.size + 1, 3, none⟩ = some (.int .i64 eb) := Bb2.out.cell 3
  have yr0 : w2.cell? ⟨w.heap.size + 1 + 1, 0, none⟩ = some (.int .i64 0) := Br2.out.cell 0
  have yr1 : w2.cell? ⟨w.heap.size + 1 + 1, 1, none⟩ = some (.bool false) := Br2.out.cell 1
  have yr2 : w2.cell? ⟨w.heap.size + 1 + 1, 2, none⟩ = some (.string ⟨#[]⟩) := Br2.out.cell 2
  have yr3 : w2.cell? ⟨w.heap.size + 1 + 1, 3, none⟩ = some (.int .i64 0) := Br2.out.cell 3
  have fr0 := Br2.out.free 0
  have fr1 := Br2.out.free 1
  have fr2 := Br2.out.free 2
  have fr3 := Br2.out.free 3
  go_wp2
  refine bodyPost_ret (results_dec2 rfl _ _ _ _ _ _ _ rfl (Br2.out.put4 _ _ _ _)) rfl ?_
  exact ⟨rfl, below_put4 (HB2.out) (by omega) _ _ _ _⟩

set_option maxHeartbeats 2000000 in
theorem rStep_nil (ca : Int) (na : Bool) (ea : Int) (tb : ByteArray) (eb : Int) (m : Int) (w : World) (h : MayD ca na (bys ⟨#[]⟩) ea) (hb : MayD 0 false (bys tb) eb) (m1 : 0 ≤ m) (m2 : m < 8) (hz : tb.size ≠ 0) (hl : tb.size ≤ 32) : Calls Tryz.prog 17 #[dcV ca na ⟨#[]⟩ ea, dcV 0 false tb eb, .int .i64 m] w fun e w' => e = .returned (.tuple #[dcV ca na ⟨#[]⟩ ea, .int .i64 0]) ∧ Below w.heap.size w w' := by
  have K0 := hide (fun W => rmay_yes ca na ⟨#[]⟩ ea W h)
  have K1 := hide (fun W => rmay_yes 0 false tb eb W hb)
  clear h hb
  have m7 : ¬ 7 < m := by omega
  have m0 : ¬ m < 0 := by omega
  have hz2 := toList_ne hz
  have Ba0 := hide (((Blk.newAt w (w.heap.size) (rfl) #[.int .i64 ca, .bool na, .string ⟨#[]⟩, .int .i64 ea] 23).alloc (.cells #[.int .i64 0, .bool false, .string tb, .int .i64 eb] 23)).alloc (.cells #[.int .i64 0, .bool false, .string ⟨#[]⟩, .int .i64 0] 23))
  have Bb0 := hide ((Blk.newAt (w.alloc (.cells #[.int .i64 ca, .bool na, .string ⟨#[]⟩, .int .i64 ea] 23)) (w.heap.size + 1) (by simp) #[.int .i64 0, .bool false, .string tb, .int .i64 eb] 23).alloc (.cells #[.int .i64 0, .bool false, .string ⟨#[]⟩, .int .i64 0] 23))
  have Br0 := hide (Blk.newAt ((w.alloc (.cells #[.int .i64 ca, .bool na, .string ⟨#[]⟩, .int .i64 ea] 23)).alloc (.cells #[.int .i64 0, .bool false, .string tb, .int .i64 eb] 23)) (w.heap.size + 1 + 1) (by simp) #[.int .i64 0, .bool false, .string ⟨#[]⟩, .int .i64 0] 23)
  have HB0 : Hid (Below w.heap.size w (((w.alloc (.cells #[.int .i64 ca, .bool na, .string ⟨#[]⟩, .int .i64 ea] 23)).alloc (.cells #[.int .i64 0, .bool false, .string tb, .int .i64 eb] 23)).alloc (.cells #[.int .i64 0, .bool false, .string ⟨#[]⟩, .int .i64 0] 23))) := ((((Below.refl _ _).alloc (Nat.le_refl _) _).alloc (by simp <;> omega) _).alloc (by simp <;> omega) _)
  go_enter Tryz.func17, Tryz.ntmps17
  go_wp2_with fail
  refine (K0.out _).mono ?_
  rintro e w1 ⟨rfl, hb⟩
  have Ba1 := hide (Ba0.out.below hb Ba0.out.lt)
  have Bb1 := hide (Bb0.out.below hb Bb0.out.lt)
  have Br1 := hide (Br0.out.below hb Br0.out.lt)
  have HB1 := hide (HB0.out.trans (hb.mono HB0.out.size))
  clear hb Ba0 Bb0 Br0 HB0 
  have ya0 : w1.cell? ⟨w.heap.size, 0, none⟩ = some (.int .i64 ca) := Ba1.out.cell 0
  have ya1 : w1.cell? ⟨w.heap.size, 1, none⟩ = some (.bool na) := Ba1.out.cell 1
  have ya2 : w1.cell? ⟨w.heap.size, 2, none⟩ = some (.string ⟨#[]⟩) := Ba1.out.cell 2
  have ya3 : w1.cell? ⟨w.heap.size, 3, none⟩ = some (.int .i64 ea) := Ba1.out.cell 3
  have yb0 : w1.cell? ⟨w.heap.size + 1, 0, none⟩ = some (.int .i64 0) := Bb1.out.cell 0
  have yb1 : w1.cell? ⟨w.heap.size + 1, 1, none⟩ = some (.bool false) := Bb1.out.cell 1
  have yb2 : w1.cell? ⟨w.heap.size + 1, 2, none⟩ = some (.string tb) := Bb1.out.cell 2
  have yb3 : w1.cell? ⟨w.heap.size + 1, 3, none⟩ = some (.int .i64 eb) := Bb1.out.cell 3
  have yr0 : w1.cell? ⟨w.heap.size + 1 + 1, 0, none⟩ = some (.int .i64 0) := Br1.out.cell 0
  have yr1 : w1.cell? ⟨w.heap.size + 1 + 1, 1, none⟩ = some (.bool false) := Br1.out.cell 1
  have yr2 : w1.cell? ⟨w.heap.size + 1 + 1, 2, none⟩ = some (.string ⟨#[]⟩) := Br1.out.cell 2
  have yr3 : w1.cell? ⟨w.heap.size + 1 + 1, 3, none⟩ = some (.int .i64 0) := Br1.out.cell 3
  go_wp2_with fail
  refine (K1.out _).mono ?_
  rintro e w2 ⟨rfl, hb⟩
  have Ba2 := hide (Ba1.out.below hb Ba1.out.lt)
  have Bb2 := hide (Bb1.out.below hb Bb1.out.lt)
  have Br2 := hide (Br1.out.below hb Br1.out.lt)
  have HB2 := hide (HB1.out.trans (hb.mono HB1.out.size))
  clear hb Ba1 Bb1 Br1 HB1 ya0 ya1 ya2 ya3 yb0 yb1 yb2 yb3 yr0 yr1 yr2 yr3
  have ya0 : w2.cell? ⟨w.heap.size, 0, none⟩ = some (.int .i64 ca) := Ba2.out.cell 0
  have ya1 : w2.cell? ⟨w.heap.size, 1, none⟩ = some (.bool na) := Ba2.out.cell 1
  have ya2 : w2.cell? ⟨w.heap.size, 2, none⟩ = some (.string ⟨#[]⟩) := Ba2.out.cell 2
  have ya3 : w2.cell? ⟨w.heap.size, 3, none⟩ = some (.int .i64 ea) := Ba2.out.cell 3
  have yb0 : w2.cell? ⟨w.heap.size + 1, 0, none⟩ = some (.int .i64 0) := Bb2.out.cell 0
  have yb1 : w2.cell? ⟨w.heap.size + 1, 1, none⟩ = some (.bool false) := Bb2.out.cell 1
  have yb2 : w2.cell? ⟨w.heap.size + 1, 2, none⟩ = some (.string tb) := Bb2.out.cell 2
  have yb3 : w2.cell? ⟨w.heap.size + 1, 3, none⟩ = some (.int .i64 eb) := Bb2.out.cell 3
  have yr0 : w2.cell? ⟨w.heap.size + 1 + 1, 0, none⟩ = some (.int .i64 0) := Br2.out.cell 0
  have yr1 : w2.cell? ⟨w.heap.size + 1 + 1, 1, none⟩ = some (.bool false) := Br2.out.cell 1
  have yr2 : w2.cell? ⟨w.heap.size + 1 + 1, 2, none⟩ = some (.string ⟨#[]⟩) := Br2.out.cell 2
  have yr3 : w2.cell? ⟨w.heap.size + 1 + 1, 3, none⟩ = some (.int .i64 0) := Br2.out.cell 3
  have fr0 := Br2.out.free 0
  have fr1 := Br2.out.free 1
  have fr2 := Br2.out.free 2
  have fr3 := Br2.out.free 3
  go_wp2
  refine bodyPost_ret (results_dec2 rfl _ _ _ _ _ _ _ rfl (Br2.out.put4 _ _ _ _)) rfl ?_
  exact ⟨rfl, below_put4 (HB2.out) (by omega) _ _ _ _⟩

set_option maxHeartbeats 4000000 in
theorem rStep_in (ca : Int) (na : Bool) (ta : ByteArray) (ea : Int) (tb : ByteArray) (eb : Int) (m : Int) (cr : Int) (nr : Bool) (tr : ByteArray) (er f : Int) (w : World) (h : MayD ca na (bys ta) ea) (hb : MayD 0 false (bys tb) eb) (m1 : 0 ≤ m) (m2 : m < 8) (hz : tb.size ≠ 0) (hl : tb.size ≤ 32) (ha : ta.size ≠ 0) (hO : ∀ X, Calls Tryz.prog 31 #[dcV 0 false tb eb] X fun e w' => (∃ s o l c, e = .returned (.agg #[.bool s, .slice o l c, .int .i64 eb]) ∧ Hid (RI w' s o l c ((decV (bys tb) : Nat) : Int) 1002 0)) ∧ Below X.heap.size X w') (hU : ∀ X (s : Bool) (o : Option Addr) (l c : Nat), RI X s o l c ((decV (bys tb) : Nat) : Int) 1002 0 → Calls Tryz.prog 35 #[dcV ca na ta ea, .agg #[.bool s, .slice o l c, .int .i64 eb], .int .i64 m] X fun e w' => e = .returned (.tuple #[.agg #[.int .i64 cr, .bool nr, .string tr, .int .i64 er], .int .i64 f]) ∧ Below X.heap.size X w') : Calls Tryz.prog 17 #[dcV ca na ta ea, dcV 0 false tb eb, .int .i64 m] w fun e w' => e = .returned (.tuple #[.agg #[.int .i64 cr, .bool nr, .string tr, .int .i64 er], .int .i64 f]) ∧ Below w.heap.size w w' := by
  have K0 := hide (fun W => rmay_yes ca na ta ea W h)
  have K1 := hide (fun W => rmay_yes 0 false tb eb W hb)
  clear h hb
  have m7 : ¬ 7 < m := by omega
  have m0 : ¬ m < 0 := by omega
  have hz2 := toList_ne hz
  have hz3 := toList_ne ha
  have MU := hide hU
  have KO := hide hO
  clear hU hO
  have Ba0 := hide (((Blk.newAt w (w.heap.size) (rfl) #[.int .i64 ca, .bool na, .string ta, .int .i64 ea] 23).alloc (.cells #[.int .i64 0, .bool false, .string tb, .int .i64 eb] 23)).alloc (.cells #[.int .i64 0, .bool false, .string ⟨#[]⟩, .int .i64 0] 23))
  have Bb0 := hide ((Blk.newAt (w.alloc (.cells #[.int .i64 ca, .bool na, .string ta, .int .i64 ea] 23)) (w.heap.size + 1) (by simp) #[.int .i64 0, .bool false, .string tb, .int .i64 eb] 23).alloc (.cells #[.int .i64 0, .bool false, .string ⟨#[]⟩, .int .i64 0] 23))
  have Br0 := hide (Blk.newAt ((w.alloc (.cells #[.int .i64 ca, .bool na, .string ta, .int .i64 ea] 23)).alloc (.cells #[.int .i64 0, .bool false, .string tb, .int .i64 eb] 23)) (w.heap.size + 1 + 1) (by simp) #[.int .i64 0, .bool false, .string ⟨#[]⟩, .int .i64 0] 23)
  have HB0 : Hid (Below w.heap.size w (((w.alloc (.cells #[.int .i64 ca, .bool na, .string ta, .int .i64 ea] 23)).alloc (.cells #[.int .i64 0, .bool false, .string tb, .int .i64 eb] 23)).alloc (.cells #[.int .i64 0, .bool false, .string ⟨#[]⟩, .int .i64 0] 23))) := ((((Below.refl _ _).alloc (Nat.le_refl _) _).alloc (by simp <;> omega) _).alloc (by simp <;> omega) _)
  go_enter Tryz.func17, Tryz.ntmps17
  go_wp2_with fail
  refine (K0.out _).mono ?_
  rintro e w1 ⟨rfl, hb⟩
  clear K0
  have Ba1 := hide (Ba0.out.below hb Ba0.out.lt)
  have Bb1 := hide (Bb0.out.below hb Bb0.out.lt)
  have Br1 := hide (Br0.out.below hb Br0.out.lt)
  have HB1 := hide (HB0.out.trans (hb.mono HB0.out.size))
  clear hb Ba0 Bb0 Br0 HB0 
  have ya0 : w1.cell? ⟨w.heap.size, 0, none⟩ = some (.int .i64 ca) := Ba1.out.cell 0
  have ya1 : w1.cell? ⟨w.heap.size, 1, none⟩ = some (.bool na) := Ba1.out.cell 1
  have ya2 : w1.cell? ⟨w.heap.size, 2, none⟩ = some (.string ta) := Ba1.out.cell 2
  have ya3 : w1.cell? ⟨w.heap.size, 3, none⟩ = some (.int .i64 ea) := Ba1.out.cell 3
  have yb0 : w1.cell? ⟨w.heap.size + 1, 0, none⟩ = some (.int .i64 0) := Bb1.out.cell 0
  have yb1 : w1.cell? ⟨w.heap.size + 1, 1, none⟩ = some (.bool false) := Bb1.out.cell 1
  have yb2 : w1.cell? ⟨w.heap.size + 1, 2, none⟩ = some (.string tb) := Bb1.out.cell 2
  have yb3 : w1.cell? ⟨w.heap.size + 1, 3, none⟩ = some (.int .i64 eb) := Bb1.out.cell 3
  have yr0 : w1.cell? ⟨w.heap.size + 1 + 1, 0, none⟩ = some (.int .i64 0) := Br1.out.cell 0
  have yr1 : w1.cell? ⟨w.heap.size + 1 + 1, 1, none⟩ = some (.bool false) := Br1.out.cell 1
  have yr2 : w1.cell? ⟨w.heap.size + 1 + 1, 2, none⟩ = some (.string ⟨#[]⟩) := Br1.out.cell 2
  have yr3 : w1.cell? ⟨w.heap.size + 1 + 1, 3, none⟩ = some (.int .i64 0) := Br1.out.cell 3
  go_wp2_with fail
  refine (K1.out _).mono ?_
  rintro e w2 ⟨rfl, hb⟩
  clear K1
  have Ba2 := hide (Ba1.out.below hb Ba1.out.lt)
  have Bb2 := hide (Bb1.out.below hb Bb1.out.lt)
  have Br2 := hide (Br1.out.below hb Br1.out.lt)
  have HB2 := hide (HB1.out.trans (hb.mono HB1.out.size))
  clear hb Ba1 Bb1 Br1 HB1 ya0 ya1 ya2 ya3 yb0 yb1 yb2 yb3 yr0 yr1 yr2 yr3
  have ya0 : w2.cell? ⟨w.heap.size, 0, none⟩ = some (.int .i64 ca) := Ba2.out.cell 0
  have ya1 : w2.cell? ⟨w.heap.size, 1, none⟩ = some (.bool na) := Ba2.out.cell 1
  have ya2 : w2.cell? ⟨w.heap.size, 2, none⟩ = some (.string ta) := Ba2.out.cell 2
  have ya3 : w2.cell? ⟨w.heap.size, 3, none⟩ = some (.int .i64 ea) := Ba2.out.cell 3
  have yb0 : w2.cell? ⟨w.heap.size + 1, 0, none⟩ = some (.int .i64 0) := Bb2.out.cell 0
  have yb1 : w2.cell? ⟨w.heap.size + 1, 1, none⟩ = some (.bool false) := Bb2.out.cell 1
  have yb2 : w2.cell? ⟨w.heap.size + 1, 2, none⟩ = some (.string tb) := Bb2.out.cell 2
  have yb3 : w2.cell? ⟨w.heap.size + 1, 3, none⟩ = some (.int .i64 eb) := Bb2.out.cell 3
  have yr0 : w2.cell? ⟨w.heap.size + 1 + 1, 0, none⟩ = some (.int .i64 0) := Br2.out.cell 0
  have yr1 : w2.cell? ⟨w.heap.size + 1 + 1, 1, none⟩ = some (.bool false) := Br2.out.cell 1
  have yr2 : w2.cell? ⟨w.heap.size + 1 + 1, 2, none⟩ = some (.string ⟨#[]⟩) := Br2.out.cell 2
  have yr3 : w2.cell? ⟨w.heap.size + 1 + 1, 3, none⟩ = some (.int .i64 0) := Br2.out.cell 3
  have HL : Hid (w.heap.size < w2.heap.size ∧ w.heap.size + 1 < w2.heap.size ∧ w.heap.size + 1 + 1 < w2.heap.size) := ⟨Ba2.out.lt, Bb2.out.lt, Br2.out.lt⟩
  obtain ⟨G, hG⟩ : ∃ G, G = w.heap.size + 1 + 1 := ⟨_, rfl⟩
  have gn0 : ¬ G = w.heap.size := by omega
  have gn1 : ¬ w.heap.size = G := by omega
  have gn2 : ¬ G = w.heap.size + 1 := by omega
  have gn3 : ¬ w.heap.size + 1 = G := by omega
  have gle : w.heap.size ≤ G := by omega
  have HG := hide hG
  rw [← hG] at Br2
  clear hG HL ya0 ya1 ya2 ya3 yb0 yb1 yb2 yb3 yr0 yr1 yr2 yr3
  have d0 : w2.cell? ⟨w.heap.size, 0, none⟩ = some (.int .i64 ca) := Ba2.out.cell 0
  have d1 : w2.cell? ⟨w.heap.size, 1, none⟩ = some (.bool na) := Ba2.out.cell 1
  have d2 : w2.cell? ⟨w.heap.size, 2, none⟩ = some (.string ta) := Ba2.out.cell 2
  have d3 : w2.cell? ⟨w.heap.size, 3, none⟩ = some (.int .i64 ea) := Ba2.out.cell 3
  have d4 : w2.cell? ⟨w.heap.size + 1, 0, none⟩ = some (.int .i64 0) := Bb2.out.cell 0
  have d5 : w2.cell? ⟨w.heap.size + 1, 1, none⟩ = some (.bool false) := Bb2.out.cell 1
  have d6 : w2.cell? ⟨w.heap.size + 1, 2, none⟩ = some (.string tb) := Bb2.out.cell 2
  have d7 : w2.cell? ⟨w.heap.size + 1, 3, none⟩ = some (.int .i64 eb) := Bb2.out.cell 3
  have HC : Hid (∀ w', Below w2.heap.size w2 w' → w'.cell? ⟨w.heap.size, 0, none⟩ = some (.int .i64 ca) ∧ w'.cell? ⟨w.heap.size, 1, none⟩ = some (.bool na) ∧ w'.cell? ⟨w.heap.size, 2, none⟩ = some (.string ta) ∧ w'.cell? ⟨w.heap.size, 3, none⟩ = some (.int .i64 ea) ∧ w'.cell? ⟨w.heap.size + 1, 0, none⟩ = some (.int .i64 0) ∧ w'.cell? ⟨w.heap.size + 1, 1, none⟩ = some (.bool false) ∧ w'.cell? ⟨w.heap.size + 1, 2, none⟩ = some (.string tb) ∧ w'.cell? ⟨w.heap.size + 1, 3, none⟩ = some (.int .i64 eb) ∧ w'.cell? ⟨G, 0, none⟩ = some (.int .i64 0) ∧ w'.cell? ⟨G, 1, none⟩ = some (.bool false) ∧ w'.cell? ⟨G, 2, none⟩ = some (.string ⟨#[]⟩) ∧ w'.cell? ⟨G, 3, none⟩ = some (.int .i64 0) ∧ w'.frozen? ⟨G, 0, none⟩ = false ∧ w'.frozen? ⟨G, 1, none⟩ = false ∧ w'.frozen? ⟨G, 2, none⟩ = false ∧ w'.frozen? ⟨G, 3, none⟩ = false) := by
    intro w' hb
    have Ba2q := Ba2.out.below hb Ba2.out.lt
    have Bb2q := Bb2.out.below hb Bb2.out.lt
    have Br2q := Br2.out.below hb Br2.out.lt
    exact ⟨Ba2q.cell 0, Ba2q.cell 1, Ba2q.cell 2, Ba2q.cell 3, Bb2q.cell 0, Bb2q.cell 1, Bb2q.cell 2, Bb2q.cell 3, Br2q.cell 0, Br2q.cell 1, Br2q.cell 2, Br2q.cell 3, Br2q.free 0, Br2q.free 1, Br2q.free 2, Br2q.free 3⟩
  have b0 : Hid (Below w2.heap.size w2 w2.drew) := bdrewD w2
  have C0 : Hid (∀ X, Hid (Below w2.heap.size w2 X) → Calls Tryz.prog 31 #[dcV 0 false tb eb] X fun e w' => (∃ s o l c, e = .returned (.agg #[.bool s, .slice o l c, .int .i64 eb]) ∧ Hid (RI w' s o l c ((decV (bys tb) : Nat) : Int) 1002 0)) ∧ Hid (Below w2.heap.size w2 w') ∧ w'.cell? ⟨w.heap.size, 0, none⟩ = some (.int .i64 ca) ∧ w'.cell? ⟨w.heap.size, 1, none⟩ = some (.bool na) ∧ w'.cell? ⟨w.heap.size, 2, none⟩ = some (.string ta) ∧ w'.cell? ⟨w.heap.size, 3, none⟩ = some (.int .i64 ea) ∧ w'.cell? ⟨w.heap.size + 1, 0, none⟩ = some (.int .i64 0) ∧ w'.cell? ⟨w.heap.size + 1, 1, none⟩ = some (.bool false) ∧ w'.cell? ⟨w.heap.size + 1, 2, none⟩ = some (.string tb) ∧ w'.cell? ⟨w.heap.size + 1, 3, none⟩ = some (.int .i64 eb) ∧ w'.cell? ⟨G, 0, none⟩ = some (.int .i64 0) ∧ w'.cell? ⟨G, 1, none⟩ = some (.bool false) ∧ w'.cell? ⟨G, 2, none⟩ = some (.string ⟨#[]⟩) ∧ w'.cell? ⟨G, 3, none⟩ = some (.int .i64 0) ∧ w'.frozen? ⟨G, 0, none⟩ = false ∧ w'.frozen? ⟨G, 1, none⟩ = false ∧ w'.frozen? ⟨G, 2, none⟩ = false ∧ w'.frozen? ⟨G, 3, none⟩ = false) := by
    intro X  bX 
    refine (KO.out X).mono ?_
    rintro e w' ⟨⟨s, o, l, c, rfl, hz⟩, hb⟩
    have bb := bX.out.trans (hb.mono bX.out.size)
    exact ⟨⟨s, o, l, c, rfl, hz⟩, bb, HC.out _ bb⟩
  have C1 : Hid (∀ X (s : Bool) (o : Option Addr) (l c : Nat), Hid (Below w2.heap.size w2 X) → RI X s o l c ((decV (bys tb) : Nat) : Int) 1002 0 → Calls Tryz.prog 35 #[dcV ca na ta ea, .agg #[.bool s, .slice o l c, .int .i64 eb], .int .i64 m] X fun e w' => e = .returned (.tuple #[.agg #[.int .i64 cr, .bool nr, .string tr, .int .i64 er], .int .i64 f]) ∧ Hid (Below w2.heap.size w2 w') ∧ w'.cell? ⟨w.heap.size, 0, none⟩ = some (.int .i64 ca) ∧ w'.cell? ⟨w.heap.size, 1, none⟩ = some (.bool na) ∧ w'.cell? ⟨w.heap.size, 2, none⟩ = some (.string ta) ∧ w'.cell? ⟨w.heap.size, 3, none⟩ = some (.int .i64 ea) ∧ w'.cell? ⟨w.heap.size + 1, 0, none⟩ = some (.int .i64 0) ∧ w'.cell? ⟨w.heap.size + 1, 1, none⟩ = some (.bool false) ∧ w'.cell? ⟨w.heap.size + 1, 2, none⟩ = some (.string tb) ∧ w'.cell? ⟨w.heap.size + 1, 3, none⟩ = some (.int .i64 eb) ∧ w'.cell? ⟨G, 0, none⟩ = some (.int .i64 0) ∧ w'.cell? ⟨G, 1, none⟩ = some (.bool false) ∧ w'.cell? ⟨G, 2, none⟩ = some (.string ⟨#[]⟩) ∧ w'.cell? ⟨G, 3, none⟩ = some (.int .i64 0) ∧ w'.frozen? ⟨G, 0, none⟩ = false ∧ w'.frozen? ⟨G, 1, none⟩ = false ∧ w'.frozen? ⟨G, 2, none⟩ = false ∧ w'.frozen? ⟨G, 3, none⟩ = false) := by
    intro X s o l c bX hz
    refine (MU.out X _ _ _ _ hz).mono ?_
    rintro e w' ⟨rfl, hb⟩
    have bb := bX.out.trans (hb.mono bX.out.size)
    exact ⟨rfl, bb, HC.out _ bb⟩
  have BRF : Hid (∀ w', Below w2.heap.size w2 w' → Below w.heap.size w w' ∧ Blk w' G #[.int .i64 0, .bool false, .string ⟨#[]⟩, .int .i64 0] 23) := fun w' hb => ⟨HB2.out.trans (hb.mono HB2.out.size), Br2.out.below hb Br2.out.lt⟩
  clear HC Ba2 Bb2 Br2 HB2 MU KO
  go_wp2_with fail
  simp only [← HG.out]
  have mk0 : True := trivial
  go_region_held3 (fun w' => w'.cell? ⟨w.heap.size, 0, none⟩ = some (.int .i64 ca) ∧ w'.cell? ⟨w.heap.size, 1, none⟩ = some (.bool na) ∧ w'.cell? ⟨w.heap.size, 2, none⟩ = some (.string ta) ∧ w'.cell? ⟨w.heap.size, 3, none⟩ = some (.int .i64 ea) ∧ w'.cell? ⟨w.heap.size + 1, 0, none⟩ = some (.int .i64 0) ∧ w'.cell? ⟨w.heap.size + 1, 1, none⟩ = some (.bool false) ∧ w'.cell? ⟨w.heap.size + 1, 2, none⟩ = some (.string tb) ∧ w'.cell? ⟨w.heap.size + 1, 3, none⟩ = some (.int .i64 eb)) (go_keep) (first
    | (clear mk0; go_at_call 31; refine (C0.out _  b0 ).mono ?_; rintro e v1 ⟨⟨s1, o1, l1, c1, rfl, Z1⟩, b1, q0_0, q0_1, q0_2, q0_3, q0_4, q0_5, q0_6, q0_7, q0_8, q0_9, q0_10, q0_11, q0_12, q0_13, q0_14, q0_15⟩; have mk1 : True := trivial)
    | (clear mk1; go_at_call 35; refine (C1.out _ _ _ _ _ b1 Z1.out).mono ?_; rintro e v2 ⟨rfl, b2, q1_0, q1_1, q1_2, q1_3, q1_4, q1_5, q1_6, q1_7, q1_8, q1_9, q1_10, q1_11, q1_12, q1_13, q1_14, q1_15⟩; have mk2 : True := trivial))
  obtain ⟨hbel, hblk⟩ := BRF.out _ b2.out
  have HBL := hide hbel
  have QR := hide hblk
  clear hbel hblk BRF b0 b1 b2 C0 C1
  repeat (first | go_values | go_skip | go_guarded | go_step | go_upon)
  refine bodyPost_ret (results_dec2 rfl _ _ _ _ _ _ _ rfl (QR.out.put4 _ _ _ _)) rfl ?_
  exact ⟨rfl, below_put4 HBL.out gle _ _ _ _⟩

theorem nil_of {t : ByteArray} (h : t.size = 0) : t = ⟨#[]⟩ := by
  have := mk_bys t
  rw [bys_nil.2 h] at this
  exact this.symm

theorem rStep_any (ca : Int) (na : Bool) (ta : ByteArray) (ea : Int) (cb : Int) (nb : Bool) (tb : ByteArray) (eb : Int) (m : Int) (w : World) : Calls Tryz.prog 17 #[dcV ca na ta ea, dcV cb nb tb eb, .int .i64 m] w fun e w' => e = .returned (decErr (stepR ca na (bys ta) ea cb nb (bys tb) eb m)) ∧ Below w.heap.size w w' := by
  unfold stepR
  by_cases h : MayD ca na (bys ta) ea
  · by_cases hb : MayD cb nb (bys tb) eb
    · rw [if_neg (fun g => g hb), if_neg (fun g => g h)]
      by_cases h1 : m < 0
      · rw [if_pos (.inl h1)]
        exact rStep_mlow ca na ta ea cb nb tb eb m w h hb h1
      · by_cases h2 : 8 ≤ m
        · rw [if_pos (.inr h2)]
          exact rStep_mhigh ca na ta ea cb nb tb eb m w h hb h2
        · rw [if_neg (by omega)]
          by_cases hs : StepD cb nb (bys tb)
          · rw [if_neg (fun g => g hs)]
            obtain ⟨rfl, rfl, s3, s4⟩ := hs
            rw [bys_len] at s4
            have hz : tb.size ≠ 0 := fun g => s3 (bys_nil.2 g)
            by_cases h0 : ta.size = 0
            · rw [rndD_zero (show DecT.dig ⟨ca.toNat, na, bys ta, ea⟩ = [] from bys_nil.2 h0), decErr_d h]
              obtain rfl := nil_of h0
              exact rStep_nil ca na ea tb eb m w h hb (by omega) (by omega) hz s4
            · have bd := may_place hb
              have fb := may_fin (may_of hb) s3
              have n0 : decV (bys tb) ≠ 0 := fb.val
              have u1 := decV_lt _ (bys tb) rfl fb.dig
              have hN : decV (bys tb) < 10 ^ 32 := Nat.lt_of_lt_of_le u1 (Nat.pow_le_pow_right (by omega) (by rw [bys_len]; exact s4))
              exact rStep_in ca na ta ea tb eb m _ _ _ _ _ w h hb (by omega) (by omega) hz s4 h0
                (fun X => (rnof 0 false tb eb X (by omega) fb.dig).mono (fun e w' ⟨⟨s, o, l, c, he, hr⟩, hb⟩ => ⟨⟨s, o, l, c, he, hr.lo (Nat.zero_le _) (Nat.le_refl _)⟩, hb⟩))
                (fun X s o l c hr => rtold6_raw ca na ta ea m h h0 (by omega) (by omega) (decV (bys tb)) eb n0 hN (by omega) (by omega) s o l c 0 X hr)
          · rw [if_pos hs]
            by_cases c1 : cb = 0
            · subst c1
              cases nb
              · by_cases c3 : tb.size = 0
                · obtain rfl := nil_of c3
                  exact rStep_bnil ca na ta ea eb m w h hb (by omega) (by omega)
                · refine rStep_long ca na ta ea tb eb m w h hb (by omega) (by omega) c3 ?_
                  have : ¬ tb.size ≤ 32 := fun g => hs ⟨rfl, rfl, fun e => c3 (bys_nil.1 e), by rw [bys_len]; exact g⟩
                  omega
              · exact rStep_neg ca na ta ea tb eb m w h hb (by omega) (by omega)
            · exact rStep_cls ca na ta ea cb nb tb eb m w h hb (by omega) (by omega) c1
    · rw [if_pos hb]
      exact rStep_bno ca na ta ea cb nb tb eb m w h hb
  · have e : decErr (zeroD, 52) = .tuple #[dcV 0 false ⟨#[]⟩ 0, .int .i64 52] := rfl
    by_cases hb : MayD cb nb (bys tb) eb
    · rw [if_neg (fun g => g hb), if_pos h]
      exact rStep_no ca na ta ea cb nb tb eb m w h
    · rw [if_pos hb]
      exact rStep_no ca na ta ea cb nb tb eb m w h

end Go.Proofs.YtcclbcnmkaobpaaGreatDoor

namespace Go.Proofs.YtcclbcnmkaobpaaGreatDoor
open Go.RowKit

theorem rsteps_walk (w : World) (htab : Tab w) (ca : Int) (na : Bool) (ta : ByteArray) (ea : Int) (cb : Int) (nb : Bool) (tb : ByteArray) (eb : Int) (m : Int) : Calls Tryz.prog 5 #[dcV ca na ta ea, dcV cb nb tb eb, .int .i64 m] w fun e w' => e = .returned (.bool true) ∧ Below w.heap.size w w' :=
  roundSteps_gen ca na ta ea cb nb tb eb m _ _ _ _ _ w htab (fun W hT => Step_any ca na ta ea cb nb tb eb m W hT) (fun W => rStep_any ca na ta ea cb nb tb eb m W)

end Go.Proofs.YtcclbcnmkaobpaaGreatDoor
