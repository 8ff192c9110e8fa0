/-
  What quipuref05's Place, Neg, Scale and rank do.
-/
import Derived.Test.YtafljhfamjabeaaGreatDoorZB8
import Derived.Test.YtafljhfamjabeaaGreatDoorZB7
namespace Go.Proofs.YtafljhfamjabeaaGreatDoor
open Go.RowKit

set_option maxHeartbeats 1000000 in
theorem rPlace_no (ca : Int) (na : Bool) (ta : ByteArray) (ea : Int) (w : World) (h : ¬ MayD ca na (bys ta) ea) : Calls Tryz.prog 17 #[dcV ca na ta ea] w fun e w' => e = .returned (.int .i64 0) ∧ Below w.heap.size w w' := by
  have MY := hide (fun W => rmay_no ca na ta ea W h)
  clear h
  have Ba0 := hide (Blk.newAt w (w.heap.size) (rfl) #[.int .i64 ca, .bool na, .string ta, .int .i64 ea] 23)
  have HB0 : Hid (Below w.heap.size w (w.alloc (.cells #[.int .i64 ca, .bool na, .string ta, .int .i64 ea] 23))) := ((Below.refl _ _).alloc (Nat.le_refl _) _)
  go_enter Tryz.func17, Tryz.ntmps17
  go_wp2_with fail
  refine (MY.out _).mono ?_
  rintro e w1 ⟨rfl, hb⟩
  have Ba1 := hide (Ba0.out.below hb Ba0.out.lt)
  have HB1 := hide (HB0.out.trans (hb.mono HB0.out.size))
  clear hb Ba0 HB0 
  have ya0 : w1.cell? ⟨w.heap.size, 0, none⟩ = some (.int .i64 ca) := Ba1.out.cell 0
  have ya1 : w1.cell? ⟨w.heap.size, 1, none⟩ = some (.bool na) := Ba1.out.cell 1
  have ya2 : w1.cell? ⟨w.heap.size, 2, none⟩ = some (.string ta) := Ba1.out.cell 2
  have ya3 : w1.cell? ⟨w.heap.size, 3, none⟩ = some (.int .i64 ea) := Ba1.out.cell 3
  go_wp2
  go_ret
  exact ⟨rfl, HB1.out⟩

set_option maxHeartbeats 1000000 in
theorem rPlace_nil (ca : Int) (na : Bool) (ea : Int) (w : World) (h : MayD ca na (bys ⟨#[]⟩) ea) : Calls Tryz.prog 17 #[dcV ca na ⟨#[]⟩ ea] w fun e w' => e = .returned (.int .i64 0) ∧ Below w.heap.size w w' := by
  have MY := hide (fun W => rmay_yes ca na ⟨#[]⟩ ea W h)
  clear h
  have Ba0 := hide (Blk.newAt w (w.heap.size) (rfl) #[.int .i64 ca, .bool na, .string ⟨#[]⟩, .int .i64 ea] 23)
  have HB0 : Hid (Below w.heap.size w (w.alloc (.cells #[.int .i64 ca, .bool na, .string ⟨#[]⟩, .int .i64 ea] 23))) := ((Below.refl _ _).alloc (Nat.le_refl _) _)
  go_enter Tryz.func17, Tryz.ntmps17
  go_wp2_with fail
  refine (MY.out _).mono ?_
  rintro e w1 ⟨rfl, hb⟩
  have Ba1 := hide (Ba0.out.below hb Ba0.out.lt)
  have HB1 := hide (HB0.out.trans (hb.mono HB0.out.size))
  clear hb Ba0 HB0 
  have ya0 : w1.cell? ⟨w.heap.size, 0, none⟩ = some (.int .i64 ca) := Ba1.out.cell 0
  have ya1 : w1.cell? ⟨w.heap.size, 1, none⟩ = some (.bool na) := Ba1.out.cell 1
  have ya2 : w1.cell? ⟨w.heap.size, 2, none⟩ = some (.string ⟨#[]⟩) := Ba1.out.cell 2
  have ya3 : w1.cell? ⟨w.heap.size, 3, none⟩ = some (.int .i64 ea) := Ba1.out.cell 3
  go_wp2
  go_ret
  exact ⟨rfl, HB1.out⟩

set_option maxHeartbeats 1000000 in
theorem rPlace_fin (ca : Int) (na : Bool) (ta : ByteArray) (ea : Int) (w : World) (h : MayD ca na (bys ta) ea) (h0 : ta.size ≠ 0) : Calls Tryz.prog 17 #[dcV ca na ta ea] w fun e w' => e = .returned (.int .i64 ((ta.size : Int) + ea)) ∧ Below w.heap.size w w' := by
  obtain ⟨b1, b2, b3⟩ := may_bounds h
  have MY := hide (fun W => rmay_yes ca na ta ea W h)
  have h2 := toList_ne h0
  clear h h0
  have Ba0 := hide (Blk.newAt w (w.heap.size) (rfl) #[.int .i64 ca, .bool na, .string ta, .int .i64 ea] 23)
  have HB0 : Hid (Below w.heap.size w (w.alloc (.cells #[.int .i64 ca, .bool na, .string ta, .int .i64 ea] 23))) := ((Below.refl _ _).alloc (Nat.le_refl _) _)
  go_enter Tryz.func17, Tryz.ntmps17
  go_wp2_with fail
  refine (MY.out _).mono ?_
  rintro e w1 ⟨rfl, hb⟩
  have Ba1 := hide (Ba0.out.below hb Ba0.out.lt)
  have HB1 := hide (HB0.out.trans (hb.mono HB0.out.size))
  clear hb Ba0 HB0 
  have ya0 : w1.cell? ⟨w.heap.size, 0, none⟩ = some (.int .i64 ca) := Ba1.out.cell 0
  have ya1 : w1.cell? ⟨w.heap.size, 1, none⟩ = some (.bool na) := Ba1.out.cell 1
  have ya2 : w1.cell? ⟨w.heap.size, 2, none⟩ = some (.string ta) := Ba1.out.cell 2
  have ya3 : w1.cell? ⟨w.heap.size, 3, none⟩ = some (.int .i64 ea) := Ba1.out.cell 3
  go_wp2
  go_ret
  exact ⟨rfl, HB1.out⟩

set_option maxHeartbeats 1000000 in
theorem rNeg_no (ca : Int) (na : Bool) (ta : ByteArray) (ea : Int) (w : World) (h : ¬ MayD ca na (bys ta) ea) : Calls Tryz.prog 25 #[dcV ca na ta ea] w fun e w' => e = .returned (.tuple #[dcV 0 false ⟨#[]⟩ 0, .int .i64 52]) ∧ Below w.heap.size w w' := by
  have MY := hide (fun W => rmay_no ca na ta ea W h)
  clear h
  have Ba0 := hide ((Blk.newAt w (w.heap.size) (rfl) #[.int .i64 ca, .bool na, .string ta, .int .i64 ea] 23).alloc (.cells #[.int .i64 0, .bool false, .string ⟨#[]⟩, .int .i64 0] 23))
  have Br0 := hide (Blk.newAt (w.alloc (.cells #[.int .i64 ca, .bool na, .string ta, .int .i64 ea] 23)) (w.heap.size + 1) (by simp) #[.int .i64 0, .bool false, .string ⟨#[]⟩, .int .i64 0] 23)
  have HB0 : Hid (Below w.heap.size w ((w.alloc (.cells #[.int .i64 ca, .bool na, .string ta, .int .i64 ea] 23)).alloc (.cells #[.int .i64 0, .bool false, .string ⟨#[]⟩, .int .i64 0] 23))) := (((Below.refl _ _).alloc (Nat.le_refl _) _).alloc (by simp <;> omega) _)
  go_enter Tryz.func25, Tryz.ntmps25
  go_wp2_with fail
  refine (MY.out _).mono ?_
  rintro e w1 ⟨rfl, hb⟩
  have Ba1 := hide (Ba0.out.below hb Ba0.out.lt)
  have Br1 := hide (Br0.out.below hb Br0.out.lt)
  have HB1 := hide (HB0.out.trans (hb.mono HB0.out.size))
  clear hb Ba0 Br0 HB0 
  have ya0 : w1.cell? ⟨w.heap.size, 0, none⟩ = some (.int .i64 ca) := Ba1.out.cell 0
  have ya1 : w1.cell? ⟨w.heap.size, 1, none⟩ = some (.bool na) := Ba1.out.cell 1
  have ya2 : w1.cell? ⟨w.heap.size, 2, none⟩ = some (.string ta) := Ba1.out.cell 2
  have ya3 : w1.cell? ⟨w.heap.size, 3, none⟩ = some (.int .i64 ea) := Ba1.out.cell 3
  have yr0 : w1.cell? ⟨w.heap.size + 1, 0, none⟩ = some (.int .i64 0) := Br1.out.cell 0
  have yr1 : w1.cell? ⟨w.heap.size + 1, 1, none⟩ = some (.bool false) := Br1.out.cell 1
  have yr2 : w1.cell? ⟨w.heap.size + 1, 2, none⟩ = some (.string ⟨#[]⟩) := Br1.out.cell 2
  have yr3 : w1.cell? ⟨w.heap.size + 1, 3, none⟩ = some (.int .i64 0) := Br1.out.cell 3
  have fr0 := Br1.out.free 0
  have fr1 := Br1.out.free 1
  have fr2 := Br1.out.free 2
  have fr3 := Br1.out.free 3
  go_wp2
  refine bodyPost_ret (results_dec2 rfl _ _ _ _ _ _ _ rfl (Br1.out.put4 _ _ _ _)) rfl ?_
  exact ⟨rfl, below_put4 (HB1.out) (by omega) _ _ _ _⟩

set_option maxHeartbeats 1000000 in
theorem rNeg_nan (w : World) : Calls Tryz.prog 25 #[dcV 2 false ⟨#[]⟩ 0] w fun e w' => e = .returned (.tuple #[dcV 2 false ⟨#[]⟩ 0, .int .i64 0]) ∧ Below w.heap.size w w' := by
  have MY := hide (fun W => rmay_yes 2 false ⟨#[]⟩ 0 W (.inr (.inr ⟨rfl, rfl, rfl, rfl⟩)))
  have Ba0 := hide ((Blk.newAt w (w.heap.size) (rfl) #[.int .i64 2, .bool false, .string ⟨#[]⟩, .int .i64 0] 23).alloc (.cells #[.int .i64 0, .bool false, .string ⟨#[]⟩, .int .i64 0] 23))
  have Br0 := hide (Blk.newAt (w.alloc (.cells #[.int .i64 2, .bool false, .string ⟨#[]⟩, .int .i64 0] 23)) (w.heap.size + 1) (by simp) #[.int .i64 0, .bool false, .string ⟨#[]⟩, .int .i64 0] 23)
  have HB0 : Hid (Below w.heap.size w ((w.alloc (.cells #[.int .i64 2, .bool false, .string ⟨#[]⟩, .int .i64 0] 23)).alloc (.cells #[.int .i64 0, .bool false, .string ⟨#[]⟩, .int .i64 0] 23))) := (((Below.refl _ _).alloc (Nat.le_refl _) _).alloc (by simp <;> omega) _)
  go_enter Tryz.func25, Tryz.ntmps25
  go_wp2_with fail
  refine (MY.out _).mono ?_
  rintro e w1 ⟨rfl, hb⟩
  have Ba1 := hide (Ba0.out.below hb Ba0.out.lt)
  have Br1 := hide (Br0.out.below hb Br0.out.lt)
  have HB1 := hide (HB0.out.trans (hb.mono HB0.out.size))
  clear hb Ba0 Br0 HB0 
  have ya0 : w1.cell? ⟨w.heap.size, 0, none⟩ = some (.int .i64 2) := Ba1.out.cell 0
  have ya1 : w1.cell? ⟨w.heap.size, 1, none⟩ = some (.bool false) := Ba1.out.cell 1
  have ya2 : w1.cell? ⟨w.heap.size, 2, none⟩ = some (.string ⟨#[]⟩) := Ba1.out.cell 2
  have ya3 : w1.cell? ⟨w.heap.size, 3, none⟩ = some (.int .i64 0) := Ba1.out.cell 3
  have yr0 : w1.cell? ⟨w.heap.size + 1, 0, none⟩ = some (.int .i64 0) := Br1.out.cell 0
  have yr1 : w1.cell? ⟨w.heap.size + 1, 1, none⟩ = some (.bool false) := Br1.out.cell 1
  have yr2 : w1.cell? ⟨w.heap.size + 1, 2, none⟩ = some (.string ⟨#[]⟩) := Br1.out.cell 2
  have yr3 : w1.cell? ⟨w.heap.size + 1, 3, none⟩ = some (.int .i64 0) := Br1.out.cell 3
  have fr0 := Br1.out.free 0
  have fr1 := Br1.out.free 1
  have fr2 := Br1.out.free 2
  have fr3 := Br1.out.free 3
  go_wp2
  refine bodyPost_ret (results_dec2 rfl _ _ _ _ _ _ _ rfl (Br1.out.put4 _ _ _ _)) rfl ?_
  exact ⟨rfl, below_put4 (HB1.out) (by omega) _ _ _ _⟩

set_option maxHeartbeats 1000000 in
theorem rNeg_yes (ca : Int) (na : Bool) (ta : ByteArray) (ea : Int) (w : World) (h : MayD ca na (bys ta) ea) (h2 : ca ≠ 2) : Calls Tryz.prog 25 #[dcV ca na ta ea] w fun e w' => e = .returned (.tuple #[dcV ca (!na) ta ea, .int .i64 0]) ∧ Below w.heap.size w w' := by
  have MY := hide (fun W => rmay_yes ca na ta ea W h)
  have h2' : (ca != 2) = true := by simpa using h2
  clear h h2
  have Ba0 := hide ((Blk.newAt w (w.heap.size) (rfl) #[.int .i64 ca, .bool na, .string ta, .int .i64 ea] 23).alloc (.cells #[.int .i64 0, .bool false, .string ⟨#[]⟩, .int .i64 0] 23))
  have Br0 := hide (Blk.newAt (w.alloc (.cells #[.int .i64 ca, .bool na, .string ta, .int .i64 ea] 23)) (w.heap.size + 1) (by simp) #[.int .i64 0, .bool false, .string ⟨#[]⟩, .int .i64 0] 23)
  have HB0 : Hid (Below w.heap.size w ((w.alloc (.cells #[.int .i64 ca, .bool na, .string ta, .int .i64 ea] 23)).alloc (.cells #[.int .i64 0, .bool false, .string ⟨#[]⟩, .int .i64 0] 23))) := (((Below.refl _ _).alloc (Nat.le_refl _) _).alloc (by simp <;> omega) _)
  go_enter Tryz.func25, Tryz.ntmps25
  go_wp2_with fail
  refine (MY.out _).mono ?_
  rintro e w1 ⟨rfl, hb⟩
  have Ba1 := hide (Ba0.out.below hb Ba0.out.lt)
  have Br1 := hide (Br0.out.below hb Br0.out.lt)
  have HB1 := hide (HB0.out.trans (hb.mono HB0.out.size))
  clear hb Ba0 Br0 HB0 
  have ya0 : w1.cell? ⟨w.heap.size, 0, none⟩ = some (.int .i64 ca) := Ba1.out.cell 0
  have ya1 : w1.cell? ⟨w.heap.size, 1, none⟩ = some (.bool na) := Ba1.out.cell 1
  have ya2 : w1.cell? ⟨w.heap.size, 2, none⟩ = some (.string ta) := Ba1.out.cell 2
  have ya3 : w1.cell? ⟨w.heap.size, 3, none⟩ = some (.int .i64 ea) := Ba1.out.cell 3
  have yr0 : w1.cell? ⟨w.heap.size + 1, 0, none⟩ = some (.int .i64 0) := Br1.out.cell 0
  have yr1 : w1.cell? ⟨w.heap.size + 1, 1, none⟩ = some (.bool false) := Br1.out.cell 1
  have yr2 : w1.cell? ⟨w.heap.size + 1, 2, none⟩ = some (.string ⟨#[]⟩) := Br1.out.cell 2
  have yr3 : w1.cell? ⟨w.heap.size + 1, 3, none⟩ = some (.int .i64 0) := Br1.out.cell 3
  have f1 := Ba1.out.free 1
  have fr0 := Br1.out.free 0
  have fr1 := Br1.out.free 1
  have fr2 := Br1.out.free 2
  have fr3 := Br1.out.free 3
  go_wp2
  refine bodyPost_ret (results_dec2 rfl _ _ _ _ _ _ _ rfl ((Br1.out.other (by simp) _).put4 _ _ _ _)) rfl ?_
  exact ⟨rfl, below_put4 (HB1.out.setCell (Nat.le_refl _) _) (by omega) _ _ _ _⟩

set_option maxHeartbeats 1000000 in
theorem rScale_no (ca : Int) (na : Bool) (ta : ByteArray) (ea : Int) (k : Int) (w : World) (h : ¬ MayD ca na (bys ta) ea) : Calls Tryz.prog 27 #[dcV ca na ta ea, .int .i64 k] w fun e w' => e = .returned (.tuple #[dcV 0 false ⟨#[]⟩ 0, .int .i64 52]) ∧ Below w.heap.size w w' := by
  have MY := hide (fun W => rmay_no ca na ta ea W h)
  clear h
  have Ba0 := hide ((Blk.newAt w (w.heap.size) (rfl) #[.int .i64 ca, .bool na, .string ta, .int .i64 ea] 23).alloc (.cells #[.int .i64 0, .bool false, .string ⟨#[]⟩, .int .i64 0] 23))
  have Br0 := hide (Blk.newAt (w.alloc (.cells #[.int .i64 ca, .bool na, .string ta, .int .i64 ea] 23)) (w.heap.size + 1) (by simp) #[.int .i64 0, .bool false, .string ⟨#[]⟩, .int .i64 0] 23)
  have HB0 : Hid (Below w.heap.size w ((w.alloc (.cells #[.int .i64 ca, .bool na, .string ta, .int .i64 ea] 23)).alloc (.cells #[.int .i64 0, .bool false, .string ⟨#[]⟩, .int .i64 0] 23))) := (((Below.refl _ _).alloc (Nat.le_refl _) _).alloc (by simp <;> omega) _)
  go_enter Tryz.func27, Tryz.ntmps27
  go_wp2_with fail
  refine (MY.out _).mono ?_
  rintro e w1 ⟨rfl, hb⟩
  have Ba1 := hide (Ba0.out.below hb Ba0.out.lt)
  have Br1 := hide (Br0.out.below hb Br0.out.lt)
  have HB1 := hide (HB0.out.trans (hb.mono HB0.out.size))
  clear hb Ba0 Br0 HB0 
  have ya0 : w1.cell? ⟨w.heap.size, 0, none⟩ = some (.int .i64 ca) := Ba1.out.cell 0
  have ya1 : w1.cell? ⟨w.heap.size, 1, none⟩ = some (.bool na) := Ba1.out.cell 1
  have ya2 : w1.cell? ⟨w.heap.size, 2, none⟩ = some (.string ta) := Ba1.out.cell 2
  have ya3 : w1.cell? ⟨w.heap.size, 3, none⟩ = some (.int .i64 ea) := Ba1.out.cell 3
  have yr0 : w1.cell? ⟨w.heap.size + 1, 0, none⟩ = some (.int .i64 0) := Br1.out.cell 0
  have yr1 : w1.cell? ⟨w.heap.size + 1, 1, none⟩ = some (.bool false) := Br1.out.cell 1
  have yr2 : w1.cell? ⟨w.heap.size + 1, 2, none⟩ = some (.string ⟨#[]⟩) := Br1.out.cell 2
  have yr3 : w1.cell? ⟨w.heap.size + 1, 3, none⟩ = some (.int .i64 0) := Br1.out.cell 3
  have fr0 := Br1.out.free 0
  have fr1 := Br1.out.free 1
  have fr2 := Br1.out.free 2
  have fr3 := Br1.out.free 3
  go_wp2
  refine bodyPost_ret (results_dec2 rfl _ _ _ _ _ _ _ rfl (Br1.out.put4 _ _ _ _)) rfl ?_
  exact ⟨rfl, below_put4 (HB1.out) (by omega) _ _ _ _⟩

set_option maxHeartbeats 1000000 in
theorem rScale_nil (ca : Int) (na : Bool) (ea : Int) (k : Int) (w : World) (h : MayD ca na (bys ⟨#[]⟩) ea) : Calls Tryz.prog 27 #[dcV ca na ⟨#[]⟩ ea, .int .i64 k] w fun e w' => e = .returned (.tuple #[dcV ca na ⟨#[]⟩ ea, .int .i64 0]) ∧ Below w.heap.size w w' := by
  have MY := hide (fun W => rmay_yes ca na ⟨#[]⟩ ea W h)
  clear h
  have Ba0 := hide ((Blk.newAt w (w.heap.size) (rfl) #[.int .i64 ca, .bool na, .string ⟨#[]⟩, .int .i64 ea] 23).alloc (.cells #[.int .i64 0, .bool false, .string ⟨#[]⟩, .int .i64 0] 23))
  have Br0 := hide (Blk.newAt (w.alloc (.cells #[.int .i64 ca, .bool na, .string ⟨#[]⟩, .int .i64 ea] 23)) (w.heap.size + 1) (by simp) #[.int .i64 0, .bool false, .string ⟨#[]⟩, .int .i64 0] 23)
  have HB0 : Hid (Below w.heap.size w ((w.alloc (.cells #[.int .i64 ca, .bool na, .string ⟨#[]⟩, .int .i64 ea] 23)).alloc (.cells #[.int .i64 0, .bool false, .string ⟨#[]⟩, .int .i64 0] 23))) := (((Below.refl _ _).alloc (Nat.le_refl _) _).alloc (by simp <;> omega) _)
  go_enter Tryz.func27, Tryz.ntmps27
  go_wp2_with fail
  refine (MY.out _).mono ?_
  rintro e w1 ⟨rfl, hb⟩
  have Ba1 := hide (Ba0.out.below hb Ba0.out.lt)
  have Br1 := hide (Br0.out.below hb Br0.out.lt)
  have HB1 := hide (HB0.out.trans (hb.mono HB0.out.size))
  clear hb Ba0 Br0 HB0 
  have ya0 : w1.cell? ⟨w.heap.size, 0, none⟩ = some (.int .i64 ca) := Ba1.out.cell 0
  have ya1 : w1.cell? ⟨w.heap.size, 1, none⟩ = some (.bool na) := Ba1.out.cell 1
  have ya2 : w1.cell? ⟨w.heap.size, 2, none⟩ = some (.string ⟨#[]⟩) := Ba1.out.cell 2
  have ya3 : w1.cell? ⟨w.heap.size, 3, none⟩ = some (.int .i64 ea) := Ba1.out.cell 3
  have yr0 : w1.cell? ⟨w.heap.size + 1, 0, none⟩ = some (.int .i64 0) := Br1.out.cell 0
  have yr1 : w1.cell? ⟨w.heap.size + 1, 1, none⟩ = some (.bool false) := Br1.out.cell 1
  have yr2 : w1.cell? ⟨w.heap.size + 1, 2, none⟩ = some (.string ⟨#[]⟩) := Br1.out.cell 2
  have yr3 : w1.cell? ⟨w.heap.size + 1, 3, none⟩ = some (.int .i64 0) := Br1.out.cell 3
  have fr0 := Br1.out.free 0
  have fr1 := Br1.out.free 1
  have fr2 := Br1.out.free 2
  have fr3 := Br1.out.free 3
  go_wp2
  refine bodyPost_ret (results_dec2 rfl _ _ _ _ _ _ _ rfl (Br1.out.put4 _ _ _ _)) rfl ?_
  exact ⟨rfl, below_put4 (HB1.out) (by omega) _ _ _ _⟩

set_option maxHeartbeats 1000000 in
theorem rScale_low (ca : Int) (na : Bool) (ta : ByteArray) (ea : Int) (k : Int) (w : World) (h : MayD ca na (bys ta) ea) (h0 : ta.size ≠ 0) (hk : k < -9999) : Calls Tryz.prog 27 #[dcV ca na ta ea, .int .i64 k] w fun e w' => e = .returned (.tuple #[dcV 0 false ⟨#[]⟩ 0, .int .i64 51]) ∧ Below w.heap.size w w' := by
  have MY := hide (fun W => rmay_yes ca na ta ea W h)
  have h2 := toList_ne h0
  have e1 : decide (k < -9999) = true := decide_eq_true hk
  clear h h0
  have Ba0 := hide ((Blk.newAt w (w.heap.size) (rfl) #[.int .i64 ca, .bool na, .string ta, .int .i64 ea] 23).alloc (.cells #[.int .i64 0, .bool false, .string ⟨#[]⟩, .int .i64 0] 23))
  have Br0 := hide (Blk.newAt (w.alloc (.cells #[.int .i64 ca, .bool na, .string ta, .int .i64 ea] 23)) (w.heap.size + 1) (by simp) #[.int .i64 0, .bool false, .string ⟨#[]⟩, .int .i64 0] 23)
  have HB0 : Hid (Below w.heap.size w ((w.alloc (.cells #[.int .i64 ca, .bool na, .string ta, .int .i64 ea] 23)).alloc (.cells #[.int .i64 0, .bool false, .string ⟨#[]⟩, .int .i64 0] 23))) := (((Below.refl _ _).alloc (Nat.le_refl _) _).alloc (by simp <;> omega) _)
  go_enter Tryz.func27, Tryz.ntmps27
  go_wp2_with fail
  refine (MY.out _).mono ?_
  rintro e w1 ⟨rfl, hb⟩
  have Ba1 := hide (Ba0.out.below hb Ba0.out.lt)
  have Br1 := hide (Br0.out.below hb Br0.out.lt)
  have HB1 := hide (HB0.out.trans (hb.mono HB0.out.size))
  clear hb Ba0 Br0 HB0 
  have ya0 : w1.cell? ⟨w.heap.size, 0, none⟩ = some (.int .i64 ca) := Ba1.out.cell 0
  have ya1 : w1.cell? ⟨w.heap.size, 1, none⟩ = some (.bool na) := Ba1.out.cell 1
  have ya2 : w1.cell? ⟨w.heap.size, 2, none⟩ = some (.string ta) := Ba1.out.cell 2
  have ya3 : w1.cell? ⟨w.heap.size, 3, none⟩ = some (.int .i64 ea) := Ba1.out.cell 3
  have yr0 : w1.cell? ⟨w.heap.size + 1, 0, none⟩ = some (.int .i64 0) := Br1.out.cell 0
  have yr1 : w1.cell? ⟨w.heap.size + 1, 1, none⟩ = some (.bool false) := Br1.out.cell 1
  have yr2 : w1.cell? ⟨w.heap.size + 1, 2, none⟩ = some (.string ⟨#[]⟩) := Br1.out.cell 2
  have yr3 : w1.cell? ⟨w.heap.size + 1, 3, none⟩ = some (.int .i64 0) := Br1.out.cell 3
  have fr0 := Br1.out.free 0
  have fr1 := Br1.out.free 1
  have fr2 := Br1.out.free 2
  have fr3 := Br1.out.free 3
  go_wp2
  refine bodyPost_ret (results_dec2 rfl _ _ _ _ _ _ _ rfl (Br1.out.put4 _ _ _ _)) rfl ?_
  exact ⟨rfl, below_put4 (HB1.out) (by omega) _ _ _ _⟩

set_option maxHeartbeats 1000000 in
theorem rScale_high (ca : Int) (na : Bool) (ta : ByteArray) (ea : Int) (k : Int) (w : World) (h : MayD ca na (bys ta) ea) (h0 : ta.size ≠ 0) (hk : 9999 < k) : Calls Tryz.prog 27 #[dcV ca na ta ea, .int .i64 k] w fun e w' => e = .returned (.tuple #[dcV 0 false ⟨#[]⟩ 0, .int .i64 51]) ∧ Below w.heap.size w w' := by
  have MY := hide (fun W => rmay_yes ca na ta ea W h)
  have h2 := toList_ne h0
  have e1 : decide (k < -9999) = false := decide_eq_false (by omega)
  have e2 : decide (9999 < k) = true := decide_eq_true hk
  clear h h0
  have Ba0 := hide ((Blk.newAt w (w.heap.size) (rfl) #[.int .i64 ca, .bool na, .string ta, .int .i64 ea] 23).alloc (.cells #[.int .i64 0, .bool false, .string ⟨#[]⟩, .int .i64 0] 23))
  have Br0 := hide (Blk.newAt (w.alloc (.cells #[.int .i64 ca, .bool na, .string ta, .int .i64 ea] 23)) (w.heap.size + 1) (by simp) #[.int .i64 0, .bool false, .string ⟨#[]⟩, .int .i64 0] 23)
  have HB0 : Hid (Below w.heap.size w ((w.alloc (.cells #[.int .i64 ca, .bool na, .string ta, .int .i64 ea] 23)).alloc (.cells #[.int .i64 0, .bool false, .string ⟨#[]⟩, .int .i64 0] 23))) := (((Below.refl _ _).alloc (Nat.le_refl _) _).alloc (by simp <;> omega) _)
  go_enter Tryz.func27, Tryz.ntmps27
  go_wp2_with fail
  refine (MY.out _).mono ?_
  rintro e w1 ⟨rfl, hb⟩
  have Ba1 := hide (Ba0.out.below hb Ba0.out.lt)
  have Br1 := hide (Br0.out.below hb Br0.out.lt)
  have HB1 := hide (HB0.out.trans (hb.mono HB0.out.size))
  clear hb Ba0 Br0 HB0 
  have ya0 : w1.cell? ⟨w.heap.size, 0, none⟩ = some (.int .i64 ca) := Ba1.out.cell 0
  have ya1 : w1.cell? ⟨w.heap.size, 1, none⟩ = some (.bool na) := Ba1.out.cell 1
  have ya2 : w1.cell? ⟨w.heap.size, 2, none⟩ = some (.string ta) := Ba1.out.cell 2
  have ya3 : w1.cell? ⟨w.heap.size, 3, none⟩ = some (.int .i64 ea) := Ba1.out.cell 3
  have yr0 : w1.cell? ⟨w.heap.size + 1, 0, none⟩ = some (.int .i64 0) := Br1.out.cell 0
  have yr1 : w1.cell? ⟨w.heap.size + 1, 1, none⟩ = some (.bool false) := Br1.out.cell 1
  have yr2 : w1.cell? ⟨w.heap.size + 1, 2, none⟩ = some (.string ⟨#[]⟩) := Br1.out.cell 2
  have yr3 : w1.cell? ⟨w.heap.size + 1, 3, none⟩ = some (.int .i64 0) := Br1.out.cell 3
  have fr0 := Br1.out.free 0
  have fr1 := Br1.out.free 1
  have fr2 := Br1.out.free 2
  have fr3 := Br1.out.free 3
  go_wp2
  refine bodyPost_ret (results_dec2 rfl _ _ _ _ _ _ _ rfl (Br1.out.put4 _ _ _ _)) rfl ?_
  exact ⟨rfl, below_put4 (HB1.out) (by omega) _ _ _ _⟩

set_option maxHeartbeats 1000000 in
theorem rScale_in (ca : Int) (na : Bool) (ta : ByteArray) (ea : Int) (k : Int) (w : World) (h : MayD ca na (bys ta) ea) (h0 : ta.size ≠ 0) (hk1 : -9999 ≤ k) (hk2 : k ≤ 9999) (hm : MayD ca na (bys ta) (ea + k)) : Calls Tryz.prog 27 #[dcV ca na ta ea, .int .i64 k] w fun e w' => e = .returned (.tuple #[dcV ca na ta (ea + k), .int .i64 0]) ∧ Below w.heap.size w w' := by
  have MY := hide (fun W => rmay_yes ca na ta ea W h)
  have h2 := toList_ne h0
  obtain ⟨b1, b2, b3⟩ := may_bounds h
  have e1 : decide (k < -9999) = false := decide_eq_false (by omega)
  have e2 : decide (9999 < k) = false := decide_eq_false (by omega)
  have M2 := hide (fun W => rmay_yes ca na ta (ea + k) W hm)
  clear h h0 hm
  have Ba0 := hide ((Blk.newAt w (w.heap.size) (rfl) #[.int .i64 ca, .bool na, .string ta, .int .i64 ea] 23).alloc (.cells #[.int .i64 0, .bool false, .string ⟨#[]⟩, .int .i64 0] 23))
  have Br0 := hide (Blk.newAt (w.alloc (.cells #[.int .i64 ca, .bool na, .string ta, .int .i64 ea] 23)) (w.heap.size + 1) (by simp) #[.int .i64 0, .bool false, .string ⟨#[]⟩, .int .i64 0] 23)
  have HB0 : Hid (Below w.heap.size w ((w.alloc (.cells #[.int .i64 ca, .bool na, .string ta, .int .i64 ea] 23)).alloc (.cells #[.int .i64 0, .bool false, .string ⟨#[]⟩, .int .i64 0] 23))) := (((Below.refl _ _).alloc (Nat.le_refl _) _).alloc (by simp <;> omega) _)
  go_enter Tryz.func27, Tryz.ntmps27
  go_wp2_with fail
  refine (MY.out _).mono ?_
  rintro e w1 ⟨rfl, hb⟩
  have Ba1 := hide (Ba0.out.below hb Ba0.out.lt)
  have Br1 := hide (Br0.out.below hb Br0.out.lt)
  have HB1 := hide (HB0.out.trans (hb.mono HB0.out.size))
  clear hb Ba0 Br0 HB0 
  have ya0 : w1.cell? ⟨w.heap.size, 0, none⟩ = some (.int .i64 ca) := Ba1.out.cell 0
  have ya1 : w1.cell? ⟨w.heap.size, 1, none⟩ = some (.bool na) := Ba1.out.cell 1
  have ya2 : w1.cell? ⟨w.heap.size, 2, none⟩ = some (.string ta) := Ba1.out.cell 2
  have ya3 : w1.cell? ⟨w.heap.size, 3, none⟩ = some (.int .i64 ea) := Ba1.out.cell 3
  have yr0 : w1.cell? ⟨w.heap.size + 1, 0, none⟩ = some (.int .i64 0) := Br1.out.cell 0
  have yr1 : w1.cell? ⟨w.heap.size + 1, 1, none⟩ = some (.bool false) := Br1.out.cell 1
  have yr2 : w1.cell? ⟨w.heap.size + 1, 2, none⟩ = some (.string ⟨#[]⟩) := Br1.out.cell 2
  have yr3 : w1.cell? ⟨w.heap.size + 1, 3, none⟩ = some (.int .i64 0) := Br1.out.cell 3
  have f3 := Ba1.out.free 3
  go_wp2_with fail
  refine (M2.out _).mono ?_
  rintro e w2 ⟨rfl, hb⟩
  have s1 := HB1.out.setCell (show w.heap.size ≤ (⟨w.heap.size, 3, none⟩ : Addr).block from Nat.le_refl _) (.int .i64 (ea + k))
  have A2 := hide ((Ba1.out.set3 (.int .i64 (ea + k))).below hb (Ba1.out.set3 (.int .i64 (ea + k))).lt)
  have R2 := hide ((Br1.out.other (a := ⟨w.heap.size, 3, none⟩) (by simp) (.int .i64 (ea + k))).below hb (Br1.out.other (a := ⟨w.heap.size, 3, none⟩) (by simp) (.int .i64 (ea + k))).lt)
  have HB2 := hide (s1.trans (hb.mono s1.size))
  clear hb s1 Ba1 Br1 HB1 f3 ya0 ya1 ya2 ya3 yr0 yr1 yr2 yr3
  have ya0 : w2.cell? ⟨w.heap.size, 0, none⟩ = some (.int .i64 ca) := A2.out.cell 0
  have ya1 : w2.cell? ⟨w.heap.size, 1, none⟩ = some (.bool na) := A2.out.cell 1
  have ya2 : w2.cell? ⟨w.heap.size, 2, none⟩ = some (.string ta) := A2.out.cell 2
  have ya3 : w2.cell? ⟨w.heap.size, 3, none⟩ = some (.int .i64 (ea + k)) := A2.out.cell 3
  have yr0 : w2.cell? ⟨w.heap.size + 1, 0, none⟩ = some (.int .i64 0) := R2.out.cell 0
  have fr0 := R2.out.free 0
  have yr1 : w2.cell? ⟨w.heap.size + 1, 1, none⟩ = some (.bool false) := R2.out.cell 1
  have fr1 := R2.out.free 1
  have yr2 : w2.cell? ⟨w.heap.size + 1, 2, none⟩ = some (.string ⟨#[]⟩) := R2.out.cell 2
  have fr2 := R2.out.free 2
  have yr3 : w2.cell? ⟨w.heap.size + 1, 3, none⟩ = some (.int .i64 0) := R2.out.cell 3
  have fr3 := R2.out.free 3
  go_wp2
  refine bodyPost_ret (results_dec2 rfl _ _ _ _ _ _ _ rfl (R2.out.put4 _ _ _ _)) rfl ?_
  exact ⟨rfl, below_put4 HB2.out (by omega) _ _ _ _⟩

set_option maxHeartbeats 1000000 in
theorem rScale_out (ca : Int) (na : Bool) (ta : ByteArray) (ea : Int) (k : Int) (w : World) (h : MayD ca na (bys ta) ea) (h0 : ta.size ≠ 0) (hk1 : -9999 ≤ k) (hk2 : k ≤ 9999) (hm : ¬ MayD ca na (bys ta) (ea + k)) : Calls Tryz.prog 27 #[dcV ca na ta ea, .int .i64 k] w fun e w' => e = .returned (.tuple #[dcV 0 false ⟨#[]⟩ 0, .int .i64 51]) ∧ Below w.heap.size w w' := by
  have MY := hide (fun W => rmay_yes ca na ta ea W h)
  have h2 := toList_ne h0
  obtain ⟨b1, b2, b3⟩ := may_bounds h
  have e1 : decide (k < -9999) = false := decide_eq_false (by omega)
  have e2 : decide (9999 < k) = false := decide_eq_false (by omega)
  have M2 := hide (fun W => rmay_no ca na ta (ea + k) W hm)
  clear h h0 hm
  have Ba0 := hide ((Blk.newAt w (w.heap.size) (rfl) #[.int .i64 ca, .bool na, .string ta, .int .i64 ea] 23).alloc (.cells #[.int .i64 0, .bool false, .string ⟨#[]⟩, .int .i64 0] 23))
  have Br0 := hide (Blk.newAt (w.alloc (.cells #[.int .i64 ca, .bool na, .string ta, .int .i64 ea] 23)) (w.heap.size + 1) (by simp) #[.int .i64 0, .bool false, .string ⟨#[]⟩, .int .i64 0] 23)
  have HB0 : Hid (Below w.heap.size w ((w.alloc (.cells #[.int .i64 ca, .bool na, .string ta, .int .i64 ea] 23)).alloc (.cells #[.int .i64 0, .bool false, .string ⟨#[]⟩, .int .i64 0] 23))) := (((Below.refl _ _).alloc (Nat.le_refl _) _).alloc (by simp <;> omega) _)
  go_enter Tryz.func27, Tryz.ntmps27
  go_wp2_with fail
  refine (MY.out _).mono ?_
  rintro e w1 ⟨rfl, hb⟩
  have Ba1 := hide (Ba0.out.below hb Ba0.out.lt)
  have Br1 := hide (Br0.out.below hb Br0.out.lt)
  have HB1 := hide (HB0.out.trans (hb.mono HB0.out.size))
  clear hb Ba0 Br0 HB0 
  have ya0 : w1.cell? ⟨w.heap.size, 0, none⟩ = some (.int .i64 ca) := Ba1.out.cell 0
  have ya1 : w1.cell? ⟨w.heap.size, 1, none⟩ = some (.bool na) := Ba1.out.cell 1
  have ya2 : w1.cell? ⟨w.heap.size, 2, none⟩ = some (.string ta) := Ba1.out.cell 2
  have ya3 : w1.cell? ⟨w.heap.size, 3, none⟩ = some (.int .i64 ea) := Ba1.out.cell 3
  have yr0 : w1.cell? ⟨w.heap.size + 1, 0, none⟩ = some (.int .i64 0) := Br1.out.cell 0
  have yr1 : w1.cell? ⟨w.heap.size + 1, 1, none⟩ = some (.bool false) := Br1.out.cell 1
  have yr2 : w1.cell? ⟨w.heap.size + 1, 2, none⟩ = some (.string ⟨#[]⟩) := Br1.out.cell 2
  have yr3 : w1.cell? ⟨w.heap.size + 1, 3, none⟩ = some (.int .i64 0) := Br1.out.cell 3
  have f3 := Ba1.out.free 3
  go_wp2_with fail
  refine (M2.out _).mono ?_
  rintro e w2 ⟨rfl, hb⟩
  have s1 := HB1.out.setCell (show w.heap.size ≤ (⟨w.heap.size, 3, none⟩ : Addr).block from Nat.le_refl _) (.int .i64 (ea + k))
  have A2 := hide ((Ba1.out.set3 (.int .i64 (ea + k))).below hb (Ba1.out.set3 (.int .i64 (ea + k))).lt)
  have R2 := hide ((Br1.out.other (a := ⟨w.heap.size, 3, none⟩) (by simp) (.int .i64 (ea + k))).below hb (Br1.out.other (a := ⟨w.heap.size, 3, none⟩) (by simp) (.int .i64 (ea + k))).lt)
  have HB2 := hide (s1.trans (hb.mono s1.size))
  clear hb s1 Ba1 Br1 HB1 f3 ya0 ya1 ya2 ya3 yr0 yr1 yr2 yr3
  have ya0 : w2.cell? ⟨w.heap.size, 0, none⟩ = some (.int .i64 ca) := A2.out.cell 0
  have ya1 : w2.cell? ⟨w.heap.size, 1, none⟩ = some (.bool na) := A2.out.cell 1
  have ya2 : w2.cell? ⟨w.heap.size, 2, none⟩ = some (.string ta) := A2.out.cell 2
  have ya3 : w2.cell? ⟨w.heap.size, 3, none⟩ = some (.int .i64 (ea + k)) := A2.out.cell 3
  have yr0 : w2.cell? ⟨w.heap.size + 1, 0, none⟩ = some (.int .i64 0) := R2.out.cell 0
  have fr0 := R2.out.free 0
  have yr1 : w2.cell? ⟨w.heap.size + 1, 1, none⟩ = some (.bool false) := R2.out.cell 1
  have fr1 := R2.out.free 1
  have yr2 : w2.cell? ⟨w.heap.size + 1, 2, none⟩ = some (.string ⟨#[]⟩) := R2.out.cell 2
  have fr2 := R2.out.free 2
  have yr3 : w2.cell? ⟨w.heap.size + 1, 3, none⟩ = some (.int .i64 0) := R2.out.cell 3
  have fr3 := R2.out.free 3
  go_wp2
  refine bodyPost_ret (results_dec2 rfl _ _ _ _ _ _ _ rfl (R2.out.put4 _ _ _ _)) rfl ?_
  exact ⟨rfl, below_put4 HB2.out (by omega) _ _ _ _⟩

end Go.Proofs.YtafljhfamjabeaaGreatDoor
