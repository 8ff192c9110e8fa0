/-
  The walk of DecPlaces.
-/
import Derived.Test.YtafljhfamjabeaaGreatDoorZB7
namespace Go.Proofs.YtafljhfamjabeaaGreatDoor
open Go.RowKit

set_option maxRecDepth 100000 in
set_option maxHeartbeats 2000000 in
theorem places_no (ca : Int) (na : Bool) (ta : ByteArray) (ea : Int) (k : Int) (w : World) (htab : Tab w) (h1 : ∀ W, Calls Tryz.prog 14 #[dcV ca na ta ea] W fun e w' => e = .returned (.bool false) ∧ Below W.heap.size W w') (h2 : ∀ W, Calls Tryz.prog 16 #[dcV ca na ta ea] W fun e w' => e = .returned (.int .i64 0) ∧ Below W.heap.size W w') : Calls Tryz.prog 12 #[.agg #[.int .i64 ca, .bool na, .string ta, .int .i64 ea], .int .i64 k] w fun e w' => e = .returned (.bool true) ∧ Below w.heap.size w w' := by
  have H1 := hide h1
  have H2 := hide h2
  have HT := hide htab
  clear htab h1 h2
  have Ba0 := hide (Blk.newAt w (w.heap.size) (rfl) #[.int .i64 ca, .bool na, .string ta, .int .i64 ea] 23)
  have HB0 : Hid (Below w.heap.size w (w.alloc (.cells #[.int .i64 ca, .bool na, .string ta, .int .i64 ea] 23))) := ((Below.refl _ _).alloc (Nat.le_refl _) _)
  go_enter Tryz.func12, Tryz.ntmps12
  go_wp2_with fail
  refine (dawake_any _ (HT.out.below HB0.out)).mono ?_
  rintro e w1 ⟨rfl, hb⟩
  have Ba1 := hide (Ba0.out.below hb Ba0.out.lt)
  have HB1 := hide (HB0.out.trans (hb.mono HB0.out.size))
  clear hb Ba0 HB0 
  have ya0 : w1.cell? ⟨w.heap.size, 0, none⟩ = some (.int .i64 ca) := Ba1.out.cell 0
  have ya1 : w1.cell? ⟨w.heap.size, 1, none⟩ = some (.bool na) := Ba1.out.cell 1
  have ya2 : w1.cell? ⟨w.heap.size, 2, none⟩ = some (.string ta) := Ba1.out.cell 2
  have ya3 : w1.cell? ⟨w.heap.size, 3, none⟩ = some (.int .i64 ea) := Ba1.out.cell 3
  go_wp2_with fail
  refine (H1.out _).mono ?_
  rintro e w2 ⟨rfl, hb⟩
  have Ba2 := hide (Ba1.out.below hb Ba1.out.lt)
  have HB2 := hide (HB1.out.trans (hb.mono HB1.out.size))
  clear hb Ba1 HB1 ya0 ya1 ya2 ya3
  have ya0 : w2.cell? ⟨w.heap.size, 0, none⟩ = some (.int .i64 ca) := Ba2.out.cell 0
  have ya1 : w2.cell? ⟨w.heap.size, 1, none⟩ = some (.bool na) := Ba2.out.cell 1
  have ya2 : w2.cell? ⟨w.heap.size, 2, none⟩ = some (.string ta) := Ba2.out.cell 2
  have ya3 : w2.cell? ⟨w.heap.size, 3, none⟩ = some (.int .i64 ea) := Ba2.out.cell 3
  go_wp2_with fail
  refine (H2.out _).mono ?_
  rintro e w3 ⟨rfl, hb⟩
  have Ba3 := hide (Ba2.out.below hb Ba2.out.lt)
  have HB3 := hide (HB2.out.trans (hb.mono HB2.out.size))
  clear hb Ba2 HB2 ya0 ya1 ya2 ya3
  have ya0 : w3.cell? ⟨w.heap.size, 0, none⟩ = some (.int .i64 ca) := Ba3.out.cell 0
  have ya1 : w3.cell? ⟨w.heap.size, 1, none⟩ = some (.bool na) := Ba3.out.cell 1
  have ya2 : w3.cell? ⟨w.heap.size, 2, none⟩ = some (.string ta) := Ba3.out.cell 2
  have ya3 : w3.cell? ⟨w.heap.size, 3, none⟩ = some (.int .i64 ea) := Ba3.out.cell 3
  go_wp2
  go_ret
  exact ⟨rfl, HB3.out⟩

set_option maxRecDepth 100000 in
set_option maxHeartbeats 2000000 in
theorem places_cls (ca : Int) (na : Bool) (ta : ByteArray) (ea : Int) (k : Int) (w : World) (htab : Tab w) (hc : ca ≠ 0) (h1 : ∀ W, Calls Tryz.prog 14 #[dcV ca na ta ea] W fun e w' => e = .returned (.bool true) ∧ Below W.heap.size W w') (h2 : ∀ W, Calls Tryz.prog 16 #[dcV ca na ta ea] W fun e w' => e = .returned (.int .i64 0) ∧ Below W.heap.size W w') : Calls Tryz.prog 12 #[.agg #[.int .i64 ca, .bool na, .string ta, .int .i64 ea], .int .i64 k] w fun e w' => e = .returned (.bool true) ∧ Below w.heap.size w w' := by
  have H1 := hide h1
  have H2 := hide h2
  have HT := hide htab
  clear htab h1 h2
  have hc' : (ca != 0) = true := by simpa using hc
  clear hc
  have Ba0 := hide (Blk.newAt w (w.heap.size) (rfl) #[.int .i64 ca, .bool na, .string ta, .int .i64 ea] 23)
  have HB0 : Hid (Below w.heap.size w (w.alloc (.cells #[.int .i64 ca, .bool na, .string ta, .int .i64 ea] 23))) := ((Below.refl _ _).alloc (Nat.le_refl _) _)
  go_enter Tryz.func12, Tryz.ntmps12
  go_wp2_with fail
  refine (dawake_any _ (HT.out.below HB0.out)).mono ?_
  rintro e w1 ⟨rfl, hb⟩
  have Ba1 := hide (Ba0.out.below hb Ba0.out.lt)
  have HB1 := hide (HB0.out.trans (hb.mono HB0.out.size))
  clear hb Ba0 HB0 
  have ya0 : w1.cell? ⟨w.heap.size, 0, none⟩ = some (.int .i64 ca) := Ba1.out.cell 0
  have ya1 : w1.cell? ⟨w.heap.size, 1, none⟩ = some (.bool na) := Ba1.out.cell 1
  have ya2 : w1.cell? ⟨w.heap.size, 2, none⟩ = some (.string ta) := Ba1.out.cell 2
  have ya3 : w1.cell? ⟨w.heap.size, 3, none⟩ = some (.int .i64 ea) := Ba1.out.cell 3
  go_wp2_with fail
  refine (H1.out _).mono ?_
  rintro e w2 ⟨rfl, hb⟩
  have Ba2 := hide (Ba1.out.below hb Ba1.out.lt)
  have HB2 := hide (HB1.out.trans (hb.mono HB1.out.size))
  clear hb Ba1 HB1 ya0 ya1 ya2 ya3
  have ya0 : w2.cell? ⟨w.heap.size, 0, none⟩ = some (.int .i64 ca) := Ba2.out.cell 0
  have ya1 : w2.cell? ⟨w.heap.size, 1, none⟩ = some (.bool na) := Ba2.out.cell 1
  have ya2 : w2.cell? ⟨w.heap.size, 2, none⟩ = some (.string ta) := Ba2.out.cell 2
  have ya3 : w2.cell? ⟨w.heap.size, 3, none⟩ = some (.int .i64 ea) := Ba2.out.cell 3
  go_wp2_with fail
  refine (H2.out _).mono ?_
  rintro e w3 ⟨rfl, hb⟩
  have Ba3 := hide (Ba2.out.below hb Ba2.out.lt)
  have HB3 := hide (HB2.out.trans (hb.mono HB2.out.size))
  clear hb Ba2 HB2 ya0 ya1 ya2 ya3
  have ya0 : w3.cell? ⟨w.heap.size, 0, none⟩ = some (.int .i64 ca) := Ba3.out.cell 0
  have ya1 : w3.cell? ⟨w.heap.size, 1, none⟩ = some (.bool na) := Ba3.out.cell 1
  have ya2 : w3.cell? ⟨w.heap.size, 2, none⟩ = some (.string ta) := Ba3.out.cell 2
  have ya3 : w3.cell? ⟨w.heap.size, 3, none⟩ = some (.int .i64 ea) := Ba3.out.cell 3
  go_wp2
  go_ret
  exact ⟨rfl, HB3.out⟩

set_option maxRecDepth 100000 in
set_option maxHeartbeats 2000000 in
theorem places_zero (na : Bool) (ea : Int) (k : Int) (w : World) (htab : Tab w) (h1 : ∀ W, Calls Tryz.prog 14 #[.agg #[.int .i64 0, .bool na, .string ⟨#[]⟩, .int .i64 ea]] W fun e w' => e = .returned (.bool true) ∧ Below W.heap.size W w') (h2 : ∀ W, Calls Tryz.prog 16 #[.agg #[.int .i64 0, .bool na, .string ⟨#[]⟩, .int .i64 ea]] W fun e w' => e = .returned (.int .i64 0) ∧ Below W.heap.size W w') : Calls Tryz.prog 12 #[.agg #[.int .i64 0, .bool na, .string ⟨#[]⟩, .int .i64 ea], .int .i64 k] w fun e w' => e = .returned (.bool true) ∧ Below w.heap.size w w' := by
  have H1 := hide h1
  have H2 := hide h2
  have HT := hide htab
  clear htab h1 h2
  have Ba0 := hide (Blk.newAt w (w.heap.size) (rfl) #[.int .i64 0, .bool na, .string ⟨#[]⟩, .int .i64 ea] 23)
  have HB0 : Hid (Below w.heap.size w (w.alloc (.cells #[.int .i64 0, .bool na, .string ⟨#[]⟩, .int .i64 ea] 23))) := ((Below.refl _ _).alloc (Nat.le_refl _) _)
  go_enter Tryz.func12, Tryz.ntmps12
  go_wp2_with fail
  refine (dawake_any _ (HT.out.below HB0.out)).mono ?_
  rintro e w1 ⟨rfl, hb⟩
  have Ba1 := hide (Ba0.out.below hb Ba0.out.lt)
  have HB1 := hide (HB0.out.trans (hb.mono HB0.out.size))
  clear hb Ba0 HB0 
  have ya0 : w1.cell? ⟨w.heap.size, 0, none⟩ = some (.int .i64 0) := Ba1.out.cell 0
  have ya1 : w1.cell? ⟨w.heap.size, 1, none⟩ = some (.bool na) := Ba1.out.cell 1
  have ya2 : w1.cell? ⟨w.heap.size, 2, none⟩ = some (.string ⟨#[]⟩) := Ba1.out.cell 2
  have ya3 : w1.cell? ⟨w.heap.size, 3, none⟩ = some (.int .i64 ea) := Ba1.out.cell 3
  go_wp2_with fail
  refine (H1.out _).mono ?_
  rintro e w2 ⟨rfl, hb⟩
  have Ba2 := hide (Ba1.out.below hb Ba1.out.lt)
  have HB2 := hide (HB1.out.trans (hb.mono HB1.out.size))
  clear hb Ba1 HB1 ya0 ya1 ya2 ya3
  have ya0 : w2.cell? ⟨w.heap.size, 0, none⟩ = some (.int .i64 0) := Ba2.out.cell 0
  have ya1 : w2.cell? ⟨w.heap.size, 1, none⟩ = some (.bool na) := Ba2.out.cell 1
  have ya2 : w2.cell? ⟨w.heap.size, 2, none⟩ = some (.string ⟨#[]⟩) := Ba2.out.cell 2
  have ya3 : w2.cell? ⟨w.heap.size, 3, none⟩ = some (.int .i64 ea) := Ba2.out.cell 3
  go_wp2_with fail
  refine (H2.out _).mono ?_
  rintro e w3 ⟨rfl, hb⟩
  have Ba3 := hide (Ba2.out.below hb Ba2.out.lt)
  have HB3 := hide (HB2.out.trans (hb.mono HB2.out.size))
  clear hb Ba2 HB2 ya0 ya1 ya2 ya3
  have ya0 : w3.cell? ⟨w.heap.size, 0, none⟩ = some (.int .i64 0) := Ba3.out.cell 0
  have ya1 : w3.cell? ⟨w.heap.size, 1, none⟩ = some (.bool na) := Ba3.out.cell 1
  have ya2 : w3.cell? ⟨w.heap.size, 2, none⟩ = some (.string ⟨#[]⟩) := Ba3.out.cell 2
  have ya3 : w3.cell? ⟨w.heap.size, 3, none⟩ = some (.int .i64 ea) := Ba3.out.cell 3
  go_wp2
  go_ret
  exact ⟨rfl, HB3.out⟩

set_option maxRecDepth 100000 in
set_option maxHeartbeats 4000000 in
theorem places_top_low (na : Bool) (ta : ByteArray) (ea p c2 : Int) (k : Int) (w : World) (htab : Tab w) (h0 : ta.size ≠ 0) (hp1 : -2000 ≤ p) (hp2 : 2000 ≤ p) (_hp3 : p ≤ 2000) (hc2 : 0 ≤ c2) (hk : k < -2000 - p) (h1 : ∀ W, Calls Tryz.prog 14 #[.agg #[.int .i64 0, .bool na, .string ta, .int .i64 ea]] W fun e w' => e = .returned (.bool true) ∧ Below W.heap.size W w') (h2 : ∀ W, Calls Tryz.prog 16 #[.agg #[.int .i64 0, .bool na, .string ta, .int .i64 ea]] W fun e w' => e = .returned (.int .i64 p) ∧ Below W.heap.size W w') (h4 : ∀ W, Calls Tryz.prog 22 #[.agg #[.int .i64 0, .bool false, .string ta, .int .i64 ea], .agg #[.int .i64 0, .bool false, .string ⟨#[49]⟩, .int .i64 (p - 1)]] W fun e w' => e = .returned (.tuple #[.int .i64 c2, .int .i64 0]) ∧ Below W.heap.size W w') (h5 : ∀ W, Calls Tryz.prog 26 #[.agg #[.int .i64 0, .bool false, .string ta, .int .i64 ea], .int .i64 k] W fun e w' => e = .returned (.tuple #[.agg #[.int .i64 0, .bool false, .string ⟨#[]⟩, .int .i64 0], .int .i64 51]) ∧ Below W.heap.size W w') : Calls Tryz.prog 12 #[.agg #[.int .i64 0, .bool na, .string ta, .int .i64 ea], .int .i64 k] w fun e w' => e = .returned (.bool true) ∧ Below w.heap.size w w' := by
  have H1 := hide h1
  have H2 := hide h2
  have H4 := hide h4
  have H5 := hide h5
  have HT := hide htab
  clear htab h1 h2 h4 h5
  have h0x := toList_ne h0
  clear h0
  have hp : decide (p < 2000) = false := decide_eq_false (by omega)
  clear hp2
  have hc : decide (c2 < 0) = false := decide_eq_false (by omega)
  have k1 : decide (2000 - p < k) = false := decide_eq_false (by omega)
  have k2 : decide (k < -2000 - p) = true := decide_eq_true (by omega)
  have Ba0 := hide (Blk.newAt w (w.heap.size) (rfl) #[.int .i64 0, .bool na, .string ta, .int .i64 ea] 23)
  have HB0 : Hid (Below w.heap.size w (w.alloc (.cells #[.int .i64 0, .bool na, .string ta, .int .i64 ea] 23))) := ((Below.refl _ _).alloc (Nat.le_refl _) _)
  go_enter Tryz.func12, Tryz.ntmps12
  go_wp2_with fail
  refine (dawake_any _ (HT.out.below HB0.out)).mono ?_
  rintro e w1 ⟨rfl, hb⟩
  have Ba1 := hide (Ba0.out.below hb Ba0.out.lt)
  have HB1 := hide (HB0.out.trans (hb.mono HB0.out.size))
  clear hb Ba0 HB0 
  have ya0 : w1.cell? ⟨w.heap.size, 0, none⟩ = some (.int .i64 0) := Ba1.out.cell 0
  have ya1 : w1.cell? ⟨w.heap.size, 1, none⟩ = some (.bool na) := Ba1.out.cell 1
  have ya2 : w1.cell? ⟨w.heap.size, 2, none⟩ = some (.string ta) := Ba1.out.cell 2
  have ya3 : w1.cell? ⟨w.heap.size, 3, none⟩ = some (.int .i64 ea) := Ba1.out.cell 3
  go_wp2_with fail
  refine (H1.out _).mono ?_
  rintro e w2 ⟨rfl, hb⟩
  have Ba2 := hide (Ba1.out.below hb Ba1.out.lt)
  have HB2 := hide (HB1.out.trans (hb.mono HB1.out.size))
  clear hb Ba1 HB1 ya0 ya1 ya2 ya3
  have ya0 : w2.cell? ⟨w.heap.size, 0, none⟩ = some (.int .i64 0) := Ba2.out.cell 0
  have ya1 : w2.cell? ⟨w.heap.size, 1, none⟩ = some (.bool na) := Ba2.out.cell 1
  have ya2 : w2.cell? ⟨w.heap.size, 2, none⟩ = some (.string ta) := Ba2.out.cell 2
  have ya3 : w2.cell? ⟨w.heap.size, 3, none⟩ = some (.int .i64 ea) := Ba2.out.cell 3
  go_wp2_with fail
  refine (H2.out _).mono ?_
  rintro e w3 ⟨rfl, hb⟩
  have Ba3 := hide (Ba2.out.below hb Ba2.out.lt)
  have HB3 := hide (HB2.out.trans (hb.mono HB2.out.size))
  clear hb Ba2 HB2 ya0 ya1 ya2 ya3
  have ya0 : w3.cell? ⟨w.heap.size, 0, none⟩ = some (.int .i64 0) := Ba3.out.cell 0
  have ya1 : w3.cell? ⟨w.heap.size, 1, none⟩ = some (.bool na) := Ba3.out.cell 1
  have ya2 : w3.cell? ⟨w.heap.size, 2, none⟩ = some (.string ta) := Ba3.out.cell 2
  have ya3 : w3.cell? ⟨w.heap.size, 3, none⟩ = some (.int .i64 ea) := Ba3.out.cell 3
  have fa1x := Ba3.out.free 1
  have Ba4 := hide (Ba3.out.set1 (.bool false))
  have HB4 : Hid (Below w.heap.size w (w3.setCell ⟨w.heap.size, 1, none⟩ (.bool false))) := HB3.out.setCell (by simp <;> omega) _
  clear Ba3 HB3
  go_wp2_with fail
  refine (H4.out _).mono ?_
  rintro e w5 ⟨rfl, hb⟩
  have Ba5 := hide (Ba4.out.below hb Ba4.out.lt)
  have HB5 := hide (HB4.out.trans (hb.mono HB4.out.size))
  clear hb Ba4 HB4 ya0 ya1 ya2 ya3
  have ya0 : w5.cell? ⟨w.heap.size, 0, none⟩ = some (.int .i64 0) := Ba5.out.cell 0
  have ya1 : w5.cell? ⟨w.heap.size, 1, none⟩ = some (.bool false) := Ba5.out.cell 1
  have ya2 : w5.cell? ⟨w.heap.size, 2, none⟩ = some (.string ta) := Ba5.out.cell 2
  have ya3 : w5.cell? ⟨w.heap.size, 3, none⟩ = some (.int .i64 ea) := Ba5.out.cell 3
  go_wp2_with fail
  refine (H5.out _).mono ?_
  rintro e w6 ⟨rfl, hb⟩
  have Ba6 := hide (Ba5.out.below hb Ba5.out.lt)
  have HB6 := hide (HB5.out.trans (hb.mono HB5.out.size))
  clear hb Ba5 HB5 ya0 ya1 ya2 ya3
  have ya0 : w6.cell? ⟨w.heap.size, 0, none⟩ = some (.int .i64 0) := Ba6.out.cell 0
  have ya1 : w6.cell? ⟨w.heap.size, 1, none⟩ = some (.bool false) := Ba6.out.cell 1
  have ya2 : w6.cell? ⟨w.heap.size, 2, none⟩ = some (.string ta) := Ba6.out.cell 2
  have ya3 : w6.cell? ⟨w.heap.size, 3, none⟩ = some (.int .i64 ea) := Ba6.out.cell 3
  have Ba7 := hide ((Ba6.out.alloc (.cells #[.int .i64 0, .bool false, .string ⟨#[]⟩, .int .i64 0] 23)))
  have Bs7 := hide ((Blk.newAt w6 (w6.heap.size) (rfl) #[.int .i64 0, .bool false, .string ⟨#[]⟩, .int .i64 0] 23))
  have HB7 : Hid (Below w.heap.size w (w6.alloc (.cells #[.int .i64 0, .bool false, .string ⟨#[]⟩, .int .i64 0] 23))) := (HB6.out.alloc HB6.out.size _)
  clear Ba6 HB6 ya0 ya1 ya2 ya3
  have ya0 : (w6.alloc (.cells #[.int .i64 0, .bool false, .string ⟨#[]⟩, .int .i64 0] 23)).cell? ⟨w.heap.size, 0, none⟩ = some (.int .i64 0) := Ba7.out.cell 0
  have ya1 : (w6.alloc (.cells #[.int .i64 0, .bool false, .string ⟨#[]⟩, .int .i64 0] 23)).cell? ⟨w.heap.size, 1, none⟩ = some (.bool false) := Ba7.out.cell 1
  have ya2 : (w6.alloc (.cells #[.int .i64 0, .bool false, .string ⟨#[]⟩, .int .i64 0] 23)).cell? ⟨w.heap.size, 2, none⟩ = some (.string ta) := Ba7.out.cell 2
  have ya3 : (w6.alloc (.cells #[.int .i64 0, .bool false, .string ⟨#[]⟩, .int .i64 0] 23)).cell? ⟨w.heap.size, 3, none⟩ = some (.int .i64 ea) := Ba7.out.cell 3
  have ys0 : (w6.alloc (.cells #[.int .i64 0, .bool false, .string ⟨#[]⟩, .int .i64 0] 23)).cell? ⟨w6.heap.size, 0, none⟩ = some (.int .i64 0) := Bs7.out.cell 0
  have ys1 : (w6.alloc (.cells #[.int .i64 0, .bool false, .string ⟨#[]⟩, .int .i64 0] 23)).cell? ⟨w6.heap.size, 1, none⟩ = some (.bool false) := Bs7.out.cell 1
  have ys2 : (w6.alloc (.cells #[.int .i64 0, .bool false, .string ⟨#[]⟩, .int .i64 0] 23)).cell? ⟨w6.heap.size, 2, none⟩ = some (.string ⟨#[]⟩) := Bs7.out.cell 2
  have ys3 : (w6.alloc (.cells #[.int .i64 0, .bool false, .string ⟨#[]⟩, .int .i64 0] 23)).cell? ⟨w6.heap.size, 3, none⟩ = some (.int .i64 0) := Bs7.out.cell 3
  go_wp2
  go_ret
  exact ⟨rfl, HB7.out⟩

set_option maxRecDepth 100000 in
set_option maxHeartbeats 4000000 in
theorem places_top_high (na : Bool) (ta : ByteArray) (ea p c2 : Int) (k : Int) (w : World) (htab : Tab w) (h0 : ta.size ≠ 0) (hp1 : -2000 ≤ p) (hp2 : 2000 ≤ p) (_hp3 : p ≤ 2000) (hc2 : 0 ≤ c2) (hk : 2000 - p < k) (h1 : ∀ W, Calls Tryz.prog 14 #[.agg #[.int .i64 0, .bool na, .string ta, .int .i64 ea]] W fun e w' => e = .returned (.bool true) ∧ Below W.heap.size W w') (h2 : ∀ W, Calls Tryz.prog 16 #[.agg #[.int .i64 0, .bool na, .string ta, .int .i64 ea]] W fun e w' => e = .returned (.int .i64 p) ∧ Below W.heap.size W w') (h4 : ∀ W, Calls Tryz.prog 22 #[.agg #[.int .i64 0, .bool false, .string ta, .int .i64 ea], .agg #[.int .i64 0, .bool false, .string ⟨#[49]⟩, .int .i64 (p - 1)]] W fun e w' => e = .returned (.tuple #[.int .i64 c2, .int .i64 0]) ∧ Below W.heap.size W w') (h5 : ∀ W, Calls Tryz.prog 26 #[.agg #[.int .i64 0, .bool false, .string ta, .int .i64 ea], .int .i64 k] W fun e w' => e = .returned (.tuple #[.agg #[.int .i64 0, .bool false, .string ⟨#[]⟩, .int .i64 0], .int .i64 51]) ∧ Below W.heap.size W w') : Calls Tryz.prog 12 #[.agg #[.int .i64 0, .bool na, .string ta, .int .i64 ea], .int .i64 k] w fun e w' => e = .returned (.bool true) ∧ Below w.heap.size w w' := by
  have H1 := hide h1
  have H2 := hide h2
  have H4 := hide h4
  have H5 := hide h5
  have HT := hide htab
  clear htab h1 h2 h4 h5
  have h0x := toList_ne h0
  clear h0
  have hp : decide (p < 2000) = false := decide_eq_false (by omega)
  clear hp2
  have hc : decide (c2 < 0) = false := decide_eq_false (by omega)
  have k1 : decide (2000 - p < k) = true := decide_eq_true (by omega)
  have Ba0 := hide (Blk.newAt w (w.heap.size) (rfl) #[.int .i64 0, .bool na, .string ta, .int .i64 ea] 23)
  have HB0 : Hid (Below w.heap.size w (w.alloc (.cells #[.int .i64 0, .bool na, .string ta, .int .i64 ea] 23))) := ((Below.refl _ _).alloc (Nat.le_refl _) _)
  go_enter Tryz.func12, Tryz.ntmps12
  go_wp2_with fail
  refine (dawake_any _ (HT.out.below HB0.out)).mono ?_
  rintro e w1 ⟨rfl, hb⟩
  have Ba1 := hide (Ba0.out.below hb Ba0.out.lt)
  have HB1 := hide (HB0.out.trans (hb.mono HB0.out.size))
  clear hb Ba0 HB0 
  have ya0 : w1.cell? ⟨w.heap.size, 0, none⟩ = some (.int .i64 0) := Ba1.out.cell 0
  have ya1 : w1.cell? ⟨w.heap.size, 1, none⟩ = some (.bool na) := Ba1.out.cell 1
  have ya2 : w1.cell? ⟨w.heap.size, 2, none⟩ = some (.string ta) := Ba1.out.cell 2
  have ya3 : w1.cell? ⟨w.heap.size, 3, none⟩ = some (.int .i64 ea) := Ba1.out.cell 3
  go_wp2_with fail
  refine (H1.out _).mono ?_
  rintro e w2 ⟨rfl, hb⟩
  have Ba2 := hide (Ba1.out.below hb Ba1.out.lt)
  have HB2 := hide (HB1.out.trans (hb.mono HB1.out.size))
  clear hb Ba1 HB1 ya0 ya1 ya2 ya3
  have ya0 : w2.cell? ⟨w.heap.size, 0, none⟩ = some (.int .i64 0) := Ba2.out.cell 0
  have ya1 : w2.cell? ⟨w.heap.size, 1, none⟩ = some (.bool na) := Ba2.out.cell 1
  have ya2 : w2.cell? ⟨w.heap.size, 2, none⟩ = some (.string ta) := Ba2.out.cell 2
  have ya3 : w2.cell? ⟨w.heap.size, 3, none⟩ = some (.int .i64 ea) := Ba2.out.cell 3
  go_wp2_with fail
  refine (H2.out _).mono ?_
  rintro e w3 ⟨rfl, hb⟩
  have Ba3 := hide (Ba2.out.below hb Ba2.out.lt)
  have HB3 := hide (HB2.out.trans (hb.mono HB2.out.size))
  clear hb Ba2 HB2 ya0 ya1 ya2 ya3
  have ya0 : w3.cell? ⟨w.heap.size, 0, none⟩ = some (.int .i64 0) := Ba3.out.cell 0
  have ya1 : w3.cell? ⟨w.heap.size, 1, none⟩ = some (.bool na) := Ba3.out.cell 1
  have ya2 : w3.cell? ⟨w.heap.size, 2, none⟩ = some (.string ta) := Ba3.out.cell 2
  have ya3 : w3.cell? ⟨w.heap.size, 3, none⟩ = some (.int .i64 ea) := Ba3.out.cell 3
  have fa1x := Ba3.out.free 1
  have Ba4 := hide (Ba3.out.set1 (.bool false))
  have HB4 : Hid (Below w.heap.size w (w3.setCell ⟨w.heap.size, 1, none⟩ (.bool false))) := HB3.out.setCell (by simp <;> omega) _
  clear Ba3 HB3
  go_wp2_with fail
  refine (H4.out _).mono ?_
  rintro e w5 ⟨rfl, hb⟩
  have Ba5 := hide (Ba4.out.below hb Ba4.out.lt)
  have HB5 := hide (HB4.out.trans (hb.mono HB4.out.size))
  clear hb Ba4 HB4 ya0 ya1 ya2 ya3
  have ya0 : w5.cell? ⟨w.heap.size, 0, none⟩ = some (.int .i64 0) := Ba5.out.cell 0
  have ya1 : w5.cell? ⟨w.heap.size, 1, none⟩ = some (.bool false) := Ba5.out.cell 1
  have ya2 : w5.cell? ⟨w.heap.size, 2, none⟩ = some (.string ta) := Ba5.out.cell 2
  have ya3 : w5.cell? ⟨w.heap.size, 3, none⟩ = some (.int .i64 ea) := Ba5.out.cell 3
  go_wp2_with fail
  refine (H5.out _).mono ?_
  rintro e w6 ⟨rfl, hb⟩
  have Ba6 := hide (Ba5.out.below hb Ba5.out.lt)
  have HB6 := hide (HB5.out.trans (hb.mono HB5.out.size))
  clear hb Ba5 HB5 ya0 ya1 ya2 ya3
  have ya0 : w6.cell? ⟨w.heap.size, 0, none⟩ = some (.int .i64 0) := Ba6.out.cell 0
  have ya1 : w6.cell? ⟨w.heap.size, 1, none⟩ = some (.bool false) := Ba6.out.cell 1
  have ya2 : w6.cell? ⟨w.heap.size, 2, none⟩ = some (.string ta) := Ba6.out.cell 2
  have ya3 : w6.cell? ⟨w.heap.size, 3, none⟩ = some (.int .i64 ea) := Ba6.out.cell 3
  have Ba7 := hide ((Ba6.out.alloc (.cells #[.int .i64 0, .bool false, .string ⟨#[]⟩, .int .i64 0] 23)))
  have Bs7 := hide ((Blk.newAt w6 (w6.heap.size) (rfl) #[.int .i64 0, .bool false, .string ⟨#[]⟩, .int .i64 0] 23))
  have HB7 : Hid (Below w.heap.size w (w6.alloc (.cells #[.int .i64 0, .bool false, .string ⟨#[]⟩, .int .i64 0] 23))) := (HB6.out.alloc HB6.out.size _)
  clear Ba6 HB6 ya0 ya1 ya2 ya3
  have ya0 : (w6.alloc (.cells #[.int .i64 0, .bool false, .string ⟨#[]⟩, .int .i64 0] 23)).cell? ⟨w.heap.size, 0, none⟩ = some (.int .i64 0) := Ba7.out.cell 0
  have ya1 : (w6.alloc (.cells #[.int .i64 0, .bool false, .string ⟨#[]⟩, .int .i64 0] 23)).cell? ⟨w.heap.size, 1, none⟩ = some (.bool false) := Ba7.out.cell 1
  have ya2 : (w6.alloc (.cells #[.int .i64 0, .bool false, .string ⟨#[]⟩, .int .i64 0] 23)).cell? ⟨w.heap.size, 2, none⟩ = some (.string ta) := Ba7.out.cell 2
  have ya3 : (w6.alloc (.cells #[.int .i64 0, .bool false, .string ⟨#[]⟩, .int .i64 0] 23)).cell? ⟨w.heap.size, 3, none⟩ = some (.int .i64 ea) := Ba7.out.cell 3
  have ys0 : (w6.alloc (.cells #[.int .i64 0, .bool false, .string ⟨#[]⟩, .int .i64 0] 23)).cell? ⟨w6.heap.size, 0, none⟩ = some (.int .i64 0) := Bs7.out.cell 0
  have ys1 : (w6.alloc (.cells #[.int .i64 0, .bool false, .string ⟨#[]⟩, .int .i64 0] 23)).cell? ⟨w6.heap.size, 1, none⟩ = some (.bool false) := Bs7.out.cell 1
  have ys2 : (w6.alloc (.cells #[.int .i64 0, .bool false, .string ⟨#[]⟩, .int .i64 0] 23)).cell? ⟨w6.heap.size, 2, none⟩ = some (.string ⟨#[]⟩) := Bs7.out.cell 2
  have ys3 : (w6.alloc (.cells #[.int .i64 0, .bool false, .string ⟨#[]⟩, .int .i64 0] 23)).cell? ⟨w6.heap.size, 3, none⟩ = some (.int .i64 0) := Bs7.out.cell 3
  go_wp2
  go_ret
  exact ⟨rfl, HB7.out⟩

set_option maxRecDepth 100000 in
set_option maxHeartbeats 4000000 in
theorem places_top_in (na : Bool) (ta : ByteArray) (ea p c2 : Int) (k : Int) (w : World) (htab : Tab w) (h0 : ta.size ≠ 0) (hp1 : -2000 ≤ p) (hp2 : 2000 ≤ p) (_hp3 : p ≤ 2000) (hc2 : 0 ≤ c2) (hk1 : -10000 ≤ k) (hk2 : k ≤ 10000) (h1 : ∀ W, Calls Tryz.prog 14 #[.agg #[.int .i64 0, .bool na, .string ta, .int .i64 ea]] W fun e w' => e = .returned (.bool true) ∧ Below W.heap.size W w') (h2 : ∀ W, Calls Tryz.prog 16 #[.agg #[.int .i64 0, .bool na, .string ta, .int .i64 ea]] W fun e w' => e = .returned (.int .i64 p) ∧ Below W.heap.size W w') (h4 : ∀ W, Calls Tryz.prog 22 #[.agg #[.int .i64 0, .bool false, .string ta, .int .i64 ea], .agg #[.int .i64 0, .bool false, .string ⟨#[49]⟩, .int .i64 (p - 1)]] W fun e w' => e = .returned (.tuple #[.int .i64 c2, .int .i64 0]) ∧ Below W.heap.size W w') (h5 : ∀ W, Calls Tryz.prog 26 #[.agg #[.int .i64 0, .bool false, .string ta, .int .i64 ea], .int .i64 k] W fun e w' => e = .returned (.tuple #[.agg #[.int .i64 0, .bool false, .string ta, .int .i64 (ea + k)], .int .i64 0]) ∧ Below W.heap.size W w') (h6 : ∀ W, Calls Tryz.prog 26 #[.agg #[.int .i64 0, .bool false, .string ta, .int .i64 (ea + k)], .int .i64 (-k)] W fun e w' => e = .returned (.tuple #[.agg #[.int .i64 0, .bool false, .string ta, .int .i64 ea], .int .i64 0]) ∧ Below W.heap.size W w') (h7 : ∀ W, Calls Tryz.prog 16 #[.agg #[.int .i64 0, .bool false, .string ta, .int .i64 (ea + k)]] W fun e w' => e = .returned (.int .i64 (p + k)) ∧ Below W.heap.size W w') : Calls Tryz.prog 12 #[.agg #[.int .i64 0, .bool na, .string ta, .int .i64 ea], .int .i64 k] w fun e w' => e = .returned (.bool true) ∧ Below w.heap.size w w' := by
  have H1 := hide h1
  have H2 := hide h2
  have H4 := hide h4
  have H5 := hide h5
  have H6 := hide h6
  have H7 := hide h7
  have HT := hide htab
  clear htab h1 h2 h4 h5 h6 h7
  have h0x := toList_ne h0
  clear h0
  have hp : decide (p < 2000) = false := decide_eq_false (by omega)
  clear hp2
  have hc : decide (c2 < 0) = false := decide_eq_false (by omega)
  have hq : p + k = p + k := rfl
  have Ba0 := hide (Blk.newAt w (w.heap.size) (rfl) #[.int .i64 0, .bool na, .string ta, .int .i64 ea] 23)
  have HB0 : Hid (Below w.heap.size w (w.alloc (.cells #[.int .i64 0, .bool na, .string ta, .int .i64 ea] 23))) := ((Below.refl _ _).alloc (Nat.le_refl _) _)
  go_enter Tryz.func12, Tryz.ntmps12
  go_wp2_with fail
  refine (dawake_any _ (HT.out.below HB0.out)).mono ?_
  rintro e w1 ⟨rfl, hb⟩
  have Ba1 := hide (Ba0.out.below hb Ba0.out.lt)
  have HB1 := hide (HB0.out.trans (hb.mono HB0.out.size))
  clear hb Ba0 HB0 
  have ya0 : w1.cell? ⟨w.heap.size, 0, none⟩ = some (.int .i64 0) := Ba1.out.cell 0
  have ya1 : w1.cell? ⟨w.heap.size, 1, none⟩ = some (.bool na) := Ba1.out.cell 1
  have ya2 : w1.cell? ⟨w.heap.size, 2, none⟩ = some (.string ta) := Ba1.out.cell 2
  have ya3 : w1.cell? ⟨w.heap.size, 3, none⟩ = some (.int .i64 ea) := Ba1.out.cell 3
  go_wp2_with fail
  refine (H1.out _).mono ?_
  rintro e w2 ⟨rfl, hb⟩
  have Ba2 := hide (Ba1.out.below hb Ba1.out.lt)
  have HB2 := hide (HB1.out.trans (hb.mono HB1.out.size))
  clear hb Ba1 HB1 ya0 ya1 ya2 ya3
  have ya0 : w2.cell? ⟨w.heap.size, 0, none⟩ = some (.int .i64 0) := Ba2.out.cell 0
  have ya1 : w2.cell? ⟨w.heap.size, 1, none⟩ = some (.bool na) := Ba2.out.cell 1
  have ya2 : w2.cell? ⟨w.heap.size, 2, none⟩ = some (.string ta) := Ba2.out.cell 2
  have ya3 : w2.cell? ⟨w.heap.size, 3, none⟩ = some (.int .i64 ea) := Ba2.out.cell 3
  go_wp2_with fail
  refine (H2.out _).mono ?_
  rintro e w3 ⟨rfl, hb⟩
  have Ba3 := hide (Ba2.out.below hb Ba2.out.lt)
  have HB3 := hide (HB2.out.trans (hb.mono HB2.out.size))
  clear hb Ba2 HB2 ya0 ya1 ya2 ya3
  have ya0 : w3.cell? ⟨w.heap.size, 0, none⟩ = some (.int .i64 0) := Ba3.out.cell 0
  have ya1 : w3.cell? ⟨w.heap.size, 1, none⟩ = some (.bool na) := Ba3.out.cell 1
  have ya2 : w3.cell? ⟨w.heap.size, 2, none⟩ = some (.string ta) := Ba3.out.cell 2
  have ya3 : w3.cell? ⟨w.heap.size, 3, none⟩ = some (.int .i64 ea) := Ba3.out.cell 3
  have fa1x := Ba3.out.free 1
  have Ba4 := hide (Ba3.out.set1 (.bool false))
  have HB4 : Hid (Below w.heap.size w (w3.setCell ⟨w.heap.size, 1, none⟩ (.bool false))) := HB3.out.setCell (by simp <;> omega) _
  clear Ba3 HB3
  go_wp2_with fail
  refine (H4.out _).mono ?_
  rintro e w5 ⟨rfl, hb⟩
  have Ba5 := hide (Ba4.out.below hb Ba4.out.lt)
  have HB5 := hide (HB4.out.trans (hb.mono HB4.out.size))
  clear hb Ba4 HB4 ya0 ya1 ya2 ya3
  have ya0 : w5.cell? ⟨w.heap.size, 0, none⟩ = some (.int .i64 0) := Ba5.out.cell 0
  have ya1 : w5.cell? ⟨w.heap.size, 1, none⟩ = some (.bool false) := Ba5.out.cell 1
  have ya2 : w5.cell? ⟨w.heap.size, 2, none⟩ = some (.string ta) := Ba5.out.cell 2
  have ya3 : w5.cell? ⟨w.heap.size, 3, none⟩ = some (.int .i64 ea) := Ba5.out.cell 3
  go_wp2_with fail
  refine (H5.out _).mono ?_
  rintro e w6 ⟨rfl, hb⟩
  have Ba6 := hide (Ba5.out.below hb Ba5.out.lt)
  have HB6 := hide (HB5.out.trans (hb.mono HB5.out.size))
  clear hb Ba5 HB5 ya0 ya1 ya2 ya3
  have ya0 : w6.cell? ⟨w.heap.size, 0, none⟩ = some (.int .i64 0) := Ba6.out.cell 0
  have ya1 : w6.cell? ⟨w.heap.size, 1, none⟩ = some (.bool false) := Ba6.out.cell 1
  have ya2 : w6.cell? ⟨w.heap.size, 2, none⟩ = some (.string ta) := Ba6.out.cell 2
  have ya3 : w6.cell? ⟨w.heap.size, 3, none⟩ = some (.int .i64 ea) := Ba6.out.cell 3
  have Ba7 := hide ((Ba6.out.alloc (.cells #[.int .i64 0, .bool false, .string ta, .int .i64 (ea + k)] 23)))
  have Bs7 := hide ((Blk.newAt w6 (w6.heap.size) (rfl) #[.int .i64 0, .bool false, .string ta, .int .i64 (ea + k)] 23))
  have HB7 : Hid (Below w.heap.size w (w6.alloc (.cells #[.int .i64 0, .bool false, .string ta, .int .i64 (ea + k)] 23))) := (HB6.out.alloc HB6.out.size _)
  clear Ba6 HB6 ya0 ya1 ya2 ya3
  have ya0 : (w6.alloc (.cells #[.int .i64 0, .bool false, .string ta, .int .i64 (ea + k)] 23)).cell? ⟨w.heap.size, 0, none⟩ = some (.int .i64 0) := Ba7.out.cell 0
  have ya1 : (w6.alloc (.cells #[.int .i64 0, .bool false, .string ta, .int .i64 (ea + k)] 23)).cell? ⟨w.heap.size, 1, none⟩ = some (.bool false) := Ba7.out.cell 1
  have ya2 : (w6.alloc (.cells #[.int .i64 0, .bool false, .string ta, .int .i64 (ea + k)] 23)).cell? ⟨w.heap.size, 2, none⟩ = some (.string ta) := Ba7.out.cell 2
  have ya3 : (w6.alloc (.cells #[.int .i64 0, .bool false, .string ta, .int .i64 (ea + k)] 23)).cell? ⟨w.heap.size, 3, none⟩ = some (.int .i64 ea) := Ba7.out.cell 3
  have ys0 : (w6.alloc (.cells #[.int .i64 0, .bool false, .string ta, .int .i64 (ea + k)] 23)).cell? ⟨w6.heap.size, 0, none⟩ = some (.int .i64 0) := Bs7.out.cell 0
  have ys1 : (w6.alloc (.cells #[.int .i64 0, .bool false, .string ta, .int .i64 (ea + k)] 23)).cell? ⟨w6.heap.size, 1, none⟩ = some (.bool false) := Bs7.out.cell 1
  have ys2 : (w6.alloc (.cells #[.int .i64 0, .bool false, .string ta, .int .i64 (ea + k)] 23)).cell? ⟨w6.heap.size, 2, none⟩ = some (.string ta) := Bs7.out.cell 2
  have ys3 : (w6.alloc (.cells #[.int .i64 0, .bool false, .string ta, .int .i64 (ea + k)] 23)).cell? ⟨w6.heap.size, 3, none⟩ = some (.int .i64 (ea + k)) := Bs7.out.cell 3
  go_wp2_with fail
  refine (H6.out _).mono ?_
  rintro e w8 ⟨rfl, hb⟩
  have Ba8 := hide (Ba7.out.below hb Ba7.out.lt)
  have Bs8 := hide (Bs7.out.below hb Bs7.out.lt)
  have HB8 := hide (HB7.out.trans (hb.mono HB7.out.size))
  clear hb Ba7 Bs7 HB7 ya0 ya1 ya2 ya3 ys0 ys1 ys2 ys3
  have ya0 : w8.cell? ⟨w.heap.size, 0, none⟩ = some (.int .i64 0) := Ba8.out.cell 0
  have ya1 : w8.cell? ⟨w.heap.size, 1, none⟩ = some (.bool false) := Ba8.out.cell 1
  have ya2 : w8.cell? ⟨w.heap.size, 2, none⟩ = some (.string ta) := Ba8.out.cell 2
  have ya3 : w8.cell? ⟨w.heap.size, 3, none⟩ = some (.int .i64 ea) := Ba8.out.cell 3
  have ys0 : w8.cell? ⟨w6.heap.size, 0, none⟩ = some (.int .i64 0) := Bs8.out.cell 0
  have ys1 : w8.cell? ⟨w6.heap.size, 1, none⟩ = some (.bool false) := Bs8.out.cell 1
  have ys2 : w8.cell? ⟨w6.heap.size, 2, none⟩ = some (.string ta) := Bs8.out.cell 2
  have ys3 : w8.cell? ⟨w6.heap.size, 3, none⟩ = some (.int .i64 (ea + k)) := Bs8.out.cell 3
  have Ba9 := hide ((Ba8.out.alloc (.cells #[.int .i64 0, .bool false, .string ta, .int .i64 ea] 23)))
  have Bs9 := hide ((Bs8.out.alloc (.cells #[.int .i64 0, .bool false, .string ta, .int .i64 ea] 23)))
  have Bt9 := hide ((Blk.newAt w8 (w8.heap.size) (rfl) #[.int .i64 0, .bool false, .string ta, .int .i64 ea] 23))
  have HB9 : Hid (Below w.heap.size w (w8.alloc (.cells #[.int .i64 0, .bool false, .string ta, .int .i64 ea] 23))) := (HB8.out.alloc HB8.out.size _)
  clear Ba8 Bs8 HB8 ya0 ya1 ya2 ya3 ys0 ys1 ys2 ys3
  have ya0 : (w8.alloc (.cells #[.int .i64 0, .bool false, .string ta, .int .i64 ea] 23)).cell? ⟨w.heap.size, 0, none⟩ = some (.int .i64 0) := Ba9.out.cell 0
  have ya1 : (w8.alloc (.cells #[.int .i64 0, .bool false, .string ta, .int .i64 ea] 23)).cell? ⟨w.heap.size, 1, none⟩ = some (.bool false) := Ba9.out.cell 1
  have ya2 : (w8.alloc (.cells #[.int .i64 0, .bool false, .string ta, .int .i64 ea] 23)).cell? ⟨w.heap.size, 2, none⟩ = some (.string ta) := Ba9.out.cell 2
  have ya3 : (w8.alloc (.cells #[.int .i64 0, .bool false, .string ta, .int .i64 ea] 23)).cell? ⟨w.heap.size, 3, none⟩ = some (.int .i64 ea) := Ba9.out.cell 3
  have ys0 : (w8.alloc (.cells #[.int .i64 0, .bool false, .string ta, .int .i64 ea] 23)).cell? ⟨w6.heap.size, 0, none⟩ = some (.int .i64 0) := Bs9.out.cell 0
  have ys1 : (w8.alloc (.cells #[.int .i64 0, .bool false, .string ta, .int .i64 ea] 23)).cell? ⟨w6.heap.size, 1, none⟩ = some (.bool false) := Bs9.out.cell 1
  have ys2 : (w8.alloc (.cells #[.int .i64 0, .bool false, .string ta, .int .i64 ea] 23)).cell? ⟨w6.heap.size, 2, none⟩ = some (.string ta) := Bs9.out.cell 2
  have ys3 : (w8.alloc (.cells #[.int .i64 0, .bool false, .string ta, .int .i64 ea] 23)).cell? ⟨w6.heap.size, 3, none⟩ = some (.int .i64 (ea + k)) := Bs9.out.cell 3
  have yt0 : (w8.alloc (.cells #[.int .i64 0, .bool false, .string ta, .int .i64 ea] 23)).cell? ⟨w8.heap.size, 0, none⟩ = some (.int .i64 0) := Bt9.out.cell 0
  have yt1 : (w8.alloc (.cells #[.int .i64 0, .bool false, .string ta, .int .i64 ea] 23)).cell? ⟨w8.heap.size, 1, none⟩ = some (.bool false) := Bt9.out.cell 1
  have yt2 : (w8.alloc (.cells #[.int .i64 0, .bool false, .string ta, .int .i64 ea] 23)).cell? ⟨w8.heap.size, 2, none⟩ = some (.string ta) := Bt9.out.cell 2
  have yt3 : (w8.alloc (.cells #[.int .i64 0, .bool false, .string ta, .int .i64 ea] 23)).cell? ⟨w8.heap.size, 3, none⟩ = some (.int .i64 ea) := Bt9.out.cell 3
  go_wp2_with fail
  refine (H7.out _).mono ?_
  rintro e w10 ⟨rfl, hb⟩
  have Ba10 := hide (Ba9.out.below hb Ba9.out.lt)
  have Bs10 := hide (Bs9.out.below hb Bs9.out.lt)
  have Bt10 := hide (Bt9.out.below hb Bt9.out.lt)
  have HB10 := hide (HB9.out.trans (hb.mono HB9.out.size))
  clear hb Ba9 Bs9 Bt9 HB9 ya0 ya1 ya2 ya3 ys0 ys1 ys2 ys3 yt0 yt1 yt2 yt3
  have ya0 : w10.cell? ⟨w.heap.size, 0, none⟩ = some (.int .i64 0) := Ba10.out.cell 0
  have ya1 : w10.cell? ⟨w.heap.size, 1, none⟩ = some (.bool false) := Ba10.out.cell 1
  have ya2 : w10.cell? ⟨w.heap.size, 2, none⟩ = some (.string ta) := Ba10.out.cell 2
  have ya3 : w10.cell? ⟨w.heap.size, 3, none⟩ = some (.int .i64 ea) := Ba10.out.cell 3
  have ys0 : w10.cell? ⟨w6.heap.size, 0, none⟩ = some (.int .i64 0) := Bs10.out.cell 0
  have ys1 : w10.cell? ⟨w6.heap.size, 1, none⟩ = some (.bool false) := Bs10.out.cell 1
  have ys2 : w10.cell? ⟨w6.heap.size, 2, none⟩ = some (.string ta) := Bs10.out.cell 2
  have ys3 : w10.cell? ⟨w6.heap.size, 3, none⟩ = some (.int .i64 (ea + k)) := Bs10.out.cell 3
  have yt0 : w10.cell? ⟨w8.heap.size, 0, none⟩ = some (.int .i64 0) := Bt10.out.cell 0
  have yt1 : w10.cell? ⟨w8.heap.size, 1, none⟩ = some (.bool false) := Bt10.out.cell 1
  have yt2 : w10.cell? ⟨w8.heap.size, 2, none⟩ = some (.string ta) := Bt10.out.cell 2
  have yt3 : w10.cell? ⟨w8.heap.size, 3, none⟩ = some (.int .i64 ea) := Bt10.out.cell 3
  go_wp2
  go_ret
  exact ⟨rfl, HB10.out⟩

set_option maxRecDepth 100000 in
set_option maxHeartbeats 4000000 in
theorem places_sub_low (na : Bool) (ta : ByteArray) (ea p c2 : Int) (k : Int) (w : World) (htab : Tab w) (h0 : ta.size ≠ 0) (hp1 : -2000 ≤ p) (hp2 : p < 2000) (hc2 : 0 ≤ c2) (hk : k < -2000 - p) (h1 : ∀ W, Calls Tryz.prog 14 #[.agg #[.int .i64 0, .bool na, .string ta, .int .i64 ea]] W fun e w' => e = .returned (.bool true) ∧ Below W.heap.size W w') (h2 : ∀ W, Calls Tryz.prog 16 #[.agg #[.int .i64 0, .bool na, .string ta, .int .i64 ea]] W fun e w' => e = .returned (.int .i64 p) ∧ Below W.heap.size W w') (h3 : ∀ W, Calls Tryz.prog 22 #[.agg #[.int .i64 0, .bool false, .string ta, .int .i64 ea], .agg #[.int .i64 0, .bool false, .string ⟨#[49]⟩, .int .i64 (p)]] W fun e w' => e = .returned (.tuple #[.int .i64 (-1), .int .i64 0]) ∧ Below W.heap.size W w') (h4 : ∀ W, Calls Tryz.prog 22 #[.agg #[.int .i64 0, .bool false, .string ta, .int .i64 ea], .agg #[.int .i64 0, .bool false, .string ⟨#[49]⟩, .int .i64 (p - 1)]] W fun e w' => e = .returned (.tuple #[.int .i64 c2, .int .i64 0]) ∧ Below W.heap.size W w') (h5 : ∀ W, Calls Tryz.prog 26 #[.agg #[.int .i64 0, .bool false, .string ta, .int .i64 ea], .int .i64 k] W fun e w' => e = .returned (.tuple #[.agg #[.int .i64 0, .bool false, .string ⟨#[]⟩, .int .i64 0], .int .i64 51]) ∧ Below W.heap.size W w') : Calls Tryz.prog 12 #[.agg #[.int .i64 0, .bool na, .string ta, .int .i64 ea], .int .i64 k] w fun e w' => e = .returned (.bool true) ∧ Below w.heap.size w w' := by
  have H1 := hide h1
  have H2 := hide h2
  have H4 := hide h4
  have H5 := hide h5
  have H3 := hide h3
  have HT := hide htab
  clear htab h1 h2 h4 h5 h3
  have h0x := toList_ne h0
  clear h0
  have hp : decide (p < 2000) = true := decide_eq_true (by omega)
  have hc : decide (c2 < 0) = false := decide_eq_false (by omega)
  have k1 : decide (2000 - p < k) = false := decide_eq_false (by omega)
  have k2 : decide (k < -2000 - p) = true := decide_eq_true (by omega)
  have Ba0 := hide (Blk.newAt w (w.heap.size) (rfl) #[.int .i64 0, .bool na, .string ta, .int .i64 ea] 23)
  have HB0 : Hid (Below w.heap.size w (w.alloc (.cells #[.int .i64 0, .bool na, .string ta, .int .i64 ea] 23))) := ((Below.refl _ _).alloc (Nat.le_refl _) _)
  go_enter Tryz.func12, Tryz.ntmps12
  go_wp2_with fail
  refine (dawake_any _ (HT.out.below HB0.out)).mono ?_
  rintro e w1 ⟨rfl, hb⟩
  have Ba1 := hide (Ba0.out.below hb Ba0.out.lt)
  have HB1 := hide (HB0.out.trans (hb.mono HB0.out.size))
  clear hb Ba0 HB0 
  have ya0 : w1.cell? ⟨w.heap.size, 0, none⟩ = some (.int .i64 0) := Ba1.out.cell 0
  have ya1 : w1.cell? ⟨w.heap.size, 1, none⟩ = some (.bool na) := Ba1.out.cell 1
  have ya2 : w1.cell? ⟨w.heap.size, 2, none⟩ = some (.string ta) := Ba1.out.cell 2
  have ya3 : w1.cell? ⟨w.heap.size, 3, none⟩ = some (.int .i64 ea) := Ba1.out.cell 3
  go_wp2_with fail
  refine (H1.out _).mono ?_
  rintro e w2 ⟨rfl, hb⟩
  have Ba2 := hide (Ba1.out.below hb Ba1.out.lt)
  have HB2 := hide (HB1.out.trans (hb.mono HB1.out.size))
  clear hb Ba1 HB1 ya0 ya1 ya2 ya3
  have ya0 : w2.cell? ⟨w.heap.size, 0, none⟩ = some (.int .i64 0) := Ba2.out.cell 0
  have ya1 : w2.cell? ⟨w.heap.size, 1, none⟩ = some (.bool na) := Ba2.out.cell 1
  have ya2 : w2.cell? ⟨w.heap.size, 2, none⟩ = some (.string ta) := Ba2.out.cell 2
  have ya3 : w2.cell? ⟨w.heap.size, 3, none⟩ = some (.int .i64 ea) := Ba2.out.cell 3
  go_wp2_with fail
  refine (H2.out _).mono ?_
  rintro e w3 ⟨rfl, hb⟩
  have Ba3 := hide (Ba2.out.below hb Ba2.out.lt)
  have HB3 := hide (HB2.out.trans (hb.mono HB2.out.size))
  clear hb Ba2 HB2 ya0 ya1 ya2 ya3
  have ya0 : w3.cell? ⟨w.heap.size, 0, none⟩ = some (.int .i64 0) := Ba3.out.cell 0
  have ya1 : w3.cell? ⟨w.heap.size, 1, none⟩ = some (.bool na) := Ba3.out.cell 1
  have ya2 : w3.cell? ⟨w.heap.size, 2, none⟩ = some (.string ta) := Ba3.out.cell 2
  have ya3 : w3.cell? ⟨w.heap.size, 3, none⟩ = some (.int .i64 ea) := Ba3.out.cell 3
  have fa1x := Ba3.out.free 1
  have Ba4 := hide (Ba3.out.set1 (.bool false))
  have HB4 : Hid (Below w.heap.size w (w3.setCell ⟨w.heap.size, 1, none⟩ (.bool false))) := HB3.out.setCell (by simp <;> omega) _
  clear Ba3 HB3
  go_wp2_with fail
  refine (H3.out _).mono ?_
  rintro e w5 ⟨rfl, hb⟩
  have Ba5 := hide (Ba4.out.below hb Ba4.out.lt)
  have HB5 := hide (HB4.out.trans (hb.mono HB4.out.size))
  clear hb Ba4 HB4 ya0 ya1 ya2 ya3
  have ya0 : w5.cell? ⟨w.heap.size, 0, none⟩ = some (.int .i64 0) := Ba5.out.cell 0
  have ya1 : w5.cell? ⟨w.heap.size, 1, none⟩ = some (.bool false) := Ba5.out.cell 1
  have ya2 : w5.cell? ⟨w.heap.size, 2, none⟩ = some (.string ta) := Ba5.out.cell 2
  have ya3 : w5.cell? ⟨w.heap.size, 3, none⟩ = some (.int .i64 ea) := Ba5.out.cell 3
  go_wp2_with fail
  refine (H4.out _).mono ?_
  rintro e w6 ⟨rfl, hb⟩
  have Ba6 := hide (Ba5.out.below hb Ba5.out.lt)
  have HB6 := hide (HB5.out.trans (hb.mono HB5.out.size))
  clear hb Ba5 HB5 ya0 ya1 ya2 ya3
  have ya0 : w6.cell? ⟨w.heap.size, 0, none⟩ = some (.int .i64 0) := Ba6.out.cell 0
  have ya1 : w6.cell? ⟨w.heap.size, 1, none⟩ = some (.bool false) := Ba6.out.cell 1
  have ya2 : w6.cell? ⟨w.heap.size, 2, none⟩ = some (.string ta) := Ba6.out.cell 2
  have ya3 : w6.cell? ⟨w.heap.size, 3, none⟩ = some (.int .i64 ea) := Ba6.out.cell 3
  go_wp2_with fail
  refine (H5.out _).mono ?_
  rintro e w7 ⟨rfl, hb⟩
  have Ba7 := hide (Ba6.out.below hb Ba6.out.lt)
  have HB7 := hide (HB6.out.trans (hb.mono HB6.out.size))
  clear hb Ba6 HB6 ya0 ya1 ya2 ya3
  have ya0 : w7.cell? ⟨w.heap.size, 0, none⟩ = some (.int .i64 0) := Ba7.out.cell 0
  have ya1 : w7.cell? ⟨w.heap.size, 1, none⟩ = some (.bool false) := Ba7.out.cell 1
  have ya2 : w7.cell? ⟨w.heap.size, 2, none⟩ = some (.string ta) := Ba7.out.cell 2
  have ya3 : w7.cell? ⟨w.heap.size, 3, none⟩ = some (.int .i64 ea) := Ba7.out.cell 3
  have Ba8 := hide ((Ba7.out.alloc (.cells #[.int .i64 0, .bool false, .string ⟨#[]⟩, .int .i64 0] 23)))
  have Bs8 := hide ((Blk.newAt w7 (w7.heap.size) (rfl) #[.int .i64 0, .bool false, .string ⟨#[]⟩, .int .i64 0] 23))
  have HB8 : Hid (Below w.heap.size w (w7.alloc (.cells #[.int .i64 0, .bool false, .string ⟨#[]⟩, .int .i64 0] 23))) := (HB7.out.alloc HB7.out.size _)
  clear Ba7 HB7 ya0 ya1 ya2 ya3
  have ya0 : (w7.alloc (.cells #[.int .i64 0, .bool false, .string ⟨#[]⟩, .int .i64 0] 23)).cell? ⟨w.heap.size, 0, none⟩ = some (.int .i64 0) := Ba8.out.cell 0
  have ya1 : (w7.alloc (.cells #[.int .i64 0, .bool false, .string ⟨#[]⟩, .int .i64 0] 23)).cell? ⟨w.heap.size, 1, none⟩ = some (.bool false) := Ba8.out.cell 1
  have ya2 : (w7.alloc (.cells #[.int .i64 0, .bool false, .string ⟨#[]⟩, .int .i64 0] 23)).cell? ⟨w.heap.size, 2, none⟩ = some (.string ta) := Ba8.out.cell 2
  have ya3 : (w7.alloc (.cells #[.int .i64 0, .bool false, .string ⟨#[]⟩, .int .i64 0] 23)).cell? ⟨w.heap.size, 3, none⟩ = some (.int .i64 ea) := Ba8.out.cell 3
  have ys0 : (w7.alloc (.cells #[.int .i64 0, .bool false, .string ⟨#[]⟩, .int .i64 0] 23)).cell? ⟨w7.heap.size, 0, none⟩ = some (.int .i64 0) := Bs8.out.cell 0
  have ys1 : (w7.alloc (.cells #[.int .i64 0, .bool false, .string ⟨#[]⟩, .int .i64 0] 23)).cell? ⟨w7.heap.size, 1, none⟩ = some (.bool false) := Bs8.out.cell 1
  have ys2 : (w7.alloc (.cells #[.int .i64 0, .bool false, .string ⟨#[]⟩, .int .i64 0] 23)).cell? ⟨w7.heap.size, 2, none⟩ = some (.string ⟨#[]⟩) := Bs8.out.cell 2
  have ys3 : (w7.alloc (.cells #[.int .i64 0, .bool false, .string ⟨#[]⟩, .int .i64 0] 23)).cell? ⟨w7.heap.size, 3, none⟩ = some (.int .i64 0) := Bs8.out.cell 3
  go_wp2
  go_ret
  exact ⟨rfl, HB8.out⟩

set_option maxRecDepth 100000 in
set_option maxHeartbeats 4000000 in
theorem places_sub_high (na : Bool) (ta : ByteArray) (ea p c2 : Int) (k : Int) (w : World) (htab : Tab w) (h0 : ta.size ≠ 0) (hp1 : -2000 ≤ p) (hp2 : p < 2000) (hc2 : 0 ≤ c2) (hk : 2000 - p < k) (h1 : ∀ W, Calls Tryz.prog 14 #[.agg #[.int .i64 0, .bool na, .string ta, .int .i64 ea]] W fun e w' => e = .returned (.bool true) ∧ Below W.heap.size W w') (h2 : ∀ W, Calls Tryz.prog 16 #[.agg #[.int .i64 0, .bool na, .string ta, .int .i64 ea]] W fun e w' => e = .returned (.int .i64 p) ∧ Below W.heap.size W w') (h3 : ∀ W, Calls Tryz.prog 22 #[.agg #[.int .i64 0, .bool false, .string ta, .int .i64 ea], .agg #[.int .i64 0, .bool false, .string ⟨#[49]⟩, .int .i64 (p)]] W fun e w' => e = .returned (.tuple #[.int .i64 (-1), .int .i64 0]) ∧ Below W.heap.size W w') (h4 : ∀ W, Calls Tryz.prog 22 #[.agg #[.int .i64 0, .bool false, .string ta, .int .i64 ea], .agg #[.int .i64 0, .bool false, .string ⟨#[49]⟩, .int .i64 (p - 1)]] W fun e w' => e = .returned (.tuple #[.int .i64 c2, .int .i64 0]) ∧ Below W.heap.size W w') (h5 : ∀ W, Calls Tryz.prog 26 #[.agg #[.int .i64 0, .bool false, .string ta, .int .i64 ea], .int .i64 k] W fun e w' => e = .returned (.tuple #[.agg #[.int .i64 0, .bool false, .string ⟨#[]⟩, .int .i64 0], .int .i64 51]) ∧ Below W.heap.size W w') : Calls Tryz.prog 12 #[.agg #[.int .i64 0, .bool na, .string ta, .int .i64 ea], .int .i64 k] w fun e w' => e = .returned (.bool true) ∧ Below w.heap.size w w' := by
  have H1 := hide h1
  have H2 := hide h2
  have H4 := hide h4
  have H5 := hide h5
  have H3 := hide h3
  have HT := hide htab
  clear htab h1 h2 h4 h5 h3
  have h0x := toList_ne h0
  clear h0
  have hp : decide (p < 2000) = true := decide_eq_true (by omega)
  have hc : decide (c2 < 0) = false := decide_eq_false (by omega)
  have k1 : decide (2000 - p < k) = true := decide_eq_true (by omega)
  have Ba0 := hide (Blk.newAt w (w.heap.size) (rfl) #[.int .i64 0, .bool na, .string ta, .int .i64 ea] 23)
  have HB0 : Hid (Below w.heap.size w (w.alloc (.cells #[.int .i64 0, .bool na, .string ta, .int .i64 ea] 23))) := ((Below.refl _ _).alloc (Nat.le_refl _) _)
  go_enter Tryz.func12, Tryz.ntmps12
  go_wp2_with fail
  refine (dawake_any _ (HT.out.below HB0.out)).mono ?_
  rintro e w1 ⟨rfl, hb⟩
  have Ba1 := hide (Ba0.out.below hb Ba0.out.lt)
  have HB1 := hide (HB0.out.trans (hb.mono HB0.out.size))
  clear hb Ba0 HB0 
  have ya0 : w1.cell? ⟨w.heap.size, 0, none⟩ = some (.int .i64 0) := Ba1.out.cell 0
  have ya1 : w1.cell? ⟨w.heap.size, 1, none⟩ = some (.bool na) := Ba1.out.cell 1
  have ya2 : w1.cell? ⟨w.heap.size, 2, none⟩ = some (.string ta) := Ba1.out.cell 2
  have ya3 : w1.cell? ⟨w.heap.size, 3, none⟩ = some (.int .i64 ea) := Ba1.out.cell 3
  go_wp2_with fail
  refine (H1.out _).mono ?_
  rintro e w2 ⟨rfl, hb⟩
  have Ba2 := hide (Ba1.out.below hb Ba1.out.lt)
  have HB2 := hide (HB1.out.trans (hb.mono HB1.out.size))
  clear hb Ba1 HB1 ya0 ya1 ya2 ya3
  have ya0 : w2.cell? ⟨w.heap.size, 0, none⟩ = some (.int .i64 0) := Ba2.out.cell 0
  have ya1 : w2.cell? ⟨w.heap.size, 1, none⟩ = some (.bool na) := Ba2.out.cell 1
  have ya2 : w2.cell? ⟨w.heap.size, 2, none⟩ = some (.string ta) := Ba2.out.cell 2
  have ya3 : w2.cell? ⟨w.heap.size, 3, none⟩ = some (.int .i64 ea) := Ba2.out.cell 3
  go_wp2_with fail
  refine (H2.out _).mono ?_
  rintro e w3 ⟨rfl, hb⟩
  have Ba3 := hide (Ba2.out.below hb Ba2.out.lt)
  have HB3 := hide (HB2.out.trans (hb.mono HB2.out.size))
  clear hb Ba2 HB2 ya0 ya1 ya2 ya3
  have ya0 : w3.cell? ⟨w.heap.size, 0, none⟩ = some (.int .i64 0) := Ba3.out.cell 0
  have ya1 : w3.cell? ⟨w.heap.size, 1, none⟩ = some (.bool na) := Ba3.out.cell 1
  have ya2 : w3.cell? ⟨w.heap.size, 2, none⟩ = some (.string ta) := Ba3.out.cell 2
  have ya3 : w3.cell? ⟨w.heap.size, 3, none⟩ = some (.int .i64 ea) := Ba3.out.cell 3
  have fa1x := Ba3.out.free 1
  have Ba4 := hide (Ba3.out.set1 (.bool false))
  have HB4 : Hid (Below w.heap.size w (w3.setCell ⟨w.heap.size, 1, none⟩ (.bool false))) := HB3.out.setCell (by simp <;> omega) _
  clear Ba3 HB3
  go_wp2_with fail
  refine (H3.out _).mono ?_
  rintro e w5 ⟨rfl, hb⟩
  have Ba5 := hide (Ba4.out.below hb Ba4.out.lt)
  have HB5 := hide (HB4.out.trans (hb.mono HB4.out.size))
  clear hb Ba4 HB4 ya0 ya1 ya2 ya3
  have ya0 : w5.cell? ⟨w.heap.size, 0, none⟩ = some (.int .i64 0) := Ba5.out.cell 0
  have ya1 : w5.cell? ⟨w.heap.size, 1, none⟩ = some (.bool false) := Ba5.out.cell 1
  have ya2 : w5.cell? ⟨w.heap.size, 2, none⟩ = some (.string ta) := Ba5.out.cell 2
  have ya3 : w5.cell? ⟨w.heap.size, 3, none⟩ = some (.int .i64 ea) := Ba5.out.cell 3
  go_wp2_with fail
  refine (H4.out _).mono ?_
  rintro e w6 ⟨rfl, hb⟩
  have Ba6 := hide (Ba5.out.below hb Ba5.out.lt)
  have HB6 := hide (HB5.out.trans (hb.mono HB5.out.size))
  clear hb Ba5 HB5 ya0 ya1 ya2 ya3
  have ya0 : w6.cell? ⟨w.heap.size, 0, none⟩ = some (.int .i64 0) := Ba6.out.cell 0
  have ya1 : w6.cell? ⟨w.heap.size, 1, none⟩ = some (.bool false) := Ba6.out.cell 1
  have ya2 : w6.cell? ⟨w.heap.size, 2, none⟩ = some (.string ta) := Ba6.out.cell 2
  have ya3 : w6.cell? ⟨w.heap.size, 3, none⟩ = some (.int .i64 ea) := Ba6.out.cell 3
  go_wp2_with fail
  refine (H5.out _).mono ?_
  rintro e w7 ⟨rfl, hb⟩
  have Ba7 := hide (Ba6.out.below hb Ba6.out.lt)
  have HB7 := hide (HB6.out.trans (hb.mono HB6.out.size))
  clear hb Ba6 HB6 ya0 ya1 ya2 ya3
  have ya0 : w7.cell? ⟨w.heap.size, 0, none⟩ = some (.int .i64 0) := Ba7.out.cell 0
  have ya1 : w7.cell? ⟨w.heap.size, 1, none⟩ = some (.bool false) := Ba7.out.cell 1
  have ya2 : w7.cell? ⟨w.heap.size, 2, none⟩ = some (.string ta) := Ba7.out.cell 2
  have ya3 : w7.cell? ⟨w.heap.size, 3, none⟩ = some (.int .i64 ea) := Ba7.out.cell 3
  have Ba8 := hide ((Ba7.out.alloc (.cells #[.int .i64 0, .bool false, .string ⟨#[]⟩, .int .i64 0] 23)))
  have Bs8 := hide ((Blk.newAt w7 (w7.heap.size) (rfl) #[.int .i64 0, .bool false, .string ⟨#[]⟩, .int .i64 0] 23))
  have HB8 : Hid (Below w.heap.size w (w7.alloc (.cells #[.int .i64 0, .bool false, .string ⟨#[]⟩, .int .i64 0] 23))) := (HB7.out.alloc HB7.out.size _)
  clear Ba7 HB7 ya0 ya1 ya2 ya3
  have ya0 : (w7.alloc (.cells #[.int .i64 0, .bool false, .string ⟨#[]⟩, .int .i64 0] 23)).cell? ⟨w.heap.size, 0, none⟩ = some (.int .i64 0) := Ba8.out.cell 0
  have ya1 : (w7.alloc (.cells #[.int .i64 0, .bool false, .string ⟨#[]⟩, .int .i64 0] 23)).cell? ⟨w.heap.size, 1, none⟩ = some (.bool false) := Ba8.out.cell 1
  have ya2 : (w7.alloc (.cells #[.int .i64 0, .bool false, .string ⟨#[]⟩, .int .i64 0] 23)).cell? ⟨w.heap.size, 2, none⟩ = some (.string ta) := Ba8.out.cell 2
  have ya3 : (w7.alloc (.cells #[.int .i64 0, .bool false, .string ⟨#[]⟩, .int .i64 0] 23)).cell? ⟨w.heap.size, 3, none⟩ = some (.int .i64 ea) := Ba8.out.cell 3
  have ys0 : (w7.alloc (.cells #[.int .i64 0, .bool false, .string ⟨#[]⟩, .int .i64 0] 23)).cell? ⟨w7.heap.size, 0, none⟩ = some (.int .i64 0) := Bs8.out.cell 0
  have ys1 : (w7.alloc (.cells #[.int .i64 0, .bool false, .string ⟨#[]⟩, .int .i64 0] 23)).cell? ⟨w7.heap.size, 1, none⟩ = some (.bool false) := Bs8.out.cell 1
  have ys2 : (w7.alloc (.cells #[.int .i64 0, .bool false, .string ⟨#[]⟩, .int .i64 0] 23)).cell? ⟨w7.heap.size, 2, none⟩ = some (.string ⟨#[]⟩) := Bs8.out.cell 2
  have ys3 : (w7.alloc (.cells #[.int .i64 0, .bool false, .string ⟨#[]⟩, .int .i64 0] 23)).cell? ⟨w7.heap.size, 3, none⟩ = some (.int .i64 0) := Bs8.out.cell 3
  go_wp2
  go_ret
  exact ⟨rfl, HB8.out⟩

set_option maxRecDepth 100000 in
set_option maxHeartbeats 4000000 in
theorem places_sub_in (na : Bool) (ta : ByteArray) (ea p c2 : Int) (k : Int) (w : World) (htab : Tab w) (h0 : ta.size ≠ 0) (hp1 : -2000 ≤ p) (hp2 : p < 2000) (hc2 : 0 ≤ c2) (hk1 : -10000 ≤ k) (hk2 : k ≤ 10000) (h1 : ∀ W, Calls Tryz.prog 14 #[.agg #[.int .i64 0, .bool na, .string ta, .int .i64 ea]] W fun e w' => e = .returned (.bool true) ∧ Below W.heap.size W w') (h2 : ∀ W, Calls Tryz.prog 16 #[.agg #[.int .i64 0, .bool na, .string ta, .int .i64 ea]] W fun e w' => e = .returned (.int .i64 p) ∧ Below W.heap.size W w') (h3 : ∀ W, Calls Tryz.prog 22 #[.agg #[.int .i64 0, .bool false, .string ta, .int .i64 ea], .agg #[.int .i64 0, .bool false, .string ⟨#[49]⟩, .int .i64 (p)]] W fun e w' => e = .returned (.tuple #[.int .i64 (-1), .int .i64 0]) ∧ Below W.heap.size W w') (h4 : ∀ W, Calls Tryz.prog 22 #[.agg #[.int .i64 0, .bool false, .string ta, .int .i64 ea], .agg #[.int .i64 0, .bool false, .string ⟨#[49]⟩, .int .i64 (p - 1)]] W fun e w' => e = .returned (.tuple #[.int .i64 c2, .int .i64 0]) ∧ Below W.heap.size W w') (h5 : ∀ W, Calls Tryz.prog 26 #[.agg #[.int .i64 0, .bool false, .string ta, .int .i64 ea], .int .i64 k] W fun e w' => e = .returned (.tuple #[.agg #[.int .i64 0, .bool false, .string ta, .int .i64 (ea + k)], .int .i64 0]) ∧ Below W.heap.size W w') (h6 : ∀ W, Calls Tryz.prog 26 #[.agg #[.int .i64 0, .bool false, .string ta, .int .i64 (ea + k)], .int .i64 (-k)] W fun e w' => e = .returned (.tuple #[.agg #[.int .i64 0, .bool false, .string ta, .int .i64 ea], .int .i64 0]) ∧ Below W.heap.size W w') (h7 : ∀ W, Calls Tryz.prog 16 #[.agg #[.int .i64 0, .bool false, .string ta, .int .i64 (ea + k)]] W fun e w' => e = .returned (.int .i64 (p + k)) ∧ Below W.heap.size W w') : Calls Tryz.prog 12 #[.agg #[.int .i64 0, .bool na, .string ta, .int .i64 ea], .int .i64 k] w fun e w' => e = .returned (.bool true) ∧ Below w.heap.size w w' := by
  have H1 := hide h1
  have H2 := hide h2
  have H4 := hide h4
  have H5 := hide h5
  have H3 := hide h3
  have H6 := hide h6
  have H7 := hide h7
  have HT := hide htab
  clear htab h1 h2 h4 h5 h3 h6 h7
  have h0x := toList_ne h0
  clear h0
  have hp : decide (p < 2000) = true := decide_eq_true (by omega)
  have hc : decide (c2 < 0) = false := decide_eq_false (by omega)
  have hq : p + k = p + k := rfl
  have Ba0 := hide (Blk.newAt w (w.heap.size) (rfl) #[.int .i64 0, .bool na, .string ta, .int .i64 ea] 23)
  have HB0 : Hid (Below w.heap.size w (w.alloc (.cells #[.int .i64 0, .bool na, .string ta, .int .i64 ea] 23))) := ((Below.refl _ _).alloc (Nat.le_refl _) _)
  go_enter Tryz.func12, Tryz.ntmps12
  go_wp2_with fail
  refine (dawake_any _ (HT.out.below HB0.out)).mono ?_
  rintro e w1 ⟨rfl, hb⟩
  have Ba1 := hide (Ba0.out.below hb Ba0.out.lt)
  have HB1 := hide (HB0.out.trans (hb.mono HB0.out.size))
  clear hb Ba0 HB0 
  have ya0 : w1.cell? ⟨w.heap.size, 0, none⟩ = some (.int .i64 0) := Ba1.out.cell 0
  have ya1 : w1.cell? ⟨w.heap.size, 1, none⟩ = some (.bool na) := Ba1.out.cell 1
  have ya2 : w1.cell? ⟨w.heap.size, 2, none⟩ = some (.string ta) := Ba1.out.cell 2
  have ya3 : w1.cell? ⟨w.heap.size, 3, none⟩ = some (.int .i64 ea) := Ba1.out.cell 3
  go_wp2_with fail
  refine (H1.out _).mono ?_
  rintro e w2 ⟨rfl, hb⟩
  have Ba2 := hide (Ba1.out.below hb Ba1.out.lt)
  have HB2 := hide (HB1.out.trans (hb.mono HB1.out.size))
  clear hb Ba1 HB1 ya0 ya1 ya2 ya3
  have ya0 : w2.cell? ⟨w.heap.size, 0, none⟩ = some (.int .i64 0) := Ba2.out.cell 0
  have ya1 : w2.cell? ⟨w.heap.size, 1, none⟩ = some (.bool na) := Ba2.out.cell 1
  have ya2 : w2.cell? ⟨w.heap.size, 2, none⟩ = some (.string ta) := Ba2.out.cell 2
  have ya3 : w2.cell? ⟨w.heap.size, 3, none⟩ = some (.int .i64 ea) := Ba2.out.cell 3
  go_wp2_with fail
  refine (H2.out _).mono ?_
  rintro e w3 ⟨rfl, hb⟩
  have Ba3 := hide (Ba2.out.below hb Ba2.out.lt)
  have HB3 := hide (HB2.out.trans (hb.mono HB2.out.size))
  clear hb Ba2 HB2 ya0 ya1 ya2 ya3
  have ya0 : w3.cell? ⟨w.heap.size, 0, none⟩ = some (.int .i64 0) := Ba3.out.cell 0
  have ya1 : w3.cell? ⟨w.heap.size, 1, none⟩ = some (.bool na) := Ba3.out.cell 1
  have ya2 : w3.cell? ⟨w.heap.size, 2, none⟩ = some (.string ta) := Ba3.out.cell 2
  have ya3 : w3.cell? ⟨w.heap.size, 3, none⟩ = some (.int .i64 ea) := Ba3.out.cell 3
  have fa1x := Ba3.out.free 1
  have Ba4 := hide (Ba3.out.set1 (.bool false))
  have HB4 : Hid (Below w.heap.size w (w3.setCell ⟨w.heap.size, 1, none⟩ (.bool false))) := HB3.out.setCell (by simp <;> omega) _
  clear Ba3 HB3
  go_wp2_with fail
  refine (H3.out _).mono ?_
  rintro e w5 ⟨rfl, hb⟩
  have Ba5 := hide (Ba4.out.below hb Ba4.out.lt)
  have HB5 := hide (HB4.out.trans (hb.mono HB4.out.size))
  clear hb Ba4 HB4 ya0 ya1 ya2 ya3
  have ya0 : w5.cell? ⟨w.heap.size, 0, none⟩ = some (.int .i64 0) := Ba5.out.cell 0
  have ya1 : w5.cell? ⟨w.heap.size, 1, none⟩ = some (.bool false) := Ba5.out.cell 1
  have ya2 : w5.cell? ⟨w.heap.size, 2, none⟩ = some (.string ta) := Ba5.out.cell 2
  have ya3 : w5.cell? ⟨w.heap.size, 3, none⟩ = some (.int .i64 ea) := Ba5.out.cell 3
  go_wp2_with fail
  refine (H4.out _).mono ?_
  rintro e w6 ⟨rfl, hb⟩
  have Ba6 := hide (Ba5.out.below hb Ba5.out.lt)
  have HB6 := hide (HB5.out.trans (hb.mono HB5.out.size))
  clear hb Ba5 HB5 ya0 ya1 ya2 ya3
  have ya0 : w6.cell? ⟨w.heap.size, 0, none⟩ = some (.int .i64 0) := Ba6.out.cell 0
  have ya1 : w6.cell? ⟨w.heap.size, 1, none⟩ = some (.bool false) := Ba6.out.cell 1
  have ya2 : w6.cell? ⟨w.heap.size, 2, none⟩ = some (.string ta) := Ba6.out.cell 2
  have ya3 : w6.cell? ⟨w.heap.size, 3, none⟩ = some (.int .i64 ea) := Ba6.out.cell 3
  go_wp2_with fail
  refine (H5.out _).mono ?_
  rintro e w7 ⟨rfl, hb⟩
  have Ba7 := hide (Ba6.out.below hb Ba6.out.lt)
  have HB7 := hide (HB6.out.trans (hb.mono HB6.out.size))
  clear hb Ba6 HB6 ya0 ya1 ya2 ya3
  have ya0 : w7.cell? ⟨w.heap.size, 0, none⟩ = some (.int .i64 0) := Ba7.out.cell 0
  have ya1 : w7.cell? ⟨w.heap.size, 1, none⟩ = some (.bool false) := Ba7.out.cell 1
  have ya2 : w7.cell? ⟨w.heap.size, 2, none⟩ = some (.string ta) := Ba7.out.cell 2
  have ya3 : w7.cell? ⟨w.heap.size, 3, none⟩ = some (.int .i64 ea) := Ba7.out.cell 3
  have Ba8 := hide ((Ba7.out.alloc (.cells #[.int .i64 0, .bool false, .string ta, .int .i64 (ea + k)] 23)))
  have Bs8 := hide ((Blk.newAt w7 (w7.heap.size) (rfl) #[.int .i64 0, .bool false, .string ta, .int .i64 (ea + k)] 23))
  have HB8 : Hid (Below w.heap.size w (w7.alloc (.cells #[.int .i64 0, .bool false, .string ta, .int .i64 (ea + k)] 23))) := (HB7.out.alloc HB7.out.size _)
  clear Ba7 HB7 ya0 ya1 ya2 ya3
  have ya0 : (w7.alloc (.cells #[.int .i64 0, .bool false, .string ta, .int .i64 (ea + k)] 23)).cell? ⟨w.heap.size, 0, none⟩ = some (.int .i64 0) := Ba8.out.cell 0
  have ya1 : (w7.alloc (.cells #[.int .i64 0, .bool false, .string ta, .int .i64 (ea + k)] 23)).cell? ⟨w.heap.size, 1, none⟩ = some (.bool false) := Ba8.out.cell 1
  have ya2 : (w7.alloc (.cells #[.int .i64 0, .bool false, .string ta, .int .i64 (ea + k)] 23)).cell? ⟨w.heap.size, 2, none⟩ = some (.string ta) := Ba8.out.cell 2
  have ya3 : (w7.alloc (.cells #[.int .i64 0, .bool false, .string ta, .int .i64 (ea + k)] 23)).cell? ⟨w.heap.size, 3, none⟩ = some (.int .i64 ea) := Ba8.out.cell 3
  have ys0 : (w7.alloc (.cells #[.int .i64 0, .bool false, .string ta, .int .i64 (ea + k)] 23)).cell? ⟨w7.heap.size, 0, none⟩ = some (.int .i64 0) := Bs8.out.cell 0
  have ys1 : (w7.alloc (.cells #[.int .i64 0, .bool false, .string ta, .int .i64 (ea + k)] 23)).cell? ⟨w7.heap.size, 1, none⟩ = some (.bool false) := Bs8.out.cell 1
  have ys2 : (w7.alloc (.cells #[.int .i64 0, .bool false, .string ta, .int .i64 (ea + k)] 23)).cell? ⟨w7.heap.size, 2, none⟩ = some (.string ta) := Bs8.out.cell 2
  have ys3 : (w7.alloc (.cells #[.int .i64 0, .bool false, .string ta, .int .i64 (ea + k)] 23)).cell? ⟨w7.heap.size, 3, none⟩ = some (.int .i64 (ea + k)) := Bs8.out.cell 3
  go_wp2_with fail
  refine (H6.out _).mono ?_
  rintro e w9 ⟨rfl, hb⟩
  have Ba9 := hide (Ba8.out.below hb Ba8.out.lt)
  have Bs9 := hide (Bs8.out.below hb Bs8.out.lt)
  have HB9 := hide (HB8.out.trans (hb.mono HB8.out.size))
  clear hb Ba8 Bs8 HB8 ya0 ya1 ya2 ya3 ys0 ys1 ys2 ys3
  have ya0 : w9.cell? ⟨w.heap.size, 0, none⟩ = some (.int .i64 0) := Ba9.out.cell 0
  have ya1 : w9.cell? ⟨w.heap.size, 1, none⟩ = some (.bool false) := Ba9.out.cell 1
  have ya2 : w9.cell? ⟨w.heap.size, 2, none⟩ = some (.string ta) := Ba9.out.cell 2
  have ya3 : w9.cell? ⟨w.heap.size, 3, none⟩ = some (.int .i64 ea) := Ba9.out.cell 3
  have ys0 : w9.cell? ⟨w7.heap.size, 0, none⟩ = some (.int .i64 0) := Bs9.out.cell 0
  have ys1 : w9.cell? ⟨w7.heap.size, 1, none⟩ = some (.bool false) := Bs9.out.cell 1
  have ys2 : w9.cell? ⟨w7.heap.size, 2, none⟩ = some (.string ta) := Bs9.out.cell 2
  have ys3 : w9.cell? ⟨w7.heap.size, 3, none⟩ = some (.int .i64 (ea + k)) := Bs9.out.cell 3
  have Ba10 := hide ((Ba9.out.alloc (.cells #[.int .i64 0, .bool false, .string ta, .int .i64 ea] 23)))
  have Bs10 := hide ((Bs9.out.alloc (.cells #[.int .i64 0, .bool false, .string ta, .int .i64 ea] 23)))
  have Bt10 := hide ((Blk.newAt w9 (w9.heap.size) (rfl) #[.int .i64 0, .bool false, .string ta, .int .i64 ea] 23))
  have HB10 : Hid (Below w.heap.size w (w9.alloc (.cells #[.int .i64 0, .bool false, .string ta, .int .i64 ea] 23))) := (HB9.out.alloc HB9.out.size _)
  clear Ba9 Bs9 HB9 ya0 ya1 ya2 ya3 ys0 ys1 ys2 ys3
  have ya0 : (w9.alloc (.cells #[.int .i64 0, .bool false, .string ta, .int .i64 ea] 23)).cell? ⟨w.heap.size, 0, none⟩ = some (.int .i64 0) := Ba10.out.cell 0
  have ya1 : (w9.alloc (.cells #[.int .i64 0, .bool false, .string ta, .int .i64 ea] 23)).cell? ⟨w.heap.size, 1, none⟩ = some (.bool false) := Ba10.out.cell 1
  have ya2 : (w9.alloc (.cells #[.int .i64 0, .bool false, .string ta, .int .i64 ea] 23)).cell? ⟨w.heap.size, 2, none⟩ = some (.string ta) := Ba10.out.cell 2
  have ya3 : (w9.alloc (.cells #[.int .i64 0, .bool false, .string ta, .int .i64 ea] 23)).cell? ⟨w.heap.size, 3, none⟩ = some (.int .i64 ea) := Ba10.out.cell 3
  have ys0 : (w9.alloc (.cells #[.int .i64 0, .bool false, .string ta, .int .i64 ea] 23)).cell? ⟨w7.heap.size, 0, none⟩ = some (.int .i64 0) := Bs10.out.cell 0
  have ys1 : (w9.alloc (.cells #[.int .i64 0, .bool false, .string ta, .int .i64 ea] 23)).cell? ⟨w7.heap.size, 1, none⟩ = some (.bool false) := Bs10.out.cell 1
  have ys2 : (w9.alloc (.cells #[.int .i64 0, .bool false, .string ta, .int .i64 ea] 23)).cell? ⟨w7.heap.size, 2, none⟩ = some (.string ta) := Bs10.out.cell 2
  have ys3 : (w9.alloc (.cells #[.int .i64 0, .bool false, .string ta, .int .i64 ea] 23)).cell? ⟨w7.heap.size, 3, none⟩ = some (.int .i64 (ea + k)) := Bs10.out.cell 3
  have yt0 : (w9.alloc (.cells #[.int .i64 0, .bool false, .string ta, .int .i64 ea] 23)).cell? ⟨w9.heap.size, 0, none⟩ = some (.int .i64 0) := Bt10.out.cell 0
  have yt1 : (w9.alloc (.cells #[.int .i64 0, .bool false, .string ta, .int .i64 ea] 23)).cell? ⟨w9.heap.size, 1, none⟩ = some (.bool false) := Bt10.out.cell 1
  have yt2 : (w9.alloc (.cells #[.int .i64 0, .bool false, .string ta, .int .i64 ea] 23)).cell? ⟨w9.heap.size, 2, none⟩ = some (.string ta) := Bt10.out.cell 2
  have yt3 : (w9.alloc (.cells #[.int .i64 0, .bool false, .string ta, .int .i64 ea] 23)).cell? ⟨w9.heap.size, 3, none⟩ = some (.int .i64 ea) := Bt10.out.cell 3
  go_wp2_with fail
  refine (H7.out _).mono ?_
  rintro e w11 ⟨rfl, hb⟩
  have Ba11 := hide (Ba10.out.below hb Ba10.out.lt)
  have Bs11 := hide (Bs10.out.below hb Bs10.out.lt)
  have Bt11 := hide (Bt10.out.below hb Bt10.out.lt)
  have HB11 := hide (HB10.out.trans (hb.mono HB10.out.size))
  clear hb Ba10 Bs10 Bt10 HB10 ya0 ya1 ya2 ya3 ys0 ys1 ys2 ys3 yt0 yt1 yt2 yt3
  have ya0 : w11.cell? ⟨w.heap.size, 0, none⟩ = some (.int .i64 0) := Ba11.out.cell 0
  have ya1 : w11.cell? ⟨w.heap.size, 1, none⟩ = some (.bool false) := Ba11.out.cell 1
  have ya2 : w11.cell? ⟨w.heap.size, 2, none⟩ = some (.string ta) := Ba11.out.cell 2
  have ya3 : w11.cell? ⟨w.heap.size, 3, none⟩ = some (.int .i64 ea) := Ba11.out.cell 3
  have ys0 : w11.cell? ⟨w7.heap.size, 0, none⟩ = some (.int .i64 0) := Bs11.out.cell 0
  have ys1 : w11.cell? ⟨w7.heap.size, 1, none⟩ = some (.bool false) := Bs11.out.cell 1
  have ys2 : w11.cell? ⟨w7.heap.size, 2, none⟩ = some (.string ta) := Bs11.out.cell 2
  have ys3 : w11.cell? ⟨w7.heap.size, 3, none⟩ = some (.int .i64 (ea + k)) := Bs11.out.cell 3
  have yt0 : w11.cell? ⟨w9.heap.size, 0, none⟩ = some (.int .i64 0) := Bt11.out.cell 0
  have yt1 : w11.cell? ⟨w9.heap.size, 1, none⟩ = some (.bool false) := Bt11.out.cell 1
  have yt2 : w11.cell? ⟨w9.heap.size, 2, none⟩ = some (.string ta) := Bt11.out.cell 2
  have yt3 : w11.cell? ⟨w9.heap.size, 3, none⟩ = some (.int .i64 ea) := Bt11.out.cell 3
  go_wp2
  go_ret
  exact ⟨rfl, HB11.out⟩

theorem fin_one {p : Int} (h1 : -2000 ≤ p + 1) (h2 : p + 1 ≤ 2000) : Fin ⟨0, false, [49], p⟩ :=
  ⟨rfl, by simp, by simp, by simp only [List.length_singleton]; omega, by simp only [List.length_singleton]; omega, (by decide : byt [49] 0 ≠ 48), (by decide : byt [49] 0 ≠ 48), digB_of rfl⟩

theorem amt_one (p : Int) : amt [49] p = 10 ^ (p + 9000).toNat := by unfold amt; rw [show decV [49] = 1 from rfl, Nat.one_mul]

theorem wD_pos {d : DecT} (h : Fin d) (hn : d.neg = false) : wD d = (amt d.dig d.exp : Int) := by
  unfold wD vD; rw [h.cls, hn]; simp [zD]

theorem dplaces_walk (w : World) (htab : Tab w) (ca : Int) (na : Bool) (ta : ByteArray) (ea : Int) (k : Int) : Calls Tryz.prog 12 #[.agg #[.int .i64 ca, .bool na, .string ta, .int .i64 ea], .int .i64 k] w fun e w' => e = .returned (.bool true) ∧ Below w.heap.size w w' := by
  by_cases h : MayD ca na (bys ta) ea
  · by_cases hc : ca = 0
    · subst hc
      by_cases h0 : ta.size = 0
      · obtain rfl := size_nil h0
        have he : ea = 0 := by
          rcases (mayD_0 na ⟨#[]⟩ ea).1 h with h | h
          · exact h.2
          · exact absurd rfl h.1
        subst he
        exact places_zero na 0 k w htab (fun W => dmay_yes 0 na ⟨#[]⟩ 0 W h) (fun W => Place_yes 0 na ⟨#[]⟩ 0 W h)
      · have hd : DigD (bys ta) ea := by
          rcases (mayD_0 na ta ea).1 h with h | h
          · exact absurd h.1 h0
          · exact h
        obtain ⟨d1, d2, d3, d4, d5, d6, d7⟩ := hd
        rw [bys_len] at d2 d3 d4
        have fd : Fin ⟨0, false, bys ta, ea⟩ := ⟨rfl, d1, by simp only [bys_len]; exact d2, by simp only [bys_len]; exact d3, by simp only [bys_len]; exact d4, d5, d6, d7⟩
        have hP : MayD 0 false (bys ta) ea := fd.may
        have eP : dcV 0 false ta ea = decVal ⟨0, false, bys ta, ea⟩ := dcV_d 0 false ta ea (by omega)
        obtain ⟨p, hp⟩ : ∃ p, p = (ta.size : Int) + ea := ⟨_, rfl⟩
        have e1 := fun W => dmay_yes 0 na ta ea W h
        have e2 := fun W => Place_yes 0 na ta ea W h
        rw [← hp] at e2
        have f1 : Fin ⟨0, false, [49], p - 1⟩ := fin_one (by omega) (by omega)
        have w1 := wD_pos fd rfl
        have w2 := wD_pos f1 rfl
        have g1 := fd.amt_lt
        have g2 := fd.amt_ge
        simp only [bys_len] at g1 g2 w1 w2
        rw [show ea + (ta.size : Int) + 9000 = p + 9000 by omega] at g1
        rw [show ea + (ta.size : Int) + 8999 = p - 1 + 9000 by omega] at g2
        have e4 := fun W => Cmp_d ⟨0, false, bys ta, ea⟩ ⟨0, false, [49], p - 1⟩ W fd.may f1.may
        rw [← eP] at e4
        have c2 : 0 ≤ cmpI (wD ⟨0, false, bys ta, ea⟩) (wD ⟨0, false, [49], p - 1⟩) := by
          rw [w1, w2, amt_one]
          unfold cmpI
          rw [if_neg (by omega)]
          split <;> omega
        have sc : ∀ {e : Int} {q : Int} (W : World), MayD 0 false (bys ta) e → -2000 - ((ta.size : Int) + e) ≤ q → q ≤ 2000 - ((ta.size : Int) + e) → Calls Tryz.prog 26 #[dcV 0 false ta e, .int .i64 q] W fun e' w' => e' = .returned (.tuple #[dcV 0 false ta (e + q), .int .i64 0]) ∧ Below W.heap.size W w' := fun W m q1 q2 => Scale_in 0 false ta _ _ W m h0 q1 q2
        have low : k < -2000 - p → ∀ W, Calls Tryz.prog 26 #[dcV 0 false ta ea, .int .i64 k] W fun e' w' => e' = .returned (.tuple #[dcV 0 false ⟨#[]⟩ 0, .int .i64 51]) ∧ Below W.heap.size W w' := fun hk W => Scale_low 0 false ta ea k W hP h0 (by omega)
        have high : 2000 - p < k → ∀ W, Calls Tryz.prog 26 #[dcV 0 false ta ea, .int .i64 k] W fun e' w' => e' = .returned (.tuple #[dcV 0 false ⟨#[]⟩ 0, .int .i64 51]) ∧ Below W.heap.size W w' := fun hk W => Scale_high 0 false ta ea k W hP h0 (by omega)
        have mid : ¬ k < -2000 - p → ¬ 2000 - p < k → MayD 0 false (bys ta) (ea + k) := fun k1 k2 => .inl ⟨rfl, .inr ⟨d1, by rw [bys_len]; exact d2, by rw [bys_len]; omega, by rw [bys_len]; omega, d5, d6, d7⟩⟩
        have s6 : ¬ k < -2000 - p → ¬ 2000 - p < k → ∀ W, Calls Tryz.prog 26 #[dcV 0 false ta (ea + k), .int .i64 (-k)] W fun e' w' => e' = .returned (.tuple #[dcV 0 false ta ea, .int .i64 0]) ∧ Below W.heap.size W w' := fun k1 k2 W => by
          have q := sc (q := -k) W (mid k1 k2) (by omega) (by omega)
          rw [show ea + k + -k = ea by omega] at q
          exact q
        have s7 : ¬ k < -2000 - p → ¬ 2000 - p < k → ∀ W, Calls Tryz.prog 16 #[dcV 0 false ta (ea + k)] W fun e' w' => e' = .returned (.int .i64 (p + k)) ∧ Below W.heap.size W w' := fun k1 k2 W => by
          have q := Place_yes 0 false ta (ea + k) W (mid k1 k2)
          rw [show (ta.size : Int) + (ea + k) = p + k by omega] at q
          exact q
        by_cases ht : p = 2000
        · by_cases k1 : k < -2000 - p
          · exact places_top_low na ta ea p _ k w htab h0 (by omega) (by omega) (by omega) c2 k1 e1 e2 e4 (low k1)
          · by_cases k2 : 2000 - p < k
            · exact places_top_high na ta ea p _ k w htab h0 (by omega) (by omega) (by omega) c2 k2 e1 e2 e4 (high k2)
            · exact places_top_in na ta ea p _ k w htab h0 (by omega) (by omega) (by omega) c2 (by omega) (by omega) e1 e2 e4 (fun W => sc W hP (by omega) (by omega)) (s6 k1 k2) (s7 k1 k2)
        · have f2 : Fin ⟨0, false, [49], p⟩ := fin_one (by omega) (by omega)
          have w3 := wD_pos f2 rfl
          have e3 := fun W => Cmp_d ⟨0, false, bys ta, ea⟩ ⟨0, false, [49], p⟩ W fd.may f2.may
          rw [← eP] at e3
          have c3 : cmpI (wD ⟨0, false, bys ta, ea⟩) (wD ⟨0, false, [49], p⟩) = -1 := by
            rw [w1, w3]
            simp only
            rw [amt_one]
            exact cmpI_lt (by omega)
          rw [c3] at e3
          by_cases k1 : k < -2000 - p
          · exact places_sub_low na ta ea p _ k w htab h0 (by omega) (by omega) c2 k1 e1 e2 e3 e4 (low k1)
          · by_cases k2 : 2000 - p < k
            · exact places_sub_high na ta ea p _ k w htab h0 (by omega) (by omega) c2 k2 e1 e2 e3 e4 (high k2)
            · exact places_sub_in na ta ea p _ k w htab h0 (by omega) (by omega) c2 (by omega) (by omega) e1 e2 e3 e4 (fun W => sc W hP (by omega) (by omega)) (s6 k1 k2) (s7 k1 k2)
    · have hz : (ta.size : Int) + ea = 0 := by
        rcases h with ⟨h, _⟩ | ⟨_, h1, h2⟩ | ⟨_, _, h1, h2⟩
        · exact absurd h hc
        · rw [bys_nil] at h1; omega
        · rw [bys_nil] at h1; omega
      have e2 := fun W => Place_yes ca na ta ea W h
      rw [hz] at e2
      exact places_cls ca na ta ea k w htab hc (fun W => dmay_yes ca na ta ea W h) e2
  · exact places_no ca na ta ea k w htab (fun W => dmay_no ca na ta ea W h) (fun W => Place_no ca na ta ea W h)

end Go.Proofs.YtafljhfamjabeaaGreatDoor
