/-
  What quipuref05's Cmp does, by cases.
  The walk of DecStands.
-/
import Derived.Test.YtifpacgacbpalaaGreatDoorZQ24
import Derived.Test.YtifpacgacbpalaaGreatDoorDTwo
import Derived.Test.YtifpacgacbpalaaGreatDoorDCmp
import Derived.Test.YtifpacgacbpalaaGreatDoorZQ22
namespace Go.Proofs.YtifpacgacbpalaaGreatDoor
open Go.RowKit

theorem zv_mul10 (z : Int) (k : Nat) : zv (decide (z < 0)) (z.natAbs * 10 ^ k) = z * ((10 ^ k : Nat) : Int) := by
  unfold zv
  by_cases h : z < 0
  · rw [decide_eq_true h, if_pos rfl, Int.natCast_mul, show ((z.natAbs : Nat) : Int) = -z by omega, Int.neg_mul, Int.neg_neg]
  · rw [decide_eq_false h, if_neg (by simp), Int.natCast_mul, show ((z.natAbs : Nat) : Int) = z by omega]

theorem rrank_d (ca : Int) (na : Bool) (ta : ByteArray) (ea : Int) (w : World) (h : MayD ca na (bys ta) ea) : Calls Tryz.prog 39 #[dcV ca na ta ea] w fun e w' => e = .returned (.int .i64 (rankR ca na)) ∧ Below w.heap.size w w' := by
  rcases h with ⟨rfl, _⟩ | ⟨rfl, h1, rfl⟩ | ⟨rfl, rfl, h1, rfl⟩
  · exact rrank_fin na ta ea w
  · cases na
    · exact rrank_inf ta _ w
    · exact rrank_ninf ta _ w
  · exact rrank_nan false ta _ w

set_option maxHeartbeats 1000000 in
theorem rCmp_no1 (ca : Int) (na : Bool) (ta : ByteArray) (ea : Int) (cb : Int) (nb : Bool) (tb : ByteArray) (eb : Int) (w : World) (ha : ¬ MayD ca na (bys ta) ea) : Calls Tryz.prog 19 #[dcV ca na ta ea, dcV cb nb tb eb] w fun e w' => e = .returned (.tuple #[.int .i64 0, .int .i64 52]) ∧ Below w.heap.size w w' := by
  have MA := hide (fun W => rmay_no ca na ta ea W ha)
  clear ha
  have Ba0 := hide ((Blk.newAt w (w.heap.size) (rfl) #[.int .i64 ca, .bool na, .string ta, .int .i64 ea] 23).alloc (.cells #[.int .i64 cb, .bool nb, .string tb, .int .i64 eb] 23))
  have Bb0 := hide (Blk.newAt (w.alloc (.cells #[.int .i64 ca, .bool na, .string ta, .int .i64 ea] 23)) (w.heap.size + 1) (by simp) #[.int .i64 cb, .bool nb, .string tb, .int .i64 eb] 23)
  have HB0 : Hid (Below w.heap.size w ((w.alloc (.cells #[.int .i64 ca, .bool na, .string ta, .int .i64 ea] 23)).alloc (.cells #[.int .i64 cb, .bool nb, .string tb, .int .i64 eb] 23))) := (((Below.refl _ _).alloc (Nat.le_refl _) _).alloc (by simp <;> omega) _)
  go_enter Tryz.func19, Tryz.ntmps19
  go_wp2_with fail
  refine (MA.out _).mono ?_
  rintro e w1 ⟨rfl, hb⟩
  have Ba1 := hide (Ba0.out.below hb Ba0.out.lt)
  have Bb1 := hide (Bb0.out.below hb Bb0.out.lt)
  have HB1 := hide (HB0.out.trans (hb.mono HB0.out.size))
  clear hb Ba0 Bb0 HB0 
  have ya0 : w1.cell? ⟨w.heap.size, 0, none⟩ = some (.int .i64 ca) := Ba1.out.cell 0
  have ya1 : w1.cell? ⟨w.heap.size, 1, none⟩ = some (.bool na) := Ba1.out.cell 1
  have ya2 : w1.cell? ⟨w.heap.size, 2, none⟩ = some (.string ta) := Ba1.out.cell 2
  have ya3 : w1.cell? ⟨w.heap.size, 3, none⟩ = some (.int .i64 ea) := Ba1.out.cell 3
  have yb0 : w1.cell? ⟨w.heap.size + 1, 0, none⟩ = some (.int .i64 cb) := Bb1.out.cell 0
  have yb1 : w1.cell? ⟨w.heap.size + 1, 1, none⟩ = some (.bool nb) := Bb1.out.cell 1
  have yb2 : w1.cell? ⟨w.heap.size + 1, 2, none⟩ = some (.string tb) := Bb1.out.cell 2
  have yb3 : w1.cell? ⟨w.heap.size + 1, 3, none⟩ = some (.int .i64 eb) := Bb1.out.cell 3
  go_wp2
  go_ret2
  exact ⟨rfl, HB1.out⟩

set_option maxHeartbeats 1000000 in
theorem rCmp_no2 (ca : Int) (na : Bool) (ta : ByteArray) (ea : Int) (cb : Int) (nb : Bool) (tb : ByteArray) (eb : Int) (w : World) (ha : MayD ca na (bys ta) ea) (hb0 : ¬ MayD cb nb (bys tb) eb) : Calls Tryz.prog 19 #[dcV ca na ta ea, dcV cb nb tb eb] w fun e w' => e = .returned (.tuple #[.int .i64 0, .int .i64 52]) ∧ Below w.heap.size w w' := by
  have MA := hide (fun W => rmay_yes ca na ta ea W ha)
  have MB := hide (fun W => rmay_no cb nb tb eb W hb0)
  clear ha hb0
  have Ba0 := hide ((Blk.newAt w (w.heap.size) (rfl) #[.int .i64 ca, .bool na, .string ta, .int .i64 ea] 23).alloc (.cells #[.int .i64 cb, .bool nb, .string tb, .int .i64 eb] 23))
  have Bb0 := hide (Blk.newAt (w.alloc (.cells #[.int .i64 ca, .bool na, .string ta, .int .i64 ea] 23)) (w.heap.size + 1) (by simp) #[.int .i64 cb, .bool nb, .string tb, .int .i64 eb] 23)
  have HB0 : Hid (Below w.heap.size w ((w.alloc (.cells #[.int .i64 ca, .bool na, .string ta, .int .i64 ea] 23)).alloc (.cells #[.int .i64 cb, .bool nb, .string tb, .int .i64 eb] 23))) := (((Below.refl _ _).alloc (Nat.le_refl _) _).alloc (by simp <;> omega) _)
  go_enter Tryz.func19, Tryz.ntmps19
  go_wp2_with fail
  refine (MA.out _).mono ?_
  rintro e w1 ⟨rfl, hb⟩
  have Ba1 := hide (Ba0.out.below hb Ba0.out.lt)
  have Bb1 := hide (Bb0.out.below hb Bb0.out.lt)
  have HB1 := hide (HB0.out.trans (hb.mono HB0.out.size))
  clear hb Ba0 Bb0 HB0 
  have ya0 : w1.cell? ⟨w.heap.size, 0, none⟩ = some (.int .i64 ca) := Ba1.out.cell 0
  have ya1 : w1.cell? ⟨w.heap.size, 1, none⟩ = some (.bool na) := Ba1.out.cell 1
  have ya2 : w1.cell? ⟨w.heap.size, 2, none⟩ = some (.string ta) := Ba1.out.cell 2
  have ya3 : w1.cell? ⟨w.heap.size, 3, none⟩ = some (.int .i64 ea) := Ba1.out.cell 3
  have yb0 : w1.cell? ⟨w.heap.size + 1, 0, none⟩ = some (.int .i64 cb) := Bb1.out.cell 0
  have yb1 : w1.cell? ⟨w.heap.size + 1, 1, none⟩ = some (.bool nb) := Bb1.out.cell 1
  have yb2 : w1.cell? ⟨w.heap.size + 1, 2, none⟩ = some (.string tb) := Bb1.out.cell 2
  have yb3 : w1.cell? ⟨w.heap.size + 1, 3, none⟩ = some (.int .i64 eb) := Bb1.out.cell 3
  go_wp2_with fail
  refine (MB.out _).mono ?_
  rintro e w2 ⟨rfl, hb⟩
  have Ba2 := hide (Ba1.out.below hb Ba1.out.lt)
  have Bb2 := hide (Bb1.out.below hb Bb1.out.lt)
  have HB2 := hide (HB1.out.trans (hb.mono HB1.out.size))
  clear hb Ba1 Bb1 HB1 ya0 ya1 ya2 ya3 yb0 yb1 yb2 yb3
  have ya0 : w2.cell? ⟨w.heap.size, 0, none⟩ = some (.int .i64 ca) := Ba2.out.cell 0
  have ya1 : w2.cell? ⟨w.heap.size, 1, none⟩ = some (.bool na) := Ba2.out.cell 1
  have ya2 : w2.cell? ⟨w.heap.size, 2, none⟩ = some (.string ta) := Ba2.out.cell 2
  have ya3 : w2.cell? ⟨w.heap.size, 3, none⟩ = some (.int .i64 ea) := Ba2.out.cell 3
  have yb0 : w2.cell? ⟨w.heap.size + 1, 0, none⟩ = some (.int .i64 cb) := Bb2.out.cell 0
  have yb1 : w2.cell? ⟨w.heap.size + 1, 1, none⟩ = some (.bool nb) := Bb2.out.cell 1
  have yb2 : w2.cell? ⟨w.heap.size + 1, 2, none⟩ = some (.string tb) := Bb2.out.cell 2
  have yb3 : w2.cell? ⟨w.heap.size + 1, 3, none⟩ = some (.int .i64 eb) := Bb2.out.cell 3
  go_wp2
  go_ret2
  exact ⟨rfl, HB2.out⟩

set_option maxRecDepth 100000 in
set_option maxHeartbeats 2000000 in
theorem rCmp_lt (ca : Int) (na : Bool) (ta : ByteArray) (ea : Int) (cb : Int) (nb : Bool) (tb : ByteArray) (eb : Int) (x y : Int) (w : World) (ha : MayD ca na (bys ta) ea) (hb0 : MayD cb nb (bys tb) eb) (hra : ∀ W, Calls Tryz.prog 39 #[dcV ca na ta ea] W fun e w' => e = .returned (.int .i64 x) ∧ Below W.heap.size W w') (hrb : ∀ W, Calls Tryz.prog 39 #[dcV cb nb tb eb] W fun e w' => e = .returned (.int .i64 y) ∧ Below W.heap.size W w') (h : x < y) : Calls Tryz.prog 19 #[dcV ca na ta ea, dcV cb nb tb eb] w fun e w' => e = .returned (.tuple #[.int .i64 (-1), .int .i64 0]) ∧ Below w.heap.size w w' := by
  have MA := hide (fun W => rmay_yes ca na ta ea W ha)
  have MB := hide (fun W => rmay_yes cb nb tb eb W hb0)
  have RA := hide hra
  have RB := hide hrb
  clear ha hb0 hra hrb
  have Ba0 := hide ((Blk.newAt w (w.heap.size) (rfl) #[.int .i64 ca, .bool na, .string ta, .int .i64 ea] 23).alloc (.cells #[.int .i64 cb, .bool nb, .string tb, .int .i64 eb] 23))
  have Bb0 := hide (Blk.newAt (w.alloc (.cells #[.int .i64 ca, .bool na, .string ta, .int .i64 ea] 23)) (w.heap.size + 1) (by simp) #[.int .i64 cb, .bool nb, .string tb, .int .i64 eb] 23)
  have HB0 : Hid (Below w.heap.size w ((w.alloc (.cells #[.int .i64 ca, .bool na, .string ta, .int .i64 ea] 23)).alloc (.cells #[.int .i64 cb, .bool nb, .string tb, .int .i64 eb] 23))) := (((Below.refl _ _).alloc (Nat.le_refl _) _).alloc (by simp <;> omega) _)
  go_enter Tryz.func19, Tryz.ntmps19
  go_wp2_with fail
  refine (MA.out _).mono ?_
  rintro e w1 ⟨rfl, hb⟩
  have Ba1 := hide (Ba0.out.below hb Ba0.out.lt)
  have Bb1 := hide (Bb0.out.below hb Bb0.out.lt)
  have HB1 := hide (HB0.out.trans (hb.mono HB0.out.size))
  clear hb Ba0 Bb0 HB0 
  have ya0 : w1.cell? ⟨w.heap.size, 0, none⟩ = some (.int .i64 ca) := Ba1.out.cell 0
  have ya1 : w1.cell? ⟨w.heap.size, 1, none⟩ = some (.bool na) := Ba1.out.cell 1
  have ya2 : w1.cell? ⟨w.heap.size, 2, none⟩ = some (.string ta) := Ba1.out.cell 2
  have ya3 : w1.cell? ⟨w.heap.size, 3, none⟩ = some (.int .i64 ea) := Ba1.out.cell 3
  have yb0 : w1.cell? ⟨w.heap.size + 1, 0, none⟩ = some (.int .i64 cb) := Bb1.out.cell 0
  have yb1 : w1.cell? ⟨w.heap.size + 1, 1, none⟩ = some (.bool nb) := Bb1.out.cell 1
  have yb2 : w1.cell? ⟨w.heap.size + 1, 2, none⟩ = some (.string tb) := Bb1.out.cell 2
  have yb3 : w1.cell? ⟨w.heap.size + 1, 3, none⟩ = some (.int .i64 eb) := Bb1.out.cell 3
  go_wp2_with fail
  refine (MB.out _).mono ?_
  rintro e w2 ⟨rfl, hb⟩
  have Ba2 := hide (Ba1.out.below hb Ba1.out.lt)
  have Bb2 := hide (Bb1.out.below hb Bb1.out.lt)
  have HB2 := hide (HB1.out.trans (hb.mono HB1.out.size))
  clear hb Ba1 Bb1 HB1 ya0 ya1 ya2 ya3 yb0 yb1 yb2 yb3
  have ya0 : w2.cell? ⟨w.heap.size, 0, none⟩ = some (.int .i64 ca) := Ba2.out.cell 0
  have ya1 : w2.cell? ⟨w.heap.size, 1, none⟩ = some (.bool na) := Ba2.out.cell 1
  have ya2 : w2.cell? ⟨w.heap.size, 2, none⟩ = some (.string ta) := Ba2.out.cell 2
  have ya3 : w2.cell? ⟨w.heap.size, 3, none⟩ = some (.int .i64 ea) := Ba2.out.cell 3
  have yb0 : w2.cell? ⟨w.heap.size + 1, 0, none⟩ = some (.int .i64 cb) := Bb2.out.cell 0
  have yb1 : w2.cell? ⟨w.heap.size + 1, 1, none⟩ = some (.bool nb) := Bb2.out.cell 1
  have yb2 : w2.cell? ⟨w.heap.size + 1, 2, none⟩ = some (.string tb) := Bb2.out.cell 2
  have yb3 : w2.cell? ⟨w.heap.size + 1, 3, none⟩ = some (.int .i64 eb) := Bb2.out.cell 3
  have b0 : Hid (Below w2.heap.size w2 w2.drew) := bdrewD w2
  have C0 : Hid (∀ X, Hid (Below w2.heap.size w2 X) → Calls Tryz.prog 39 #[dcV ca na ta ea] X fun e w' => e = .returned (.int .i64 x) ∧ Hid (Below w2.heap.size w2 w') ∧ w'.cell? ⟨w.heap.size, 0, none⟩ = some (.int .i64 ca) ∧ w'.cell? ⟨w.heap.size, 1, none⟩ = some (.bool na) ∧ w'.cell? ⟨w.heap.size, 2, none⟩ = some (.string ta) ∧ w'.cell? ⟨w.heap.size, 3, none⟩ = some (.int .i64 ea) ∧ w'.cell? ⟨w.heap.size + 1, 0, none⟩ = some (.int .i64 cb) ∧ w'.cell? ⟨w.heap.size + 1, 1, none⟩ = some (.bool nb) ∧ w'.cell? ⟨w.heap.size + 1, 2, none⟩ = some (.string tb) ∧ w'.cell? ⟨w.heap.size + 1, 3, none⟩ = some (.int .i64 eb)) := by
    intro X bX
    refine (RA.out X).mono ?_
    rintro e w' ⟨rfl, hb⟩
    have bb := bX.out.trans (hb.mono bX.out.size)
    have Baq := Ba2.out.below bb Ba2.out.lt
    have Bbq := Bb2.out.below bb Bb2.out.lt
    exact ⟨rfl, bb, Baq.cell 0, Baq.cell 1, Baq.cell 2, Baq.cell 3, Bbq.cell 0, Bbq.cell 1, Bbq.cell 2, Bbq.cell 3⟩
  have C1 : Hid (∀ X, Hid (Below w2.heap.size w2 X) → Calls Tryz.prog 39 #[dcV cb nb tb eb] X fun e w' => e = .returned (.int .i64 y) ∧ Hid (Below w2.heap.size w2 w') ∧ w'.cell? ⟨w.heap.size, 0, none⟩ = some (.int .i64 ca) ∧ w'.cell? ⟨w.heap.size, 1, none⟩ = some (.bool na) ∧ w'.cell? ⟨w.heap.size, 2, none⟩ = some (.string ta) ∧ w'.cell? ⟨w.heap.size, 3, none⟩ = some (.int .i64 ea) ∧ w'.cell? ⟨w.heap.size + 1, 0, none⟩ = some (.int .i64 cb) ∧ w'.cell? ⟨w.heap.size + 1, 1, none⟩ = some (.bool nb) ∧ w'.cell? ⟨w.heap.size + 1, 2, none⟩ = some (.string tb) ∧ w'.cell? ⟨w.heap.size + 1, 3, none⟩ = some (.int .i64 eb)) := by
    intro X bX
    refine (RB.out X).mono ?_
    rintro e w' ⟨rfl, hb⟩
    have bb := bX.out.trans (hb.mono bX.out.size)
    have Baq := Ba2.out.below bb Ba2.out.lt
    have Bbq := Bb2.out.below bb Bb2.out.lt
    exact ⟨rfl, bb, Baq.cell 0, Baq.cell 1, Baq.cell 2, Baq.cell 3, Bbq.cell 0, Bbq.cell 1, Bbq.cell 2, Bbq.cell 3⟩
  go_wp2_with fail
  have mk0 : True := trivial
  go_region_held3 (fun w' => w'.cell? ⟨w.heap.size, 0, none⟩ = some (.int .i64 ca) ∧ w'.cell? ⟨w.heap.size, 1, none⟩ = some (.bool na) ∧ w'.cell? ⟨w.heap.size, 2, none⟩ = some (.string ta) ∧ w'.cell? ⟨w.heap.size, 3, none⟩ = some (.int .i64 ea) ∧ w'.cell? ⟨w.heap.size + 1, 0, none⟩ = some (.int .i64 cb) ∧ w'.cell? ⟨w.heap.size + 1, 1, none⟩ = some (.bool nb) ∧ w'.cell? ⟨w.heap.size + 1, 2, none⟩ = some (.string tb) ∧ w'.cell? ⟨w.heap.size + 1, 3, none⟩ = some (.int .i64 eb)) (go_keep) (first
    | (clear mk0; go_at_call 39; refine (C0.out _ b0).mono ?_; rintro e w3 ⟨rfl, b1, q0_0, q0_1, q0_2, q0_3, q0_4, q0_5, q0_6, q0_7⟩; have mk1 : True := trivial)
    | (clear mk1; go_at_call 39; refine (C1.out _ b1).mono ?_; rintro e w4 ⟨rfl, b2, q1_0, q1_1, q1_2, q1_3, q1_4, q1_5, q1_6, q1_7⟩; have mk2 : True := trivial))
  have Ba4 := hide (Ba2.out.below b2.out Ba2.out.lt)
  have Bb4 := hide (Bb2.out.below b2.out Bb2.out.lt)
  have HB4 := hide (HB2.out.trans (b2.out.mono HB2.out.size))
  clear mk2 b0 b1 b2 C0 C1 q0_0 q0_1 q0_2 q0_3 q0_4 q0_5 q0_6 q0_7 q1_0 q1_1 q1_2 q1_3 q1_4 q1_5 q1_6 q1_7 Ba2 Bb2 HB2 ya0 ya1 ya2 ya3 yb0 yb1 yb2 yb3
  have ya0 : w4.cell? ⟨w.heap.size, 0, none⟩ = some (.int .i64 ca) := Ba4.out.cell 0
  have ya1 : w4.cell? ⟨w.heap.size, 1, none⟩ = some (.bool na) := Ba4.out.cell 1
  have ya2 : w4.cell? ⟨w.heap.size, 2, none⟩ = some (.string ta) := Ba4.out.cell 2
  have ya3 : w4.cell? ⟨w.heap.size, 3, none⟩ = some (.int .i64 ea) := Ba4.out.cell 3
  have yb0 : w4.cell? ⟨w.heap.size + 1, 0, none⟩ = some (.int .i64 cb) := Bb4.out.cell 0
  have yb1 : w4.cell? ⟨w.heap.size + 1, 1, none⟩ = some (.bool nb) := Bb4.out.cell 1
  have yb2 : w4.cell? ⟨w.heap.size + 1, 2, none⟩ = some (.string tb) := Bb4.out.cell 2
  have yb3 : w4.cell? ⟨w.heap.size + 1, 3, none⟩ = some (.int .i64 eb) := Bb4.out.cell 3
  go_wp2
  go_ret2
  exact ⟨rfl, HB4.out⟩

set_option maxRecDepth 100000 in
set_option maxHeartbeats 2000000 in
theorem rCmp_gt (ca : Int) (na : Bool) (ta : ByteArray) (ea : Int) (cb : Int) (nb : Bool) (tb : ByteArray) (eb : Int) (x y : Int) (w : World) (ha : MayD ca na (bys ta) ea) (hb0 : MayD cb nb (bys tb) eb) (hra : ∀ W, Calls Tryz.prog 39 #[dcV ca na ta ea] W fun e w' => e = .returned (.int .i64 x) ∧ Below W.heap.size W w') (hrb : ∀ W, Calls Tryz.prog 39 #[dcV cb nb tb eb] W fun e w' => e = .returned (.int .i64 y) ∧ Below W.heap.size W w') (h : y < x) : Calls Tryz.prog 19 #[dcV ca na ta ea, dcV cb nb tb eb] w fun e w' => e = .returned (.tuple #[.int .i64 1, .int .i64 0]) ∧ Below w.heap.size w w' := by
  have MA := hide (fun W => rmay_yes ca na ta ea W ha)
  have MB := hide (fun W => rmay_yes cb nb tb eb W hb0)
  have RA := hide hra
  have RB := hide hrb
  clear ha hb0 hra hrb
  have h2 : ¬ x < y := by omega
  have Ba0 := hide ((Blk.newAt w (w.heap.size) (rfl) #[.int .i64 ca, .bool na, .string ta, .int .i64 ea] 23).alloc (.cells #[.int .i64 cb, .bool nb, .string tb, .int .i64 eb] 23))
  have Bb0 := hide (Blk.newAt (w.alloc (.cells #[.int .i64 ca, .bool na, .string ta, .int .i64 ea] 23)) (w.heap.size + 1) (by simp) #[.int .i64 cb, .bool nb, .string tb, .int .i64 eb] 23)
  have HB0 : Hid (Below w.heap.size w ((w.alloc (.cells #[.int .i64 ca, .bool na, .string ta, .int .i64 ea] 23)).alloc (.cells #[.int .i64 cb, .bool nb, .string tb, .int .i64 eb] 23))) := (((Below.refl _ _).alloc (Nat.le_refl _) _).alloc (by simp <;> omega) _)
  go_enter Tryz.func19, Tryz.ntmps19
  go_wp2_with fail
  refine (MA.out _).mono ?_
  rintro e w1 ⟨rfl, hb⟩
  have Ba1 := hide (Ba0.out.below hb Ba0.out.lt)
  have Bb1 := hide (Bb0.out.below hb Bb0.out.lt)
  have HB1 := hide (HB0.out.trans (hb.mono HB0.out.size))
  clear hb Ba0 Bb0 HB0 
  have ya0 : w1.cell? ⟨w.heap.size, 0, none⟩ = some (.int .i64 ca) := Ba1.out.cell 0
  have ya1 : w1.cell? ⟨w.heap.size, 1, none⟩ = some (.bool na) := Ba1.out.cell 1
  have ya2 : w1.cell? ⟨w.heap.size, 2, none⟩ = some (.string ta) := Ba1.out.cell 2
  have ya3 : w1.cell? ⟨w.heap.size, 3, none⟩ = some (.int .i64 ea) := Ba1.out.cell 3
  have yb0 : w1.cell? ⟨w.heap.size + 1, 0, none⟩ = some (.int .i64 cb) := Bb1.out.cell 0
  have yb1 : w1.cell? ⟨w.heap.size + 1, 1, none⟩ = some (.bool nb) := Bb1.out.cell 1
  have yb2 : w1.cell? ⟨w.heap.size + 1, 2, none⟩ = some (.string tb) := Bb1.out.cell 2
  have yb3 : w1.cell? ⟨w.heap.size + 1, 3, none⟩ = some (.int .i64 eb) := Bb1.out.cell 3
  go_wp2_with fail
  refine (MB.out _).mono ?_
  rintro e w2 ⟨rfl, hb⟩
  have Ba2 := hide (Ba1.out.below hb Ba1.out.lt)
  have Bb2 := hide (Bb1.out.below hb Bb1.out.lt)
  have HB2 := hide (HB1.out.trans (hb.mono HB1.out.size))
  clear hb Ba1 Bb1 HB1 ya0 ya1 ya2 ya3 yb0 yb1 yb2 yb3
  have ya0 : w2.cell? ⟨w.heap.size, 0, none⟩ = some (.int .i64 ca) := Ba2.out.cell 0
  have ya1 : w2.cell? ⟨w.heap.size, 1, none⟩ = some (.bool na) := Ba2.out.cell 1
  have ya2 : w2.cell? ⟨w.heap.size, 2, none⟩ = some (.string ta) := Ba2.out.cell 2
  have ya3 : w2.cell? ⟨w.heap.size, 3, none⟩ = some (.int .i64 ea) := Ba2.out.cell 3
  have yb0 : w2.cell? ⟨w.heap.size + 1, 0, none⟩ = some (.int .i64 cb) := Bb2.out.cell 0
  have yb1 : w2.cell? ⟨w.heap.size + 1, 1, none⟩ = some (.bool nb) := Bb2.out.cell 1
  have yb2 : w2.cell? ⟨w.heap.size + 1, 2, none⟩ = some (.string tb) := Bb2.out.cell 2
  have yb3 : w2.cell? ⟨w.heap.size + 1, 3, none⟩ = some (.int .i64 eb) := Bb2.out.cell 3
  have b0 : Hid (Below w2.heap.size w2 w2.drew) := bdrewD w2
  have C0 : Hid (∀ X, Hid (Below w2.heap.size w2 X) → Calls Tryz.prog 39 #[dcV ca na ta ea] X fun e w' => e = .returned (.int .i64 x) ∧ Hid (Below w2.heap.size w2 w') ∧ w'.cell? ⟨w.heap.size, 0, none⟩ = some (.int .i64 ca) ∧ w'.cell? ⟨w.heap.size, 1, none⟩ = some (.bool na) ∧ w'.cell? ⟨w.heap.size, 2, none⟩ = some (.string ta) ∧ w'.cell? ⟨w.heap.size, 3, none⟩ = some (.int .i64 ea) ∧ w'.cell? ⟨w.heap.size + 1, 0, none⟩ = some (.int .i64 cb) ∧ w'.cell? ⟨w.heap.size + 1, 1, none⟩ = some (.bool nb) ∧ w'.cell? ⟨w.heap.size + 1, 2, none⟩ = some (.string tb) ∧ w'.cell? ⟨w.heap.size + 1, 3, none⟩ = some (.int .i64 eb)) := by
    intro X bX
    refine (RA.out X).mono ?_
    rintro e w' ⟨rfl, hb⟩
    have bb := bX.out.trans (hb.mono bX.out.size)
    have Baq := Ba2.out.below bb Ba2.out.lt
    have Bbq := Bb2.out.below bb Bb2.out.lt
    exact ⟨rfl, bb, Baq.cell 0, Baq.cell 1, Baq.cell 2, Baq.cell 3, Bbq.cell 0, Bbq.cell 1, Bbq.cell 2, Bbq.cell 3⟩
  have C1 : Hid (∀ X, Hid (Below w2.heap.size w2 X) → Calls Tryz.prog 39 #[dcV cb nb tb eb] X fun e w' => e = .returned (.int .i64 y) ∧ Hid (Below w2.heap.size w2 w') ∧ w'.cell? ⟨w.heap.size, 0, none⟩ = some (.int .i64 ca) ∧ w'.cell? ⟨w.heap.size, 1, none⟩ = some (.bool na) ∧ w'.cell? ⟨w.heap.size, 2, none⟩ = some (.string ta) ∧ w'.cell? ⟨w.heap.size, 3, none⟩ = some (.int .i64 ea) ∧ w'.cell? ⟨w.heap.size + 1, 0, none⟩ = some (.int .i64 cb) ∧ w'.cell? ⟨w.heap.size + 1, 1, none⟩ = some (.bool nb) ∧ w'.cell? ⟨w.heap.size + 1, 2, none⟩ = some (.string tb) ∧ w'.cell? ⟨w.heap.size + 1, 3, none⟩ = some (.int .i64 eb)) := by
    intro X bX
    refine (RB.out X).mono ?_
    rintro e w' ⟨rfl, hb⟩
    have bb := bX.out.trans (hb.mono bX.out.size)
    have Baq := Ba2.out.below bb Ba2.out.lt
    have Bbq := Bb2.out.below bb Bb2.out.lt
    exact ⟨rfl, bb, Baq.cell 0, Baq.cell 1, Baq.cell 2, Baq.cell 3, Bbq.cell 0, Bbq.cell 1, Bbq.cell 2, Bbq.cell 3⟩
  go_wp2_with fail
  have mk0 : True := trivial
  go_region_held3 (fun w' => w'.cell? ⟨w.heap.size, 0, none⟩ = some (.int .i64 ca) ∧ w'.cell? ⟨w.heap.size, 1, none⟩ = some (.bool na) ∧ w'.cell? ⟨w.heap.size, 2, none⟩ = some (.string ta) ∧ w'.cell? ⟨w.heap.size, 3, none⟩ = some (.int .i64 ea) ∧ w'.cell? ⟨w.heap.size + 1, 0, none⟩ = some (.int .i64 cb) ∧ w'.cell? ⟨w.heap.size + 1, 1, none⟩ = some (.bool nb) ∧ w'.cell? ⟨w.heap.size + 1, 2, none⟩ = some (.string tb) ∧ w'.cell? ⟨w.heap.size + 1, 3, none⟩ = some (.int .i64 eb)) (go_keep) (first
    | (clear mk0; go_at_call 39; refine (C0.out _ b0).mono ?_; rintro e w3 ⟨rfl, b1, q0_0, q0_1, q0_2, q0_3, q0_4, q0_5, q0_6, q0_7⟩; have mk1 : True := trivial)
    | (clear mk1; go_at_call 39; refine (C1.out _ b1).mono ?_; rintro e w4 ⟨rfl, b2, q1_0, q1_1, q1_2, q1_3, q1_4, q1_5, q1_6, q1_7⟩; have mk2 : True := trivial))
  have Ba4 := hide (Ba2.out.below b2.out Ba2.out.lt)
  have Bb4 := hide (Bb2.out.below b2.out Bb2.out.lt)
  have HB4 := hide (HB2.out.trans (b2.out.mono HB2.out.size))
  clear mk2 b0 b1 b2 C0 C1 q0_0 q0_1 q0_2 q0_3 q0_4 q0_5 q0_6 q0_7 q1_0 q1_1 q1_2 q1_3 q1_4 q1_5 q1_6 q1_7 Ba2 Bb2 HB2 ya0 ya1 ya2 ya3 yb0 yb1 yb2 yb3
  have ya0 : w4.cell? ⟨w.heap.size, 0, none⟩ = some (.int .i64 ca) := Ba4.out.cell 0
  have ya1 : w4.cell? ⟨w.heap.size, 1, none⟩ = some (.bool na) := Ba4.out.cell 1
  have ya2 : w4.cell? ⟨w.heap.size, 2, none⟩ = some (.string ta) := Ba4.out.cell 2
  have ya3 : w4.cell? ⟨w.heap.size, 3, none⟩ = some (.int .i64 ea) := Ba4.out.cell 3
  have yb0 : w4.cell? ⟨w.heap.size + 1, 0, none⟩ = some (.int .i64 cb) := Bb4.out.cell 0
  have yb1 : w4.cell? ⟨w.heap.size + 1, 1, none⟩ = some (.bool nb) := Bb4.out.cell 1
  have yb2 : w4.cell? ⟨w.heap.size + 1, 2, none⟩ = some (.string tb) := Bb4.out.cell 2
  have yb3 : w4.cell? ⟨w.heap.size + 1, 3, none⟩ = some (.int .i64 eb) := Bb4.out.cell 3
  go_wp2
  go_ret2
  exact ⟨rfl, HB4.out⟩

set_option maxRecDepth 100000 in
set_option maxHeartbeats 2000000 in
theorem rCmp_same (ca : Int) (na : Bool) (ta : ByteArray) (ea : Int) (cb : Int) (nb : Bool) (tb : ByteArray) (eb : Int) (x : Int) (w : World) (ha : MayD ca na (bys ta) ea) (hb0 : MayD cb nb (bys tb) eb) (hra : ∀ W, Calls Tryz.prog 39 #[dcV ca na ta ea] W fun e w' => e = .returned (.int .i64 x) ∧ Below W.heap.size W w') (hrb : ∀ W, Calls Tryz.prog 39 #[dcV cb nb tb eb] W fun e w' => e = .returned (.int .i64 x) ∧ Below W.heap.size W w') (h : (x != 1) = true) : Calls Tryz.prog 19 #[dcV ca na ta ea, dcV cb nb tb eb] w fun e w' => e = .returned (.tuple #[.int .i64 0, .int .i64 0]) ∧ Below w.heap.size w w' := by
  have MA := hide (fun W => rmay_yes ca na ta ea W ha)
  have MB := hide (fun W => rmay_yes cb nb tb eb W hb0)
  have RA := hide hra
  have RB := hide hrb
  clear ha hb0 hra hrb
  have Ba0 := hide ((Blk.newAt w (w.heap.size) (rfl) #[.int .i64 ca, .bool na, .string ta, .int .i64 ea] 23).alloc (.cells #[.int .i64 cb, .bool nb, .string tb, .int .i64 eb] 23))
  have Bb0 := hide (Blk.newAt (w.alloc (.cells #[.int .i64 ca, .bool na, .string ta, .int .i64 ea] 23)) (w.heap.size + 1) (by simp) #[.int .i64 cb, .bool nb, .string tb, .int .i64 eb] 23)
  have HB0 : Hid (Below w.heap.size w ((w.alloc (.cells #[.int .i64 ca, .bool na, .string ta, .int .i64 ea] 23)).alloc (.cells #[.int .i64 cb, .bool nb, .string tb, .int .i64 eb] 23))) := (((Below.refl _ _).alloc (Nat.le_refl _) _).alloc (by simp <;> omega) _)
  go_enter Tryz.func19, Tryz.ntmps19
  go_wp2_with fail
  refine (MA.out _).mono ?_
  rintro e w1 ⟨rfl, hb⟩
  have Ba1 := hide (Ba0.out.below hb Ba0.out.lt)
  have Bb1 := hide (Bb0.out.below hb Bb0.out.lt)
  have HB1 := hide (HB0.out.trans (hb.mono HB0.out.size))
  clear hb Ba0 Bb0 HB0 
  have ya0 : w1.cell? ⟨w.heap.size, 0, none⟩ = some (.int .i64 ca) := Ba1.out.cell 0
  have ya1 : w1.cell? ⟨w.heap.size, 1, none⟩ = some (.bool na) := Ba1.out.cell 1
  have ya2 : w1.cell? ⟨w.heap.size, 2, none⟩ = some (.string ta) := Ba1.out.cell 2
  have ya3 : w1.cell? ⟨w.heap.size, 3, none⟩ = some (.int .i64 ea) := Ba1.out.cell 3
  have yb0 : w1.cell? ⟨w.heap.size + 1, 0, none⟩ = some (.int .i64 cb) := Bb1.out.cell 0
  have yb1 : w1.cell? ⟨w.heap.size + 1, 1, none⟩ = some (.bool nb) := Bb1.out.cell 1
  have yb2 : w1.cell? ⟨w.heap.size + 1, 2, none⟩ = some (.string tb) := Bb1.out.cell 2
  have yb3 : w1.cell? ⟨w.heap.size + 1, 3, none⟩ = some (.int .i64 eb) := Bb1.out.cell 3
  go_wp2_with fail
  refine (MB.out _).mono ?_
  rintro e w2 ⟨rfl, hb⟩
  have Ba2 := hide (Ba1.out.below hb Ba1.out.lt)
  have Bb2 := hide (Bb1.out.below hb Bb1.out.lt)
  have HB2 := hide (HB1.out.trans (hb.mono HB1.out.size))
  clear hb Ba1 Bb1 HB1 ya0 ya1 ya2 ya3 yb0 yb1 yb2 yb3
  have ya0 : w2.cell? ⟨w.heap.size, 0, none⟩ = some (.int .i64 ca) := Ba2.out.cell 0
  have ya1 : w2.cell? ⟨w.heap.size, 1, none⟩ = some (.bool na) := Ba2.out.cell 1
  have ya2 : w2.cell? ⟨w.heap.size, 2, none⟩ = some (.string ta) := Ba2.out.cell 2
  have ya3 : w2.cell? ⟨w.heap.size, 3, none⟩ = some (.int .i64 ea) := Ba2.out.cell 3
  have yb0 : w2.cell? ⟨w.heap.size + 1, 0, none⟩ = some (.int .i64 cb) := Bb2.out.cell 0
  have yb1 : w2.cell? ⟨w.heap.size + 1, 1, none⟩ = some (.bool nb) := Bb2.out.cell 1
  have yb2 : w2.cell? ⟨w.heap.size + 1, 2, none⟩ = some (.string tb) := Bb2.out.cell 2
  have yb3 : w2.cell? ⟨w.heap.size + 1, 3, none⟩ = some (.int .i64 eb) := Bb2.out.cell 3
  have b0 : Hid (Below w2.heap.size w2 w2.drew) := bdrewD w2
  have C0 : Hid (∀ X, Hid (Below w2.heap.size w2 X) → Calls Tryz.prog 39 #[dcV ca na ta ea] X fun e w' => e = .returned (.int .i64 x) ∧ Hid (Below w2.heap.size w2 w') ∧ w'.cell? ⟨w.heap.size, 0, none⟩ = some (.int .i64 ca) ∧ w'.cell? ⟨w.heap.size, 1, none⟩ = some (.bool na) ∧ w'.cell? ⟨w.heap.size, 2, none⟩ = some (.string ta) ∧ w'.cell? ⟨w.heap.size, 3, none⟩ = some (.int .i64 ea) ∧ w'.cell? ⟨w.heap.size + 1, 0, none⟩ = some (.int .i64 cb) ∧ w'.cell? ⟨w.heap.size + 1, 1, none⟩ = some (.bool nb) ∧ w'.cell? ⟨w.heap.size + 1, 2, none⟩ = some (.string tb) ∧ w'.cell? ⟨w.heap.size + 1, 3, none⟩ = some (.int .i64 eb)) := by
    intro X bX
    refine (RA.out X).mono ?_
    rintro e w' ⟨rfl, hb⟩
    have bb := bX.out.trans (hb.mono bX.out.size)
    have Baq := Ba2.out.below bb Ba2.out.lt
    have Bbq := Bb2.out.below bb Bb2.out.lt
    exact ⟨rfl, bb, Baq.cell 0, Baq.cell 1, Baq.cell 2, Baq.cell 3, Bbq.cell 0, Bbq.cell 1, Bbq.cell 2, Bbq.cell 3⟩
  have C1 : Hid (∀ X, Hid (Below w2.heap.size w2 X) → Calls Tryz.prog 39 #[dcV cb nb tb eb] X fun e w' => e = .returned (.int .i64 x) ∧ Hid (Below w2.heap.size w2 w') ∧ w'.cell? ⟨w.heap.size, 0, none⟩ = some (.int .i64 ca) ∧ w'.cell? ⟨w.heap.size, 1, none⟩ = some (.bool na) ∧ w'.cell? ⟨w.heap.size, 2, none⟩ = some (.string ta) ∧ w'.cell? ⟨w.heap.size, 3, none⟩ = some (.int .i64 ea) ∧ w'.cell? ⟨w.heap.size + 1, 0, none⟩ = some (.int .i64 cb) ∧ w'.cell? ⟨w.heap.size + 1, 1, none⟩ = some (.bool nb) ∧ w'.cell? ⟨w.heap.size + 1, 2, none⟩ = some (.string tb) ∧ w'.cell? ⟨w.heap.size + 1, 3, none⟩ = some (.int .i64 eb)) := by
    intro X bX
    refine (RB.out X).mono ?_
    rintro e w' ⟨rfl, hb⟩
    have bb := bX.out.trans (hb.mono bX.out.size)
    have Baq := Ba2.out.below bb Ba2.out.lt
    have Bbq := Bb2.out.below bb Bb2.out.lt
    exact ⟨rfl, bb, Baq.cell 0, Baq.cell 1, Baq.cell 2, Baq.cell 3, Bbq.cell 0, Bbq.cell 1, Bbq.cell 2, Bbq.cell 3⟩
  go_wp2_with fail
  have mk0 : True := trivial
  go_region_held3 (fun w' => w'.cell? ⟨w.heap.size, 0, none⟩ = some (.int .i64 ca) ∧ w'.cell? ⟨w.heap.size, 1, none⟩ = some (.bool na) ∧ w'.cell? ⟨w.heap.size, 2, none⟩ = some (.string ta) ∧ w'.cell? ⟨w.heap.size, 3, none⟩ = some (.int .i64 ea) ∧ w'.cell? ⟨w.heap.size + 1, 0, none⟩ = some (.int .i64 cb) ∧ w'.cell? ⟨w.heap.size + 1, 1, none⟩ = some (.bool nb) ∧ w'.cell? ⟨w.heap.size + 1, 2, none⟩ = some (.string tb) ∧ w'.cell? ⟨w.heap.size + 1, 3, none⟩ = some (.int .i64 eb)) (go_keep) (first
    | (clear mk0; go_at_call 39; refine (C0.out _ b0).mono ?_; rintro e w3 ⟨rfl, b1, q0_0, q0_1, q0_2, q0_3, q0_4, q0_5, q0_6, q0_7⟩; have mk1 : True := trivial)
    | (clear mk1; go_at_call 39; refine (C1.out _ b1).mono ?_; rintro e w4 ⟨rfl, b2, q1_0, q1_1, q1_2, q1_3, q1_4, q1_5, q1_6, q1_7⟩; have mk2 : True := trivial))
  have Ba4 := hide (Ba2.out.below b2.out Ba2.out.lt)
  have Bb4 := hide (Bb2.out.below b2.out Bb2.out.lt)
  have HB4 := hide (HB2.out.trans (b2.out.mono HB2.out.size))
  clear mk2 b0 b1 b2 C0 C1 q0_0 q0_1 q0_2 q0_3 q0_4 q0_5 q0_6 q0_7 q1_0 q1_1 q1_2 q1_3 q1_4 q1_5 q1_6 q1_7 Ba2 Bb2 HB2 ya0 ya1 ya2 ya3 yb0 yb1 yb2 yb3
  have ya0 : w4.cell? ⟨w.heap.size, 0, none⟩ = some (.int .i64 ca) := Ba4.out.cell 0
  have ya1 : w4.cell? ⟨w.heap.size, 1, none⟩ = some (.bool na) := Ba4.out.cell 1
  have ya2 : w4.cell? ⟨w.heap.size, 2, none⟩ = some (.string ta) := Ba4.out.cell 2
  have ya3 : w4.cell? ⟨w.heap.size, 3, none⟩ = some (.int .i64 ea) := Ba4.out.cell 3
  have yb0 : w4.cell? ⟨w.heap.size + 1, 0, none⟩ = some (.int .i64 cb) := Bb4.out.cell 0
  have yb1 : w4.cell? ⟨w.heap.size + 1, 1, none⟩ = some (.bool nb) := Bb4.out.cell 1
  have yb2 : w4.cell? ⟨w.heap.size + 1, 2, none⟩ = some (.string tb) := Bb4.out.cell 2
  have yb3 : w4.cell? ⟨w.heap.size + 1, 3, none⟩ = some (.int .i64 eb) := Bb4.out.cell 3
  go_wp2
  go_ret2
  exact ⟨rfl, HB4.out⟩

set_option maxRecDepth 100000 in
set_option maxHeartbeats 4000000 in
theorem rCmp_fin (ca : Int) (na : Bool) (ta : ByteArray) (ea : Int) (cb : Int) (nb : Bool) (tb : ByteArray) (eb : Int) (ka kb : Nat) (v : Int) (w : World) (ha : MayD ca na (bys ta) ea) (hb0 : MayD cb nb (bys tb) eb) (hra : ∀ W, Calls Tryz.prog 39 #[dcV ca na ta ea] W fun e w' => e = .returned (.int .i64 1) ∧ Below W.heap.size W w') (hrb : ∀ W, Calls Tryz.prog 39 #[dcV cb nb tb eb] W fun e w' => e = .returned (.int .i64 1) ∧ Below W.heap.size W w') (ha1 : ta.size ≤ 1000) (hb1 : tb.size ≤ 1000) (da : DigB (bys ta)) (db : DigB (bys tb)) (hka : ea - min ea eb = (ka : Int)) (hkb : eb - min ea eb = (kb : Int)) (hka2 : ka ≤ 8192) (hkb2 : kb ≤ 8192) (hv : cmpZ ((zv na (decV (bys ta))) * ((10 ^ ka : Nat) : Int)) ((zv nb (decV (bys tb))) * ((10 ^ kb : Nat) : Int)) = v) : Calls Tryz.prog 19 #[dcV ca na ta ea, dcV cb nb tb eb] w fun e w' => e = .returned (.tuple #[.int .i64 v, .int .i64 0]) ∧ Below w.heap.size w w' := by
  have MA := hide (fun W => rmay_yes ca na ta ea W ha)
  have MB := hide (fun W => rmay_yes cb nb tb eb W hb0)
  have RA := hide hra
  have RB := hide hrb
  clear ha hb0 hra hrb
  have DA := hide da
  have DB := hide db
  have HA := hide ha1
  have HB := hide hb1
  have KA := hide hka
  have KB := hide hkb
  have KA2 := hide hka2
  have KB2 := hide hkb2
  have HV := hide hv
  clear da db ha1 hb1 hka hkb hka2 hkb2 hv
  have Ba0 := hide ((Blk.newAt w (w.heap.size) (rfl) #[.int .i64 ca, .bool na, .string ta, .int .i64 ea] 23).alloc (.cells #[.int .i64 cb, .bool nb, .string tb, .int .i64 eb] 23))
  have Bb0 := hide (Blk.newAt (w.alloc (.cells #[.int .i64 ca, .bool na, .string ta, .int .i64 ea] 23)) (w.heap.size + 1) (by simp) #[.int .i64 cb, .bool nb, .string tb, .int .i64 eb] 23)
  have HB0 : Hid (Below w.heap.size w ((w.alloc (.cells #[.int .i64 ca, .bool na, .string ta, .int .i64 ea] 23)).alloc (.cells #[.int .i64 cb, .bool nb, .string tb, .int .i64 eb] 23))) := (((Below.refl _ _).alloc (Nat.le_refl _) _).alloc (by simp <;> omega) _)
  go_enter Tryz.func19, Tryz.ntmps19
  go_wp2_with fail
  refine (MA.out _).mono ?_
  rintro e w1 ⟨rfl, hb⟩
  have Ba1 := hide (Ba0.out.below hb Ba0.out.lt)
  have Bb1 := hide (Bb0.out.below hb Bb0.out.lt)
  have HB1 := hide (HB0.out.trans (hb.mono HB0.out.size))
  clear hb Ba0 Bb0 HB0 
  have ya0 : w1.cell? ⟨w.heap.size, 0, none⟩ = some (.int .i64 ca) := Ba1.out.cell 0
  have ya1 : w1.cell? ⟨w.heap.size, 1, none⟩ = some (.bool na) := Ba1.out.cell 1
  have ya2 : w1.cell? ⟨w.heap.size, 2, none⟩ = some (.string ta) := Ba1.out.cell 2
  have ya3 : w1.cell? ⟨w.heap.size, 3, none⟩ = some (.int .i64 ea) := Ba1.out.cell 3
  have yb0 : w1.cell? ⟨w.heap.size + 1, 0, none⟩ = some (.int .i64 cb) := Bb1.out.cell 0
  have yb1 : w1.cell? ⟨w.heap.size + 1, 1, none⟩ = some (.bool nb) := Bb1.out.cell 1
  have yb2 : w1.cell? ⟨w.heap.size + 1, 2, none⟩ = some (.string tb) := Bb1.out.cell 2
  have yb3 : w1.cell? ⟨w.heap.size + 1, 3, none⟩ = some (.int .i64 eb) := Bb1.out.cell 3
  go_wp2_with fail
  refine (MB.out _).mono ?_
  rintro e w2 ⟨rfl, hb⟩
  have Ba2 := hide (Ba1.out.below hb Ba1.out.lt)
  have Bb2 := hide (Bb1.out.below hb Bb1.out.lt)
  have HB2 := hide (HB1.out.trans (hb.mono HB1.out.size))
  clear hb Ba1 Bb1 HB1 ya0 ya1 ya2 ya3 yb0 yb1 yb2 yb3
  have ya0 : w2.cell? ⟨w.heap.size, 0, none⟩ = some (.int .i64 ca) := Ba2.out.cell 0
  have ya1 : w2.cell? ⟨w.heap.size, 1, none⟩ = some (.bool na) := Ba2.out.cell 1
  have ya2 : w2.cell? ⟨w.heap.size, 2, none⟩ = some (.string ta) := Ba2.out.cell 2
  have ya3 : w2.cell? ⟨w.heap.size, 3, none⟩ = some (.int .i64 ea) := Ba2.out.cell 3
  have yb0 : w2.cell? ⟨w.heap.size + 1, 0, none⟩ = some (.int .i64 cb) := Bb2.out.cell 0
  have yb1 : w2.cell? ⟨w.heap.size + 1, 1, none⟩ = some (.bool nb) := Bb2.out.cell 1
  have yb2 : w2.cell? ⟨w.heap.size + 1, 2, none⟩ = some (.string tb) := Bb2.out.cell 2
  have yb3 : w2.cell? ⟨w.heap.size + 1, 3, none⟩ = some (.int .i64 eb) := Bb2.out.cell 3
  have b0 : Hid (Below w2.heap.size w2 w2.drew) := bdrewD w2
  have C0 : Hid (∀ X, Hid (Below w2.heap.size w2 X) → Calls Tryz.prog 39 #[dcV ca na ta ea] X fun e w' => e = .returned (.int .i64 1) ∧ Hid (Below w2.heap.size w2 w') ∧ w'.cell? ⟨w.heap.size, 0, none⟩ = some (.int .i64 ca) ∧ w'.cell? ⟨w.heap.size, 1, none⟩ = some (.bool na) ∧ w'.cell? ⟨w.heap.size, 2, none⟩ = some (.string ta) ∧ w'.cell? ⟨w.heap.size, 3, none⟩ = some (.int .i64 ea) ∧ w'.cell? ⟨w.heap.size + 1, 0, none⟩ = some (.int .i64 cb) ∧ w'.cell? ⟨w.heap.size + 1, 1, none⟩ = some (.bool nb) ∧ w'.cell? ⟨w.heap.size + 1, 2, none⟩ = some (.string tb) ∧ w'.cell? ⟨w.heap.size + 1, 3, none⟩ = some (.int .i64 eb)) := by
    intro X bX
    refine (RA.out X).mono ?_
    rintro e w' ⟨rfl, hb⟩
    have bb := bX.out.trans (hb.mono bX.out.size)
    have Baq := Ba2.out.below bb Ba2.out.lt
    have Bbq := Bb2.out.below bb Bb2.out.lt
    exact ⟨rfl, bb, Baq.cell 0, Baq.cell 1, Baq.cell 2, Baq.cell 3, Bbq.cell 0, Bbq.cell 1, Bbq.cell 2, Bbq.cell 3⟩
  have C1 : Hid (∀ X, Hid (Below w2.heap.size w2 X) → Calls Tryz.prog 39 #[dcV cb nb tb eb] X fun e w' => e = .returned (.int .i64 1) ∧ Hid (Below w2.heap.size w2 w') ∧ w'.cell? ⟨w.heap.size, 0, none⟩ = some (.int .i64 ca) ∧ w'.cell? ⟨w.heap.size, 1, none⟩ = some (.bool na) ∧ w'.cell? ⟨w.heap.size, 2, none⟩ = some (.string ta) ∧ w'.cell? ⟨w.heap.size, 3, none⟩ = some (.int .i64 ea) ∧ w'.cell? ⟨w.heap.size + 1, 0, none⟩ = some (.int .i64 cb) ∧ w'.cell? ⟨w.heap.size + 1, 1, none⟩ = some (.bool nb) ∧ w'.cell? ⟨w.heap.size + 1, 2, none⟩ = some (.string tb) ∧ w'.cell? ⟨w.heap.size + 1, 3, none⟩ = some (.int .i64 eb)) := by
    intro X bX
    refine (RB.out X).mono ?_
    rintro e w' ⟨rfl, hb⟩
    have bb := bX.out.trans (hb.mono bX.out.size)
    have Baq := Ba2.out.below bb Ba2.out.lt
    have Bbq := Bb2.out.below bb Bb2.out.lt
    exact ⟨rfl, bb, Baq.cell 0, Baq.cell 1, Baq.cell 2, Baq.cell 3, Bbq.cell 0, Bbq.cell 1, Bbq.cell 2, Bbq.cell 3⟩
  go_wp2_with fail
  have mk0 : True := trivial
  go_region_held3 (fun w' => w'.cell? ⟨w.heap.size, 0, none⟩ = some (.int .i64 ca) ∧ w'.cell? ⟨w.heap.size, 1, none⟩ = some (.bool na) ∧ w'.cell? ⟨w.heap.size, 2, none⟩ = some (.string ta) ∧ w'.cell? ⟨w.heap.size, 3, none⟩ = some (.int .i64 ea) ∧ w'.cell? ⟨w.heap.size + 1, 0, none⟩ = some (.int .i64 cb) ∧ w'.cell? ⟨w.heap.size + 1, 1, none⟩ = some (.bool nb) ∧ w'.cell? ⟨w.heap.size + 1, 2, none⟩ = some (.string tb) ∧ w'.cell? ⟨w.heap.size + 1, 3, none⟩ = some (.int .i64 eb)) (go_keep) (first
    | (clear mk0; go_at_call 39; refine (C0.out _ b0).mono ?_; rintro e w3 ⟨rfl, b1, q0_0, q0_1, q0_2, q0_3, q0_4, q0_5, q0_6, q0_7⟩; have mk1 : True := trivial)
    | (clear mk1; go_at_call 39; refine (C1.out _ b1).mono ?_; rintro e w4 ⟨rfl, b2, q1_0, q1_1, q1_2, q1_3, q1_4, q1_5, q1_6, q1_7⟩; have mk2 : True := trivial))
  have Ba4 := hide (Ba2.out.below b2.out Ba2.out.lt)
  have Bb4 := hide (Bb2.out.below b2.out Bb2.out.lt)
  have HB4 := hide (HB2.out.trans (b2.out.mono HB2.out.size))
  clear mk2 b0 b1 b2 C0 C1 q0_0 q0_1 q0_2 q0_3 q0_4 q0_5 q0_6 q0_7 q1_0 q1_1 q1_2 q1_3 q1_4 q1_5 q1_6 q1_7 Ba2 Bb2 HB2 ya0 ya1 ya2 ya3 yb0 yb1 yb2 yb3
  have ya0 : w4.cell? ⟨w.heap.size, 0, none⟩ = some (.int .i64 ca) := Ba4.out.cell 0
  have ya1 : w4.cell? ⟨w.heap.size, 1, none⟩ = some (.bool na) := Ba4.out.cell 1
  have ya2 : w4.cell? ⟨w.heap.size, 2, none⟩ = some (.string ta) := Ba4.out.cell 2
  have ya3 : w4.cell? ⟨w.heap.size, 3, none⟩ = some (.int .i64 ea) := Ba4.out.cell 3
  have yb0 : w4.cell? ⟨w.heap.size + 1, 0, none⟩ = some (.int .i64 cb) := Bb4.out.cell 0
  have yb1 : w4.cell? ⟨w.heap.size + 1, 1, none⟩ = some (.bool nb) := Bb4.out.cell 1
  have yb2 : w4.cell? ⟨w.heap.size + 1, 2, none⟩ = some (.string tb) := Bb4.out.cell 2
  have yb3 : w4.cell? ⟨w.heap.size + 1, 3, none⟩ = some (.int .i64 eb) := Bb4.out.cell 3
  have C0 : Hid (∀ X, Hid (Below w4.heap.size w4 X) → Calls Tryz.prog 41 #[dcV ca na ta ea] X fun e w' => (∃ s o l c, e = .returned (.agg #[.bool s, .slice o l c, .int .i64 ea]) ∧ Hid (RI w' s o l c (zv na (decV (bys ta))) 1002 0)) ∧ Hid (Below X.heap.size X w') ∧ Hid (Below w4.heap.size w4 w') ∧ w'.cell? ⟨w.heap.size, 0, none⟩ = some (.int .i64 ca) ∧ w'.cell? ⟨w.heap.size, 1, none⟩ = some (.bool na) ∧ w'.cell? ⟨w.heap.size, 2, none⟩ = some (.string ta) ∧ w'.cell? ⟨w.heap.size, 3, none⟩ = some (.int .i64 ea) ∧ w'.cell? ⟨w.heap.size + 1, 0, none⟩ = some (.int .i64 cb) ∧ w'.cell? ⟨w.heap.size + 1, 1, none⟩ = some (.bool nb) ∧ w'.cell? ⟨w.heap.size + 1, 2, none⟩ = some (.string tb) ∧ w'.cell? ⟨w.heap.size + 1, 3, none⟩ = some (.int .i64 eb)) := by
    intro X bX
    refine (rnof ca na ta ea X HA.out DA.out).mono ?_
    rintro e w' ⟨⟨s, o, l, c, rfl, hz⟩, hb⟩
    have bb := bX.out.trans (hb.mono bX.out.size)
    have Baq := Ba4.out.below bb Ba4.out.lt
    have Bbq := Bb4.out.below bb Bb4.out.lt
    exact ⟨⟨s, o, l, c, rfl, hz.lo (Nat.zero_le _) (Nat.le_refl _)⟩, hb, bb, Baq.cell 0, Baq.cell 1, Baq.cell 2, Baq.cell 3, Bbq.cell 0, Bbq.cell 1, Bbq.cell 2, Bbq.cell 3⟩
  have C1 : Hid (∀ X, Hid (Below w4.heap.size w4 X) → Calls Tryz.prog 41 #[dcV cb nb tb eb] X fun e w' => (∃ s o l c, e = .returned (.agg #[.bool s, .slice o l c, .int .i64 eb]) ∧ Hid (RI w' s o l c (zv nb (decV (bys tb))) 1002 0)) ∧ Hid (Below X.heap.size X w') ∧ Hid (Below w4.heap.size w4 w') ∧ w'.cell? ⟨w.heap.size, 0, none⟩ = some (.int .i64 ca) ∧ w'.cell? ⟨w.heap.size, 1, none⟩ = some (.bool na) ∧ w'.cell? ⟨w.heap.size, 2, none⟩ = some (.string ta) ∧ w'.cell? ⟨w.heap.size, 3, none⟩ = some (.int .i64 ea) ∧ w'.cell? ⟨w.heap.size + 1, 0, none⟩ = some (.int .i64 cb) ∧ w'.cell? ⟨w.heap.size + 1, 1, none⟩ = some (.bool nb) ∧ w'.cell? ⟨w.heap.size + 1, 2, none⟩ = some (.string tb) ∧ w'.cell? ⟨w.heap.size + 1, 3, none⟩ = some (.int .i64 eb)) := by
    intro X bX
    refine (rnof cb nb tb eb X HB.out DB.out).mono ?_
    rintro e w' ⟨⟨s, o, l, c, rfl, hz⟩, hb⟩
    have bb := bX.out.trans (hb.mono bX.out.size)
    have Baq := Ba4.out.below bb Ba4.out.lt
    have Bbq := Bb4.out.below bb Bb4.out.lt
    exact ⟨⟨s, o, l, c, rfl, hz.lo (Nat.zero_le _) (Nat.le_refl _)⟩, hb, bb, Baq.cell 0, Baq.cell 1, Baq.cell 2, Baq.cell 3, Bbq.cell 0, Bbq.cell 1, Bbq.cell 2, Bbq.cell 3⟩
  have C2 : Hid (∀ X s1 o1 l1 c1 s2 o2 l2 c2, Hid (Below w4.heap.size w4 X) → Hid (RI X s1 o1 l1 c1 (zv na (decV (bys ta))) 1002 0) → Hid (RI X s2 o2 l2 c2 (zv nb (decV (bys tb))) 1002 0) → Calls Tryz.prog 40 #[.agg #[.bool s1, .slice o1 l1 c1, .int .i64 ea], .agg #[.bool s2, .slice o2 l2 c2, .int .i64 eb]] X fun e w' => e = .returned (.int .i64 v) ∧ Hid (Below w4.heap.size w4 w') ∧ w'.cell? ⟨w.heap.size, 0, none⟩ = some (.int .i64 ca) ∧ w'.cell? ⟨w.heap.size, 1, none⟩ = some (.bool na) ∧ w'.cell? ⟨w.heap.size, 2, none⟩ = some (.string ta) ∧ w'.cell? ⟨w.heap.size, 3, none⟩ = some (.int .i64 ea) ∧ w'.cell? ⟨w.heap.size + 1, 0, none⟩ = some (.int .i64 cb) ∧ w'.cell? ⟨w.heap.size + 1, 1, none⟩ = some (.bool nb) ∧ w'.cell? ⟨w.heap.size + 1, 2, none⟩ = some (.string tb) ∧ w'.cell? ⟨w.heap.size + 1, 3, none⟩ = some (.int .i64 eb)) := by
    intro X s1 o1 l1 c1 s2 o2 l2 c2 bX h1 h2
    have g1 : s1 = decide ((zv na (decV (bys ta))) < 0) := by obtain ⟨_, _, _, _, g, _⟩ := h1.out; exact g
    have g2 : s2 = decide ((zv nb (decV (bys tb))) < 0) := by obtain ⟨_, _, _, _, g, _⟩ := h2.out; exact g
    refine (rorder_any s1 o1 l1 c1 ea _ ka s2 o2 l2 c2 eb _ kb 0 v X KA.out KB.out KA2.out KB2.out h1.out h2.out (by rw [g1, g2, zv_mul10, zv_mul10]; exact HV.out)).mono ?_
    rintro e w' ⟨rfl, hb⟩
    have bb := bX.out.trans (hb.mono bX.out.size)
    have Baq := Ba4.out.below bb Ba4.out.lt
    have Bbq := Bb4.out.below bb Bb4.out.lt
    exact ⟨rfl, bb, Baq.cell 0, Baq.cell 1, Baq.cell 2, Baq.cell 3, Bbq.cell 0, Bbq.cell 1, Bbq.cell 2, Bbq.cell 3⟩
  have b0 : Hid (Below w4.heap.size w4 w4.drew) := bdrewD w4
  clear DA DB HA HB KA KB KA2 KB2 HV RA RB MA MB
  go_wp2_with fail
  have mk0 : True := trivial
  go_region_held3 (fun w' => w'.cell? ⟨w.heap.size, 0, none⟩ = some (.int .i64 ca) ∧ w'.cell? ⟨w.heap.size, 1, none⟩ = some (.bool na) ∧ w'.cell? ⟨w.heap.size, 2, none⟩ = some (.string ta) ∧ w'.cell? ⟨w.heap.size, 3, none⟩ = some (.int .i64 ea) ∧ w'.cell? ⟨w.heap.size + 1, 0, none⟩ = some (.int .i64 cb) ∧ w'.cell? ⟨w.heap.size + 1, 1, none⟩ = some (.bool nb) ∧ w'.cell? ⟨w.heap.size + 1, 2, none⟩ = some (.string tb) ∧ w'.cell? ⟨w.heap.size + 1, 3, none⟩ = some (.int .i64 eb)) (go_keep) (first
    | (clear mk0; go_at_call 41; refine (C0.out _ b0).mono ?_; rintro e wa ⟨⟨s1, o1, l1, c1, rfl, Z1⟩, R1, b1, q0_0, q0_1, q0_2, q0_3, q0_4, q0_5, q0_6, q0_7⟩; have mk1 : True := trivial)
    | (clear mk1; go_at_call 41; refine (C1.out _ b1).mono ?_; rintro e wb ⟨⟨s2, o2, l2, c2, rfl, Z2⟩, R2, b2, q1_0, q1_1, q1_2, q1_3, q1_4, q1_5, q1_6, q1_7⟩; have Y1 := hide (Z1.out.below R2.out); clear Z1; have mk2 : True := trivial)
    | (clear mk2; go_at_call 40; refine (C2.out _ _ _ _ _ _ _ _ _ b2 Y1 Z2).mono ?_; rintro e wc ⟨rfl, b3, q2_0, q2_1, q2_2, q2_3, q2_4, q2_5, q2_6, q2_7⟩; have mk3 : True := trivial))
  have HBq := hide (HB4.out.trans (b3.out.mono HB4.out.size))
  go_wp2
  go_ret2
  exact ⟨rfl, HBq.out⟩

end Go.Proofs.YtifpacgacbpalaaGreatDoor

namespace Go.Proofs.YtifpacgacbpalaaGreatDoor
open Go.RowKit

theorem wR {d : DecT} (h : May d) : (rankR d.cls d.neg = 3 ∧ wD d = (topNN : Int)) ∨ (rankR d.cls d.neg = 0 ∧ wD d = -(topN : Int)) ∨ (rankR d.cls d.neg = 2 ∧ wD d = (topN : Int)) ∨ (rankR d.cls d.neg = 1 ∧ -(topN : Int) < wD d ∧ wD d < (topN : Int) ∧ d.cls = 0) := by
  have tp := top_pos
  rcases may_cases h with ⟨n, rfl⟩ | h | ⟨n, rfl⟩ | rfl
  · have e : wD ⟨0, n, [], 0⟩ = 0 := by
      simp only [wD, vD, amt, decV, List.foldl_nil, Nat.zero_mul, zD_zero]
      simp
    exact .inr (.inr (.inr ⟨by simp [rankR], by rw [e]; omega, by rw [e]; omega, rfl⟩))
  · have h1 := h.amt_pos
    have h2 := h.amt_top
    have hw : wD d = zD d.neg (amt d.dig d.exp) := by unfold wD vD; rw [h.cls]; simp
    have hz : zD d.neg (amt d.dig d.exp) = (amt d.dig d.exp : Int) ∨ zD d.neg (amt d.dig d.exp) = -(amt d.dig d.exp : Int) := by cases d.neg <;> simp [zD]
    refine .inr (.inr (.inr ⟨by simp [rankR, h.cls], ?_, ?_, h.cls⟩)) <;> (rw [hw]; rcases hz with e | e <;> rw [e] <;> omega)
  · cases n
    · exact .inr (.inr (.inl ⟨by simp [rankR], by simp [wD, zD]⟩))
    · exact .inr (.inl ⟨by simp [rankR], by simp [wD, zD]⟩)
  · exact .inl ⟨by simp [rankR], by simp [wD]⟩

theorem rankR_lt {a b : DecT} (ha : May a) (hb : May b) (h : rankR a.cls a.neg < rankR b.cls b.neg) : wD a < wD b := by
  have t1 := top_pos
  have t2 := top_lt
  rcases wR ha with ⟨e1, e2⟩ | ⟨e1, e2⟩ | ⟨e1, e2⟩ | ⟨e1, e2, e3, _⟩ <;> rcases wR hb with ⟨f1, f2⟩ | ⟨f1, f2⟩ | ⟨f1, f2⟩ | ⟨f1, f2, f3, _⟩ <;> omega
theorem rankR_same {a b : DecT} (ha : May a) (hb : May b) (h : rankR a.cls a.neg = rankR b.cls b.neg) (h1 : rankR a.cls a.neg ≠ 1) : wD a = wD b := by
  rcases wR ha with ⟨e1, e2⟩ | ⟨e1, e2⟩ | ⟨e1, e2⟩ | ⟨e1, e2, e3, _⟩ <;> rcases wR hb with ⟨f1, f2⟩ | ⟨f1, f2⟩ | ⟨f1, f2⟩ | ⟨f1, f2, f3, _⟩ <;> omega
theorem rankR_fin {a : DecT} (ha : May a) (h : rankR a.cls a.neg = 1) : a.cls = 0 := by
  rcases wR ha with ⟨e1, e2⟩ | ⟨e1, e2⟩ | ⟨e1, e2⟩ | ⟨e1, e2, e3, e4⟩
  · omega
  · omega
  · omega
  · exact e4

theorem fin_facts {d : DecT} (h : May d) (hc : d.cls = 0) : d.dig.length ≤ 1000 ∧ DigB d.dig ∧ -3000 ≤ d.exp ∧ d.exp ≤ 2000 := by
  rcases may_cases h with ⟨n, rfl⟩ | h | ⟨n, rfl⟩ | rfl
  · exact ⟨by simp, fun k hk => absurd hk (by simp), by simp, by simp⟩
  · have := h.len
    have := h.lo
    have := h.hi
    exact ⟨h.len, h.dig, by omega, by omega⟩
  · cases hc
  · cases hc

theorem vD_at (d : DecT) {x : Int} (h1 : -3000 ≤ x) (h2 : x ≤ d.exp) : vD d = zv d.neg (decV d.dig) * ((10 ^ (d.exp - x).toNat : Nat) : Int) * ((10 ^ (x + 9000).toNat : Nat) : Int) := by
  unfold vD amt
  show _ = zD d.neg _ * _ * _
  rw [← zD_mul, ← zD_mul, Nat.mul_assoc, ← Nat.pow_add]
  congr 3
  omega

theorem cmps (ca : Int) (na : Bool) (ta : ByteArray) (ea : Int) (cb : Int) (nb : Bool) (tb : ByteArray) (eb : Int) : ∃ cx rx : Int, (∀ W, Calls Tryz.prog 18 #[dcV ca na ta ea, dcV cb nb tb eb] W fun e w' => e = .returned (.tuple #[.int .i64 cx, .int .i64 rx]) ∧ Below W.heap.size W w') ∧ (∀ W, Calls Tryz.prog 19 #[dcV ca na ta ea, dcV cb nb tb eb] W fun e w' => e = .returned (.tuple #[.int .i64 cx, .int .i64 rx]) ∧ Below W.heap.size W w') := by
  by_cases ha : MayD ca na (bys ta) ea
  · by_cases hb : MayD cb nb (bys tb) eb
    · obtain ⟨a, hda⟩ : ∃ d : DecT, d = ⟨ca.toNat, na, bys ta, ea⟩ := ⟨_, rfl⟩
      have ma : May a := by rw [hda]; exact mayD_d ha
      have ea' : dcV ca na ta ea = decVal a := by rw [hda]; exact dcV_d ca na ta ea (mayD_nn ha)
      have ca' : (a.cls : Int) = ca := by rw [hda]; exact Int.toNat_of_nonneg (mayD_nn ha)
      have na' : a.neg = na := by rw [hda]
      have ta' : a.dig = bys ta := by rw [hda]
      have xa' : a.exp = ea := by rw [hda]
      obtain ⟨b, hdb⟩ : ∃ d : DecT, d = ⟨cb.toNat, nb, bys tb, eb⟩ := ⟨_, rfl⟩
      have mb : May b := by rw [hdb]; exact mayD_d hb
      have eb' : dcV cb nb tb eb = decVal b := by rw [hdb]; exact dcV_d cb nb tb eb (mayD_nn hb)
      have cb' : (b.cls : Int) = cb := by rw [hdb]; exact Int.toNat_of_nonneg (mayD_nn hb)
      have nb' : b.neg = nb := by rw [hdb]
      have tb' : b.dig = bys tb := by rw [hdb]
      have xb' : b.exp = eb := by rw [hdb]
      clear hda hdb
      have c0 := fun W => Cmp_d a b W ma mb
      rw [← ea', ← eb'] at c0
      have ra := fun W => rrank_d ca na ta ea W ha
      have rb := fun W => rrank_d cb nb tb eb W hb
      refine ⟨_, _, c0, fun W => ?_⟩
      have ka : rankR a.cls a.neg = rankR ca na := by rw [ca', na']
      have kb : rankR b.cls b.neg = rankR cb nb := by rw [cb', nb']
      rcases Int.lt_trichotomy (rankR ca na) (rankR cb nb) with h | h | h
      · rw [cmpI_lt (rankR_lt ma mb (by omega))]
        exact rCmp_lt ca na ta ea cb nb tb eb _ _ W ha hb ra rb h
      · by_cases h1 : rankR ca na = 1
        · have fa := rankR_fin ma (by omega)
          have fb := rankR_fin mb (by omega)
          obtain ⟨a1, a2, a3, a4⟩ := fin_facts ma fa
          obtain ⟨b1, b2, b3, b4⟩ := fin_facts mb fb
          rw [← h, h1] at rb
          rw [h1] at ra
          rw [ta'] at a1 a2
          rw [tb'] at b1 b2
          rw [bys_len] at a1 b1
          rw [xa'] at a3 a4
          rw [xb'] at b3 b4
          have hm1 : -3000 ≤ min ea eb := by omega
          have hm2 : min ea eb ≤ ea := by omega
          have hm3 : min ea eb ≤ eb := by omega
          refine rCmp_fin ca na ta ea cb nb tb eb (ea - min ea eb).toNat (eb - min ea eb).toNat _ W ha hb ra rb a1 b1 a2 b2 (by omega) (by omega) (by omega) (by omega) ?_
          have wa : wD a = vD a := by unfold wD; rw [fa]; simp
          have wb : wD b = vD b := by unfold wD; rw [fb]; simp
          rw [wa, wb, vD_at a hm1 (by omega), vD_at b hm1 (by omega), cmpI_mul _ _ (Nat.pow_pos (by omega)), na', nb', ta', tb', xa', xb']
          rfl
        · have e : wD a = wD b := rankR_same ma mb (by omega) (by omega)
          rw [e, cmpI_self]
          rw [← h] at rb
          exact rCmp_same ca na ta ea cb nb tb eb _ W ha hb ra rb (by simpa using h1)
      · rw [cmpI_gt (rankR_lt mb ma (by omega))]
        exact rCmp_gt ca na ta ea cb nb tb eb _ _ W ha hb ra rb h
    · exact ⟨0, 52, fun W => Cmp_no2 ca na ta ea cb nb tb eb W ha hb, fun W => rCmp_no2 ca na ta ea cb nb tb eb W ha hb⟩
  · exact ⟨0, 52, fun W => Cmp_no1 ca na ta ea cb nb tb eb W ha, fun W => rCmp_no1 ca na ta ea cb nb tb eb W ha⟩

theorem negs (ca : Int) (na : Bool) (ta : ByteArray) (ea : Int) : ∃ (cy : Int) (ny : Bool) (ty : ByteArray) (ey ry : Int), (∀ W, Calls Tryz.prog 20 #[dcV ca na ta ea] W fun e w' => e = .returned (.tuple #[dcV cy ny ty ey, .int .i64 ry]) ∧ Below W.heap.size W w') ∧ (∀ W, Calls Tryz.prog 21 #[dcV ca na ta ea] W fun e w' => e = .returned (.tuple #[dcV cy ny ty ey, .int .i64 ry]) ∧ Below W.heap.size W w') := by
  by_cases h : MayD ca na (bys ta) ea
  · by_cases h2 : ca = 2
    · rcases h with ⟨e, _⟩ | ⟨e, _⟩ | ⟨rfl, rfl, h1, rfl⟩
      · omega
      · omega
      · obtain rfl := size_nil (bys_nil.1 h1)
        exact ⟨_, _, _, _, _, fun W => Neg_nan W, fun W => rNeg_nan W⟩
    · exact ⟨_, _, _, _, _, fun W => Neg_yes ca na ta ea W h h2, fun W => rNeg_yes ca na ta ea W h h2⟩
  · exact ⟨_, _, _, _, _, fun W => Neg_no ca na ta ea W h, fun W => rNeg_no ca na ta ea W h⟩

theorem dstands_walk (w : World) (htab : Tab w) (ca : Int) (na : Bool) (ta : ByteArray) (ea : Int) (cb : Int) (nb : Bool) (tb : ByteArray) (eb : Int) : Calls Tryz.prog 6 #[dcV ca na ta ea, dcV cb nb tb eb] w fun e w' => e = .returned (.bool true) ∧ Below w.heap.size w w' := by
  obtain ⟨cx, rx, c0, c1⟩ := cmps ca na ta ea cb nb tb eb
  obtain ⟨cy, ny, ty, ey, ry, n0, n1⟩ := negs ca na ta ea
  exact decStands_gen ca na ta ea cb nb tb eb cx rx cy ny ty ey ry w htab (fun W _ => c0 W) (fun W _ => c1 W) (fun W _ => n0 W) (fun W _ => n1 W)

end Go.Proofs.YtifpacgacbpalaaGreatDoor
