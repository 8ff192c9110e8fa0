/-
  The walk of ShortestForms.
-/
import Derived.Test.YtpiloigpncbccaaGreatDoorZSD
namespace Go.Proofs.YtpiloigpncbccaaGreatDoor
open Go.RowKit

theorem neg_of {b : Nat} (hb : b < 18446744073709551616) : (b / 2 ^ 52 / 2 ^ 11 ≠ 0) ↔ 9223372036854775808 ≤ b := by
  have e1 : (2 : Nat) ^ 52 = 4503599627370496 := by decide
  have e2 : (2 : Nat) ^ 11 = 2048 := by decide
  rw [e1, e2]; omega

/-- The two Decs of a float that is neither an infinity, nor a NaN, nor a zero. -/
theorem forms_some {b : Nat} (hx : b / 2 ^ 52 % 2 ^ 11 ≠ 2047) (h0 : ¬ (b / 2 ^ 52 % 2 ^ 11 = 0 ∧ b % 2 ^ 52 = 0)) :
    (Formed (of64D b) 17 ∧ (of64D b).dig ≠ [] ∧ (of64D b).neg = decide (b / 2 ^ 52 / 2 ^ 11 ≠ 0)) ∧ (Formed (ex64D b) 767 ∧ (ex64D b).dig ≠ [] ∧ (ex64D b).neg = decide (b / 2 ^ 52 / 2 ^ 11 ≠ 0)) := by
  have hm : b % 2 ^ 52 < 2 ^ 52 := Nat.mod_lt _ (by omega)
  have hx2 : b / 2 ^ 52 % 2 ^ 11 < 2048 := Nat.mod_lt _ (by omega)
  have h1 : -1074 ≤ fPow 1074 (b / 2 ^ 52 % 2 ^ 11) := by unfold fPow; split <;> omega
  have h2 : fPow 1074 (b / 2 ^ 52 % 2 ^ 11) ≤ 971 := by unfold fPow; split <;> omega
  have e : ∀ tell, decOf 52 11 tell b = decA (decide (b / 2 ^ 52 / 2 ^ 11 ≠ 0)) (tell (b / 2 ^ 52 % 2 ^ 11) (b % 2 ^ 52)).1 (tell (b / 2 ^ 52 % 2 ^ 11) (b % 2 ^ 52)).2 := fun tell => by
    unfold decOf; rw [if_neg hx, if_neg h0]
  rw [show of64D b = _ from e _, show ex64D b = _ from e _]
  exact ⟨fewD_formed _ (by omega) hm h0 h1 h2, allD_formed _ (by omega) hm h0 h1 h2⟩

theorem formed_zero (neg : Bool) (most : Nat) : Formed ⟨0, neg, [], 0⟩ most := ⟨rfl, Nat.zero_le _, fun k hk => by simp at hk, fun _ => rfl, fun h => absurd rfl h⟩

/-- A Dec and what it is as a struct. -/
structure DecIs (d : DecT) (c : Int) (neg : Bool) (t : ByteArray) (ex : Int) : Prop where
  cls : (d.cls : Int) = c
  neg : d.neg = neg
  dig : (⟨d.dig.toArray⟩ : ByteArray) = t
  exp : d.exp = ex

theorem DecIs.val {d : DecT} {c : Int} {neg : Bool} {t : ByteArray} {ex : Int} (h : DecIs d c neg t ex) : decVal d = .agg #[.int .i64 c, .bool neg, .string t, .int .i64 ex] := by
  unfold decVal; rw [h.cls, h.neg, h.dig, h.exp]

/-- The calls that ShortestForms begins with. -/
theorem forms_head (b : Nat) (hb : b < 18446744073709551616) (da db : DecT) (ha : of64D b = da) (he : ex64D b = db) {ca cb : Int} {na nb : Bool} {ta tb : ByteArray} {ea eb : Int} (ia : DecIs da ca na ta ea) (ib : DecIs db cb nb tb eb) :
    (∀ w, Tab w → Calls Tryz.prog 9 #[.int .u64 (b : Int)] w fun e w' => e = .returned (.agg #[.int .i64 ca, .bool na, .string ta, .int .i64 ea]) ∧ Below w.heap.size w w') ∧
    (∀ w, Tab w → Calls Tryz.prog 14 #[.int .u64 (b : Int)] w fun e w' => e = .returned (.agg #[.int .i64 cb, .bool nb, .string tb, .int .i64 eb]) ∧ Below w.heap.size w w') := by
  refine ⟨fun w ht => ?_, fun w ht => ?_⟩
  · have h := of64_any b w hb ht
    rw [ha, ia.val] at h
    exact h
  · have h := exact64_any b w hb ht
    rw [he, ib.val] at h
    exact h

/- The cases. -/

set_option maxRecDepth 100000 in
set_option maxHeartbeats 4000000 in
theorem forms_inf1 (b x m : Nat) (w : World) (hb : b < 18446744073709551616) (htab : Tab w) (mx : bits .and .u64 ((b : Int) / 4503599627370496) 2047 = (x : Int)) (mm : bits .and .u64 (b : Int) 4503599627370495 = (m : Int)) (da db : DecT) (ha : of64D b = da) (he : ex64D b = db) (ia : DecIs da 1 true ⟨#[]⟩ 0) (ib : DecIs db 1 true ⟨#[]⟩ 0) (hx : (x : Int) = 2047) (hm : (m : Int) = 0) (hs : (b : Int) / 9223372036854775808 = 1) :
    Calls Tryz.prog 6 #[.int .u64 (b : Int)] w fun e w' => e = .returned (.bool true) ∧ Below w.heap.size w w' := by
  obtain ⟨C1, C2⟩ := forms_head b hb da db ha he ia ib
  have H1 := hide C1
  have H2 := hide C2
  have HT := hide htab
  clear C1 C2 htab ha he ia ib
  go_enter Tryz.func6, Tryz.ntmps6
  go_wp2_with fail
  refine (H1.out _ HT.out).mono ?_
  rintro e w1 ⟨rfl, hb1⟩
  have HB1 := hide hb1
  clear hb1
  go_wp2_with fail
  refine (H2.out _ (HT.out.below HB1.out)).mono ?_
  rintro e w2 ⟨rfl, hb2⟩
  have HB2 := hide (HB1.out.trans (hb2.mono HB1.out.size))
  clear hb2 HB1
  have BA := hide ((Blk.new w2 #[.int .i64 1, .bool true, .string ⟨#[]⟩, .int .i64 0] 25).alloc (.cells #[.int .i64 1, .bool true, .string ⟨#[]⟩, .int .i64 0] 25))
  have BB := hide (Blk.newAt (w2.alloc (.cells #[.int .i64 1, .bool true, .string ⟨#[]⟩, .int .i64 0] 25)) (w2.heap.size + 1) (by simp) #[.int .i64 1, .bool true, .string ⟨#[]⟩, .int .i64 0] 25)
  have HBX : Hid (Below w2.heap.size w2 ((w2.alloc (.cells #[.int .i64 1, .bool true, .string ⟨#[]⟩, .int .i64 0] 25)).alloc (.cells #[.int .i64 1, .bool true, .string ⟨#[]⟩, .int .i64 0] 25))) := ((Below.refl _ _).alloc (Nat.le_refl _) _).alloc (by simp) _
  have HB2X := hide (HB2.out.trans (HBX.out.mono HB2.out.size))
  go_wp2_with fail
  refine (awake_any _ (HT.out.below HB2X.out)).mono ?_
  rintro e w3 ⟨rfl, hb3⟩
  have A3 := BA.out.below hb3 BA.out.lt
  have B3 := BB.out.below hb3 BB.out.lt
  have HB3 := hide (HB2X.out.trans (hb3.mono HB2X.out.size))
  have ka0 : w3.cell? ⟨w2.heap.size, 0, none⟩ = some (.int .i64 1) := A3.cell 0
  have ka1 : w3.cell? ⟨w2.heap.size, 1, none⟩ = some (.bool true) := A3.cell 1
  have ka2 : w3.cell? ⟨w2.heap.size, 2, none⟩ = some (.string ⟨#[]⟩) := A3.cell 2
  have ka3 : w3.cell? ⟨w2.heap.size, 3, none⟩ = some (.int .i64 0) := A3.cell 3
  have kb0 : w3.cell? ⟨w2.heap.size + 1, 0, none⟩ = some (.int .i64 1) := B3.cell 0
  have kb1 : w3.cell? ⟨w2.heap.size + 1, 1, none⟩ = some (.bool true) := B3.cell 1
  have kb2 : w3.cell? ⟨w2.heap.size + 1, 2, none⟩ = some (.string ⟨#[]⟩) := B3.cell 2
  have kb3 : w3.cell? ⟨w2.heap.size + 1, 3, none⟩ = some (.int .i64 0) := B3.cell 3
  have la : w2.heap.size < w3.heap.size := A3.lt
  have lb : w2.heap.size + 1 < w3.heap.size := B3.lt
  clear A3 B3 hb3 BA BB HBX HB2X HB2 H1 H2
  go_wp2
  go_ret
  first | exact ⟨rfl, HB3.out.alloc HB3.out.size _⟩ | exact ⟨rfl, below_put4 (HB3.out.alloc HB3.out.size _) HB3.out.size _ _ _ _⟩

set_option maxRecDepth 100000 in
set_option maxHeartbeats 4000000 in
theorem forms_inf0 (b x m : Nat) (w : World) (hb : b < 18446744073709551616) (htab : Tab w) (mx : bits .and .u64 ((b : Int) / 4503599627370496) 2047 = (x : Int)) (mm : bits .and .u64 (b : Int) 4503599627370495 = (m : Int)) (da db : DecT) (ha : of64D b = da) (he : ex64D b = db) (ia : DecIs da 1 false ⟨#[]⟩ 0) (ib : DecIs db 1 false ⟨#[]⟩ 0) (hx : (x : Int) = 2047) (hm : (m : Int) = 0) (hs : (b : Int) / 9223372036854775808 = 0) :
    Calls Tryz.prog 6 #[.int .u64 (b : Int)] w fun e w' => e = .returned (.bool true) ∧ Below w.heap.size w w' := by
  obtain ⟨C1, C2⟩ := forms_head b hb da db ha he ia ib
  have H1 := hide C1
  have H2 := hide C2
  have HT := hide htab
  clear C1 C2 htab ha he ia ib
  go_enter Tryz.func6, Tryz.ntmps6
  go_wp2_with fail
  refine (H1.out _ HT.out).mono ?_
  rintro e w1 ⟨rfl, hb1⟩
  have HB1 := hide hb1
  clear hb1
  go_wp2_with fail
  refine (H2.out _ (HT.out.below HB1.out)).mono ?_
  rintro e w2 ⟨rfl, hb2⟩
  have HB2 := hide (HB1.out.trans (hb2.mono HB1.out.size))
  clear hb2 HB1
  have BA := hide ((Blk.new w2 #[.int .i64 1, .bool false, .string ⟨#[]⟩, .int .i64 0] 25).alloc (.cells #[.int .i64 1, .bool false, .string ⟨#[]⟩, .int .i64 0] 25))
  have BB := hide (Blk.newAt (w2.alloc (.cells #[.int .i64 1, .bool false, .string ⟨#[]⟩, .int .i64 0] 25)) (w2.heap.size + 1) (by simp) #[.int .i64 1, .bool false, .string ⟨#[]⟩, .int .i64 0] 25)
  have HBX : Hid (Below w2.heap.size w2 ((w2.alloc (.cells #[.int .i64 1, .bool false, .string ⟨#[]⟩, .int .i64 0] 25)).alloc (.cells #[.int .i64 1, .bool false, .string ⟨#[]⟩, .int .i64 0] 25))) := ((Below.refl _ _).alloc (Nat.le_refl _) _).alloc (by simp) _
  have HB2X := hide (HB2.out.trans (HBX.out.mono HB2.out.size))
  go_wp2_with fail
  refine (awake_any _ (HT.out.below HB2X.out)).mono ?_
  rintro e w3 ⟨rfl, hb3⟩
  have A3 := BA.out.below hb3 BA.out.lt
  have B3 := BB.out.below hb3 BB.out.lt
  have HB3 := hide (HB2X.out.trans (hb3.mono HB2X.out.size))
  have ka0 : w3.cell? ⟨w2.heap.size, 0, none⟩ = some (.int .i64 1) := A3.cell 0
  have ka1 : w3.cell? ⟨w2.heap.size, 1, none⟩ = some (.bool false) := A3.cell 1
  have ka2 : w3.cell? ⟨w2.heap.size, 2, none⟩ = some (.string ⟨#[]⟩) := A3.cell 2
  have ka3 : w3.cell? ⟨w2.heap.size, 3, none⟩ = some (.int .i64 0) := A3.cell 3
  have kb0 : w3.cell? ⟨w2.heap.size + 1, 0, none⟩ = some (.int .i64 1) := B3.cell 0
  have kb1 : w3.cell? ⟨w2.heap.size + 1, 1, none⟩ = some (.bool false) := B3.cell 1
  have kb2 : w3.cell? ⟨w2.heap.size + 1, 2, none⟩ = some (.string ⟨#[]⟩) := B3.cell 2
  have kb3 : w3.cell? ⟨w2.heap.size + 1, 3, none⟩ = some (.int .i64 0) := B3.cell 3
  have la : w2.heap.size < w3.heap.size := A3.lt
  have lb : w2.heap.size + 1 < w3.heap.size := B3.lt
  clear A3 B3 hb3 BA BB HBX HB2X HB2 H1 H2
  go_wp2
  go_ret
  first | exact ⟨rfl, HB3.out.alloc HB3.out.size _⟩ | exact ⟨rfl, below_put4 (HB3.out.alloc HB3.out.size _) HB3.out.size _ _ _ _⟩

set_option maxRecDepth 100000 in
set_option maxHeartbeats 4000000 in
theorem forms_nan (b x m : Nat) (w : World) (hb : b < 18446744073709551616) (htab : Tab w) (mx : bits .and .u64 ((b : Int) / 4503599627370496) 2047 = (x : Int)) (mm : bits .and .u64 (b : Int) 4503599627370495 = (m : Int)) (da db : DecT) (ha : of64D b = da) (he : ex64D b = db) (ia : DecIs da 2 false ⟨#[]⟩ 0) (ib : DecIs db 2 false ⟨#[]⟩ 0) (hx : (x : Int) = 2047) (hm : ¬ (m : Int) = 0) :
    Calls Tryz.prog 6 #[.int .u64 (b : Int)] w fun e w' => e = .returned (.bool true) ∧ Below w.heap.size w w' := by
  obtain ⟨C1, C2⟩ := forms_head b hb da db ha he ia ib
  have H1 := hide C1
  have H2 := hide C2
  have HT := hide htab
  clear C1 C2 htab ha he ia ib
  go_enter Tryz.func6, Tryz.ntmps6
  go_wp2_with fail
  refine (H1.out _ HT.out).mono ?_
  rintro e w1 ⟨rfl, hb1⟩
  have HB1 := hide hb1
  clear hb1
  go_wp2_with fail
  refine (H2.out _ (HT.out.below HB1.out)).mono ?_
  rintro e w2 ⟨rfl, hb2⟩
  have HB2 := hide (HB1.out.trans (hb2.mono HB1.out.size))
  clear hb2 HB1
  have BA := hide ((Blk.new w2 #[.int .i64 2, .bool false, .string ⟨#[]⟩, .int .i64 0] 25).alloc (.cells #[.int .i64 2, .bool false, .string ⟨#[]⟩, .int .i64 0] 25))
  have BB := hide (Blk.newAt (w2.alloc (.cells #[.int .i64 2, .bool false, .string ⟨#[]⟩, .int .i64 0] 25)) (w2.heap.size + 1) (by simp) #[.int .i64 2, .bool false, .string ⟨#[]⟩, .int .i64 0] 25)
  have HBX : Hid (Below w2.heap.size w2 ((w2.alloc (.cells #[.int .i64 2, .bool false, .string ⟨#[]⟩, .int .i64 0] 25)).alloc (.cells #[.int .i64 2, .bool false, .string ⟨#[]⟩, .int .i64 0] 25))) := ((Below.refl _ _).alloc (Nat.le_refl _) _).alloc (by simp) _
  have HB2X := hide (HB2.out.trans (HBX.out.mono HB2.out.size))
  go_wp2_with fail
  refine (awake_any _ (HT.out.below HB2X.out)).mono ?_
  rintro e w3 ⟨rfl, hb3⟩
  have A3 := BA.out.below hb3 BA.out.lt
  have B3 := BB.out.below hb3 BB.out.lt
  have HB3 := hide (HB2X.out.trans (hb3.mono HB2X.out.size))
  have ka0 : w3.cell? ⟨w2.heap.size, 0, none⟩ = some (.int .i64 2) := A3.cell 0
  have ka1 : w3.cell? ⟨w2.heap.size, 1, none⟩ = some (.bool false) := A3.cell 1
  have ka2 : w3.cell? ⟨w2.heap.size, 2, none⟩ = some (.string ⟨#[]⟩) := A3.cell 2
  have ka3 : w3.cell? ⟨w2.heap.size, 3, none⟩ = some (.int .i64 0) := A3.cell 3
  have kb0 : w3.cell? ⟨w2.heap.size + 1, 0, none⟩ = some (.int .i64 2) := B3.cell 0
  have kb1 : w3.cell? ⟨w2.heap.size + 1, 1, none⟩ = some (.bool false) := B3.cell 1
  have kb2 : w3.cell? ⟨w2.heap.size + 1, 2, none⟩ = some (.string ⟨#[]⟩) := B3.cell 2
  have kb3 : w3.cell? ⟨w2.heap.size + 1, 3, none⟩ = some (.int .i64 0) := B3.cell 3
  have la : w2.heap.size < w3.heap.size := A3.lt
  have lb : w2.heap.size + 1 < w3.heap.size := B3.lt
  clear A3 B3 hb3 BA BB HBX HB2X HB2 H1 H2
  go_wp2
  go_ret
  first | exact ⟨rfl, HB3.out.alloc HB3.out.size _⟩ | exact ⟨rfl, below_put4 (HB3.out.alloc HB3.out.size _) HB3.out.size _ _ _ _⟩

set_option maxRecDepth 100000 in
set_option maxHeartbeats 4000000 in
theorem forms_zero1 (b x m : Nat) (w : World) (hb : b < 18446744073709551616) (htab : Tab w) (mx : bits .and .u64 ((b : Int) / 4503599627370496) 2047 = (x : Int)) (mm : bits .and .u64 (b : Int) 4503599627370495 = (m : Int)) (da db : DecT) (ha : of64D b = da) (he : ex64D b = db) (ia : DecIs da 0 true ⟨#[]⟩ 0) (ib : DecIs db 0 true ⟨#[]⟩ 0) (hx : (x : Int) = 0) (hm : (m : Int) = 0) (fa : Formed da 17) (fb : Formed db 767) (hs : (b : Int) / 9223372036854775808 = 1) :
    Calls Tryz.prog 6 #[.int .u64 (b : Int)] w fun e w' => e = .returned (.bool true) ∧ Below w.heap.size w w' := by
  obtain ⟨C1, C2⟩ := forms_head b hb da db ha he ia ib
  have H1 := hide C1
  have H2 := hide C2
  have HT := hide htab
  have fa1 := fun W => formed_any da 17 W (by omega) fa
  have fb1 := fun W => formed_any db 767 W (by omega) fb
  rw [ia.val] at fa1
  rw [ib.val] at fb1
  have FA := hide fa1
  have FB := hide fb1
  clear fa fb fa1 fb1
  clear C1 C2 htab ha he ia ib
  go_enter Tryz.func6, Tryz.ntmps6
  go_wp2_with fail
  refine (H1.out _ HT.out).mono ?_
  rintro e w1 ⟨rfl, hb1⟩
  have HB1 := hide hb1
  clear hb1
  go_wp2_with fail
  refine (H2.out _ (HT.out.below HB1.out)).mono ?_
  rintro e w2 ⟨rfl, hb2⟩
  have HB2 := hide (HB1.out.trans (hb2.mono HB1.out.size))
  clear hb2 HB1
  have BA := hide ((Blk.new w2 #[.int .i64 0, .bool true, .string ⟨#[]⟩, .int .i64 0] 25).alloc (.cells #[.int .i64 0, .bool true, .string ⟨#[]⟩, .int .i64 0] 25))
  have BB := hide (Blk.newAt (w2.alloc (.cells #[.int .i64 0, .bool true, .string ⟨#[]⟩, .int .i64 0] 25)) (w2.heap.size + 1) (by simp) #[.int .i64 0, .bool true, .string ⟨#[]⟩, .int .i64 0] 25)
  have HBX : Hid (Below w2.heap.size w2 ((w2.alloc (.cells #[.int .i64 0, .bool true, .string ⟨#[]⟩, .int .i64 0] 25)).alloc (.cells #[.int .i64 0, .bool true, .string ⟨#[]⟩, .int .i64 0] 25))) := ((Below.refl _ _).alloc (Nat.le_refl _) _).alloc (by simp) _
  have HB2X := hide (HB2.out.trans (HBX.out.mono HB2.out.size))
  go_wp2_with fail
  refine (awake_any _ (HT.out.below HB2X.out)).mono ?_
  rintro e w3 ⟨rfl, hb3⟩
  have A3 := BA.out.below hb3 BA.out.lt
  have B3 := BB.out.below hb3 BB.out.lt
  have HB3 := hide (HB2X.out.trans (hb3.mono HB2X.out.size))
  have ka0 : w3.cell? ⟨w2.heap.size, 0, none⟩ = some (.int .i64 0) := A3.cell 0
  have ka1 : w3.cell? ⟨w2.heap.size, 1, none⟩ = some (.bool true) := A3.cell 1
  have ka2 : w3.cell? ⟨w2.heap.size, 2, none⟩ = some (.string ⟨#[]⟩) := A3.cell 2
  have ka3 : w3.cell? ⟨w2.heap.size, 3, none⟩ = some (.int .i64 0) := A3.cell 3
  have kb0 : w3.cell? ⟨w2.heap.size + 1, 0, none⟩ = some (.int .i64 0) := B3.cell 0
  have kb1 : w3.cell? ⟨w2.heap.size + 1, 1, none⟩ = some (.bool true) := B3.cell 1
  have kb2 : w3.cell? ⟨w2.heap.size + 1, 2, none⟩ = some (.string ⟨#[]⟩) := B3.cell 2
  have kb3 : w3.cell? ⟨w2.heap.size + 1, 3, none⟩ = some (.int .i64 0) := B3.cell 3
  have A3H := hide A3
  have B3H := hide B3
  clear A3 B3 hb3 BA BB HBX HB2X HB2 H1 H2
  go_wp2_with fail
  refine (FA.out _).mono ?_
  rintro e w4 ⟨rfl, hb4⟩
  have A4 := A3H.out.below hb4 A3H.out.lt
  have B4 := B3H.out.below hb4 B3H.out.lt
  have HB4 := hide (HB3.out.trans (hb4.mono HB3.out.size))
  have pa0 : w4.cell? ⟨w2.heap.size, 0, none⟩ = some (.int .i64 0) := A4.cell 0
  have pa1 : w4.cell? ⟨w2.heap.size, 1, none⟩ = some (.bool true) := A4.cell 1
  have pa2 : w4.cell? ⟨w2.heap.size, 2, none⟩ = some (.string ⟨#[]⟩) := A4.cell 2
  have pa3 : w4.cell? ⟨w2.heap.size, 3, none⟩ = some (.int .i64 0) := A4.cell 3
  have pb0 : w4.cell? ⟨w2.heap.size + 1, 0, none⟩ = some (.int .i64 0) := B4.cell 0
  have pb1 : w4.cell? ⟨w2.heap.size + 1, 1, none⟩ = some (.bool true) := B4.cell 1
  have pb2 : w4.cell? ⟨w2.heap.size + 1, 2, none⟩ = some (.string ⟨#[]⟩) := B4.cell 2
  have pb3 : w4.cell? ⟨w2.heap.size + 1, 3, none⟩ = some (.int .i64 0) := B4.cell 3
  have A4H := hide A4
  have B4H := hide B4
  clear A4 B4 hb4 A3H B3H HB3
  go_wp2_with fail
  refine (FB.out _).mono ?_
  rintro e w5 ⟨rfl, hb5⟩
  have A5 := A4H.out.below hb5 A4H.out.lt
  have B5 := B4H.out.below hb5 B4H.out.lt
  have HB5 := hide (HB4.out.trans (hb5.mono HB4.out.size))
  have qa0 : w5.cell? ⟨w2.heap.size, 0, none⟩ = some (.int .i64 0) := A5.cell 0
  have qa1 : w5.cell? ⟨w2.heap.size, 1, none⟩ = some (.bool true) := A5.cell 1
  have qa2 : w5.cell? ⟨w2.heap.size, 2, none⟩ = some (.string ⟨#[]⟩) := A5.cell 2
  have qa3 : w5.cell? ⟨w2.heap.size, 3, none⟩ = some (.int .i64 0) := A5.cell 3
  have qb0 : w5.cell? ⟨w2.heap.size + 1, 0, none⟩ = some (.int .i64 0) := B5.cell 0
  have qb1 : w5.cell? ⟨w2.heap.size + 1, 1, none⟩ = some (.bool true) := B5.cell 1
  have qb2 : w5.cell? ⟨w2.heap.size + 1, 2, none⟩ = some (.string ⟨#[]⟩) := B5.cell 2
  have qb3 : w5.cell? ⟨w2.heap.size + 1, 3, none⟩ = some (.int .i64 0) := B5.cell 3
  clear A5 B5 hb5 A4H B4H HB4 FA FB
  go_wp2
  go_ret
  exact ⟨rfl, HB5.out⟩

set_option maxRecDepth 100000 in
set_option maxHeartbeats 4000000 in
theorem forms_zero0 (b x m : Nat) (w : World) (hb : b < 18446744073709551616) (htab : Tab w) (mx : bits .and .u64 ((b : Int) / 4503599627370496) 2047 = (x : Int)) (mm : bits .and .u64 (b : Int) 4503599627370495 = (m : Int)) (da db : DecT) (ha : of64D b = da) (he : ex64D b = db) (ia : DecIs da 0 false ⟨#[]⟩ 0) (ib : DecIs db 0 false ⟨#[]⟩ 0) (hx : (x : Int) = 0) (hm : (m : Int) = 0) (fa : Formed da 17) (fb : Formed db 767) (hs : (b : Int) / 9223372036854775808 = 0) :
    Calls Tryz.prog 6 #[.int .u64 (b : Int)] w fun e w' => e = .returned (.bool true) ∧ Below w.heap.size w w' := by
  obtain ⟨C1, C2⟩ := forms_head b hb da db ha he ia ib
  have H1 := hide C1
  have H2 := hide C2
  have HT := hide htab
  have fa1 := fun W => formed_any da 17 W (by omega) fa
  have fb1 := fun W => formed_any db 767 W (by omega) fb
  rw [ia.val] at fa1
  rw [ib.val] at fb1
  have FA := hide fa1
  have FB := hide fb1
  clear fa fb fa1 fb1
  clear C1 C2 htab ha he ia ib
  go_enter Tryz.func6, Tryz.ntmps6
  go_wp2_with fail
  refine (H1.out _ HT.out).mono ?_
  rintro e w1 ⟨rfl, hb1⟩
  have HB1 := hide hb1
  clear hb1
  go_wp2_with fail
  refine (H2.out _ (HT.out.below HB1.out)).mono ?_
  rintro e w2 ⟨rfl, hb2⟩
  have HB2 := hide (HB1.out.trans (hb2.mono HB1.out.size))
  clear hb2 HB1
  have BA := hide ((Blk.new w2 #[.int .i64 0, .bool false, .string ⟨#[]⟩, .int .i64 0] 25).alloc (.cells #[.int .i64 0, .bool false, .string ⟨#[]⟩, .int .i64 0] 25))
  have BB := hide (Blk.newAt (w2.alloc (.cells #[.int .i64 0, .bool false, .string ⟨#[]⟩, .int .i64 0] 25)) (w2.heap.size + 1) (by simp) #[.int .i64 0, .bool false, .string ⟨#[]⟩, .int .i64 0] 25)
  have HBX : Hid (Below w2.heap.size w2 ((w2.alloc (.cells #[.int .i64 0, .bool false, .string ⟨#[]⟩, .int .i64 0] 25)).alloc (.cells #[.int .i64 0, .bool false, .string ⟨#[]⟩, .int .i64 0] 25))) := ((Below.refl _ _).alloc (Nat.le_refl _) _).alloc (by simp) _
  have HB2X := hide (HB2.out.trans (HBX.out.mono HB2.out.size))
  go_wp2_with fail
  refine (awake_any _ (HT.out.below HB2X.out)).mono ?_
  rintro e w3 ⟨rfl, hb3⟩
  have A3 := BA.out.below hb3 BA.out.lt
  have B3 := BB.out.below hb3 BB.out.lt
  have HB3 := hide (HB2X.out.trans (hb3.mono HB2X.out.size))
  have ka0 : w3.cell? ⟨w2.heap.size, 0, none⟩ = some (.int .i64 0) := A3.cell 0
  have ka1 : w3.cell? ⟨w2.heap.size, 1, none⟩ = some (.bool false) := A3.cell 1
  have ka2 : w3.cell? ⟨w2.heap.size, 2, none⟩ = some (.string ⟨#[]⟩) := A3.cell 2
  have ka3 : w3.cell? ⟨w2.heap.size, 3, none⟩ = some (.int .i64 0) := A3.cell 3
  have kb0 : w3.cell? ⟨w2.heap.size + 1, 0, none⟩ = some (.int .i64 0) := B3.cell 0
  have kb1 : w3.cell? ⟨w2.heap.size + 1, 1, none⟩ = some (.bool false) := B3.cell 1
  have kb2 : w3.cell? ⟨w2.heap.size + 1, 2, none⟩ = some (.string ⟨#[]⟩) := B3.cell 2
  have kb3 : w3.cell? ⟨w2.heap.size + 1, 3, none⟩ = some (.int .i64 0) := B3.cell 3
  have A3H := hide A3
  have B3H := hide B3
  clear A3 B3 hb3 BA BB HBX HB2X HB2 H1 H2
  go_wp2_with fail
  refine (FA.out _).mono ?_
  rintro e w4 ⟨rfl, hb4⟩
  have A4 := A3H.out.below hb4 A3H.out.lt
  have B4 := B3H.out.below hb4 B3H.out.lt
  have HB4 := hide (HB3.out.trans (hb4.mono HB3.out.size))
  have pa0 : w4.cell? ⟨w2.heap.size, 0, none⟩ = some (.int .i64 0) := A4.cell 0
  have pa1 : w4.cell? ⟨w2.heap.size, 1, none⟩ = some (.bool false) := A4.cell 1
  have pa2 : w4.cell? ⟨w2.heap.size, 2, none⟩ = some (.string ⟨#[]⟩) := A4.cell 2
  have pa3 : w4.cell? ⟨w2.heap.size, 3, none⟩ = some (.int .i64 0) := A4.cell 3
  have pb0 : w4.cell? ⟨w2.heap.size + 1, 0, none⟩ = some (.int .i64 0) := B4.cell 0
  have pb1 : w4.cell? ⟨w2.heap.size + 1, 1, none⟩ = some (.bool false) := B4.cell 1
  have pb2 : w4.cell? ⟨w2.heap.size + 1, 2, none⟩ = some (.string ⟨#[]⟩) := B4.cell 2
  have pb3 : w4.cell? ⟨w2.heap.size + 1, 3, none⟩ = some (.int .i64 0) := B4.cell 3
  have A4H := hide A4
  have B4H := hide B4
  clear A4 B4 hb4 A3H B3H HB3
  go_wp2_with fail
  refine (FB.out _).mono ?_
  rintro e w5 ⟨rfl, hb5⟩
  have A5 := A4H.out.below hb5 A4H.out.lt
  have B5 := B4H.out.below hb5 B4H.out.lt
  have HB5 := hide (HB4.out.trans (hb5.mono HB4.out.size))
  have qa0 : w5.cell? ⟨w2.heap.size, 0, none⟩ = some (.int .i64 0) := A5.cell 0
  have qa1 : w5.cell? ⟨w2.heap.size, 1, none⟩ = some (.bool false) := A5.cell 1
  have qa2 : w5.cell? ⟨w2.heap.size, 2, none⟩ = some (.string ⟨#[]⟩) := A5.cell 2
  have qa3 : w5.cell? ⟨w2.heap.size, 3, none⟩ = some (.int .i64 0) := A5.cell 3
  have qb0 : w5.cell? ⟨w2.heap.size + 1, 0, none⟩ = some (.int .i64 0) := B5.cell 0
  have qb1 : w5.cell? ⟨w2.heap.size + 1, 1, none⟩ = some (.bool false) := B5.cell 1
  have qb2 : w5.cell? ⟨w2.heap.size + 1, 2, none⟩ = some (.string ⟨#[]⟩) := B5.cell 2
  have qb3 : w5.cell? ⟨w2.heap.size + 1, 3, none⟩ = some (.int .i64 0) := B5.cell 3
  clear A5 B5 hb5 A4H B4H HB4 FA FB
  go_wp2
  go_ret
  exact ⟨rfl, HB5.out⟩

set_option maxRecDepth 100000 in
set_option maxHeartbeats 4000000 in
theorem forms_some1 (b x m : Nat) (w : World) (hb : b < 18446744073709551616) (htab : Tab w) (mx : bits .and .u64 ((b : Int) / 4503599627370496) 2047 = (x : Int)) (mm : bits .and .u64 (b : Int) 4503599627370495 = (m : Int)) (da db : DecT) (ha : of64D b = da) (he : ex64D b = db) (ta tb : ByteArray) (ea eb : Int) (ia : DecIs da 0 true ta ea) (ib : DecIs db 0 true tb eb) (hx : ¬ (x : Int) = 2047) (h0 : ¬ (x : Int) = 0 ∨ (x : Int) = 0 ∧ ((m : Int) == 0) = false) (fa : Formed da 17) (fb : Formed db 767) (nea2 : (ta.toList == []) = false) (neb2 : (tb.toList == []) = false) (hs : (b : Int) / 9223372036854775808 = 1) :
    Calls Tryz.prog 6 #[.int .u64 (b : Int)] w fun e w' => e = .returned (.bool true) ∧ Below w.heap.size w w' := by
  obtain ⟨C1, C2⟩ := forms_head b hb da db ha he ia ib
  have H1 := hide C1
  have H2 := hide C2
  have HT := hide htab
  have fa1 := fun W => formed_any da 17 W (by omega) fa
  have fb1 := fun W => formed_any db 767 W (by omega) fb
  rw [ia.val] at fa1
  rw [ib.val] at fb1
  have FA := hide fa1
  have FB := hide fb1
  clear fa fb fa1 fb1
  clear C1 C2 htab ha he ia ib
  go_enter Tryz.func6, Tryz.ntmps6
  go_wp2_with fail
  refine (H1.out _ HT.out).mono ?_
  rintro e w1 ⟨rfl, hb1⟩
  have HB1 := hide hb1
  clear hb1
  go_wp2_with fail
  refine (H2.out _ (HT.out.below HB1.out)).mono ?_
  rintro e w2 ⟨rfl, hb2⟩
  have HB2 := hide (HB1.out.trans (hb2.mono HB1.out.size))
  clear hb2 HB1
  have BA := hide ((Blk.new w2 #[.int .i64 0, .bool true, .string ta, .int .i64 ea] 25).alloc (.cells #[.int .i64 0, .bool true, .string tb, .int .i64 eb] 25))
  have BB := hide (Blk.newAt (w2.alloc (.cells #[.int .i64 0, .bool true, .string ta, .int .i64 ea] 25)) (w2.heap.size + 1) (by simp) #[.int .i64 0, .bool true, .string tb, .int .i64 eb] 25)
  have HBX : Hid (Below w2.heap.size w2 ((w2.alloc (.cells #[.int .i64 0, .bool true, .string ta, .int .i64 ea] 25)).alloc (.cells #[.int .i64 0, .bool true, .string tb, .int .i64 eb] 25))) := ((Below.refl _ _).alloc (Nat.le_refl _) _).alloc (by simp) _
  have HB2X := hide (HB2.out.trans (HBX.out.mono HB2.out.size))
  go_wp2_with fail
  refine (awake_any _ (HT.out.below HB2X.out)).mono ?_
  rintro e w3 ⟨rfl, hb3⟩
  have A3 := BA.out.below hb3 BA.out.lt
  have B3 := BB.out.below hb3 BB.out.lt
  have HB3 := hide (HB2X.out.trans (hb3.mono HB2X.out.size))
  have ka0 : w3.cell? ⟨w2.heap.size, 0, none⟩ = some (.int .i64 0) := A3.cell 0
  have ka1 : w3.cell? ⟨w2.heap.size, 1, none⟩ = some (.bool true) := A3.cell 1
  have ka2 : w3.cell? ⟨w2.heap.size, 2, none⟩ = some (.string ta) := A3.cell 2
  have ka3 : w3.cell? ⟨w2.heap.size, 3, none⟩ = some (.int .i64 ea) := A3.cell 3
  have kb0 : w3.cell? ⟨w2.heap.size + 1, 0, none⟩ = some (.int .i64 0) := B3.cell 0
  have kb1 : w3.cell? ⟨w2.heap.size + 1, 1, none⟩ = some (.bool true) := B3.cell 1
  have kb2 : w3.cell? ⟨w2.heap.size + 1, 2, none⟩ = some (.string tb) := B3.cell 2
  have kb3 : w3.cell? ⟨w2.heap.size + 1, 3, none⟩ = some (.int .i64 eb) := B3.cell 3
  have A3H := hide A3
  have B3H := hide B3
  clear A3 B3 hb3 BA BB HBX HB2X HB2 H1 H2
  rcases h0 with h0 | ⟨h0, h1⟩
  · go_wp2_with fail
    refine (FA.out _).mono ?_
    rintro e w4 ⟨rfl, hb4⟩
    have A4 := A3H.out.below hb4 A3H.out.lt
    have B4 := B3H.out.below hb4 B3H.out.lt
    have HB4 := hide (HB3.out.trans (hb4.mono HB3.out.size))
    have pa0 : w4.cell? ⟨w2.heap.size, 0, none⟩ = some (.int .i64 0) := A4.cell 0
    have pa1 : w4.cell? ⟨w2.heap.size, 1, none⟩ = some (.bool true) := A4.cell 1
    have pa2 : w4.cell? ⟨w2.heap.size, 2, none⟩ = some (.string ta) := A4.cell 2
    have pa3 : w4.cell? ⟨w2.heap.size, 3, none⟩ = some (.int .i64 ea) := A4.cell 3
    have pb0 : w4.cell? ⟨w2.heap.size + 1, 0, none⟩ = some (.int .i64 0) := B4.cell 0
    have pb1 : w4.cell? ⟨w2.heap.size + 1, 1, none⟩ = some (.bool true) := B4.cell 1
    have pb2 : w4.cell? ⟨w2.heap.size + 1, 2, none⟩ = some (.string tb) := B4.cell 2
    have pb3 : w4.cell? ⟨w2.heap.size + 1, 3, none⟩ = some (.int .i64 eb) := B4.cell 3
    have A4H := hide A4
    have B4H := hide B4
    clear A4 B4 hb4 A3H B3H HB3
    go_wp2_with fail
    refine (FB.out _).mono ?_
    rintro e w5 ⟨rfl, hb5⟩
    have A5 := A4H.out.below hb5 A4H.out.lt
    have B5 := B4H.out.below hb5 B4H.out.lt
    have HB5 := hide (HB4.out.trans (hb5.mono HB4.out.size))
    have qa0 : w5.cell? ⟨w2.heap.size, 0, none⟩ = some (.int .i64 0) := A5.cell 0
    have qa1 : w5.cell? ⟨w2.heap.size, 1, none⟩ = some (.bool true) := A5.cell 1
    have qa2 : w5.cell? ⟨w2.heap.size, 2, none⟩ = some (.string ta) := A5.cell 2
    have qa3 : w5.cell? ⟨w2.heap.size, 3, none⟩ = some (.int .i64 ea) := A5.cell 3
    have qb0 : w5.cell? ⟨w2.heap.size + 1, 0, none⟩ = some (.int .i64 0) := B5.cell 0
    have qb1 : w5.cell? ⟨w2.heap.size + 1, 1, none⟩ = some (.bool true) := B5.cell 1
    have qb2 : w5.cell? ⟨w2.heap.size + 1, 2, none⟩ = some (.string tb) := B5.cell 2
    have qb3 : w5.cell? ⟨w2.heap.size + 1, 3, none⟩ = some (.int .i64 eb) := B5.cell 3
    clear A5 B5 hb5 A4H B4H HB4 FA FB
    go_wp2
    go_ret
    exact ⟨rfl, HB5.out⟩
  · go_wp2_with fail
    refine (FA.out _).mono ?_
    rintro e w4 ⟨rfl, hb4⟩
    have A4 := A3H.out.below hb4 A3H.out.lt
    have B4 := B3H.out.below hb4 B3H.out.lt
    have HB4 := hide (HB3.out.trans (hb4.mono HB3.out.size))
    have pa0 : w4.cell? ⟨w2.heap.size, 0, none⟩ = some (.int .i64 0) := A4.cell 0
    have pa1 : w4.cell? ⟨w2.heap.size, 1, none⟩ = some (.bool true) := A4.cell 1
    have pa2 : w4.cell? ⟨w2.heap.size, 2, none⟩ = some (.string ta) := A4.cell 2
    have pa3 : w4.cell? ⟨w2.heap.size, 3, none⟩ = some (.int .i64 ea) := A4.cell 3
    have pb0 : w4.cell? ⟨w2.heap.size + 1, 0, none⟩ = some (.int .i64 0) := B4.cell 0
    have pb1 : w4.cell? ⟨w2.heap.size + 1, 1, none⟩ = some (.bool true) := B4.cell 1
    have pb2 : w4.cell? ⟨w2.heap.size + 1, 2, none⟩ = some (.string tb) := B4.cell 2
    have pb3 : w4.cell? ⟨w2.heap.size + 1, 3, none⟩ = some (.int .i64 eb) := B4.cell 3
    have A4H := hide A4
    have B4H := hide B4
    clear A4 B4 hb4 A3H B3H HB3
    go_wp2_with fail
    refine (FB.out _).mono ?_
    rintro e w5 ⟨rfl, hb5⟩
    have A5 := A4H.out.below hb5 A4H.out.lt
    have B5 := B4H.out.below hb5 B4H.out.lt
    have HB5 := hide (HB4.out.trans (hb5.mono HB4.out.size))
    have qa0 : w5.cell? ⟨w2.heap.size, 0, none⟩ = some (.int .i64 0) := A5.cell 0
    have qa1 : w5.cell? ⟨w2.heap.size, 1, none⟩ = some (.bool true) := A5.cell 1
    have qa2 : w5.cell? ⟨w2.heap.size, 2, none⟩ = some (.string ta) := A5.cell 2
    have qa3 : w5.cell? ⟨w2.heap.size, 3, none⟩ = some (.int .i64 ea) := A5.cell 3
    have qb0 : w5.cell? ⟨w2.heap.size + 1, 0, none⟩ = some (.int .i64 0) := B5.cell 0
    have qb1 : w5.cell? ⟨w2.heap.size + 1, 1, none⟩ = some (.bool true) := B5.cell 1
    have qb2 : w5.cell? ⟨w2.heap.size + 1, 2, none⟩ = some (.string tb) := B5.cell 2
    have qb3 : w5.cell? ⟨w2.heap.size + 1, 3, none⟩ = some (.int .i64 eb) := B5.cell 3
    clear A5 B5 hb5 A4H B4H HB4 FA FB
    go_wp2
    go_ret
    exact ⟨rfl, HB5.out⟩

set_option maxRecDepth 100000 in
set_option maxHeartbeats 4000000 in
theorem forms_some0 (b x m : Nat) (w : World) (hb : b < 18446744073709551616) (htab : Tab w) (mx : bits .and .u64 ((b : Int) / 4503599627370496) 2047 = (x : Int)) (mm : bits .and .u64 (b : Int) 4503599627370495 = (m : Int)) (da db : DecT) (ha : of64D b = da) (he : ex64D b = db) (ta tb : ByteArray) (ea eb : Int) (ia : DecIs da 0 false ta ea) (ib : DecIs db 0 false tb eb) (hx : ¬ (x : Int) = 2047) (h0 : ¬ (x : Int) = 0 ∨ (x : Int) = 0 ∧ ((m : Int) == 0) = false) (fa : Formed da 17) (fb : Formed db 767) (nea2 : (ta.toList == []) = false) (neb2 : (tb.toList == []) = false) (hs : (b : Int) / 9223372036854775808 = 0) :
    Calls Tryz.prog 6 #[.int .u64 (b : Int)] w fun e w' => e = .returned (.bool true) ∧ Below w.heap.size w w' := by
  obtain ⟨C1, C2⟩ := forms_head b hb da db ha he ia ib
  have H1 := hide C1
  have H2 := hide C2
  have HT := hide htab
  have fa1 := fun W => formed_any da 17 W (by omega) fa
  have fb1 := fun W => formed_any db 767 W (by omega) fb
  rw [ia.val] at fa1
  rw [ib.val] at fb1
  have FA := hide fa1
  have FB := hide fb1
  clear fa fb fa1 fb1
  clear C1 C2 htab ha he ia ib
  go_enter Tryz.func6, Tryz.ntmps6
  go_wp2_with fail
  refine (H1.out _ HT.out).mono ?_
  rintro e w1 ⟨rfl, hb1⟩
  have HB1 := hide hb1
  clear hb1
  go_wp2_with fail
  refine (H2.out _ (HT.out.below HB1.out)).mono ?_
  rintro e w2 ⟨rfl, hb2⟩
  have HB2 := hide (HB1.out.trans (hb2.mono HB1.out.size))
  clear hb2 HB1
  have BA := hide ((Blk.new w2 #[.int .i64 0, .bool false, .string ta, .int .i64 ea] 25).alloc (.cells #[.int .i64 0, .bool false, .string tb, .int .i64 eb] 25))
  have BB := hide (Blk.newAt (w2.alloc (.cells #[.int .i64 0, .bool false, .string ta, .int .i64 ea] 25)) (w2.heap.size + 1) (by simp) #[.int .i64 0, .bool false, .string tb, .int .i64 eb] 25)
  have HBX : Hid (Below w2.heap.size w2 ((w2.alloc (.cells #[.int .i64 0, .bool false, .string ta, .int .i64 ea] 25)).alloc (.cells #[.int .i64 0, .bool false, .string tb, .int .i64 eb] 25))) := ((Below.refl _ _).alloc (Nat.le_refl _) _).alloc (by simp) _
  have HB2X := hide (HB2.out.trans (HBX.out.mono HB2.out.size))
  go_wp2_with fail
  refine (awake_any _ (HT.out.below HB2X.out)).mono ?_
  rintro e w3 ⟨rfl, hb3⟩
  have A3 := BA.out.below hb3 BA.out.lt
  have B3 := BB.out.below hb3 BB.out.lt
  have HB3 := hide (HB2X.out.trans (hb3.mono HB2X.out.size))
  have ka0 : w3.cell? ⟨w2.heap.size, 0, none⟩ = some (.int .i64 0) := A3.cell 0
  have ka1 : w3.cell? ⟨w2.heap.size, 1, none⟩ = some (.bool false) := A3.cell 1
  have ka2 : w3.cell? ⟨w2.heap.size, 2, none⟩ = some (.string ta) := A3.cell 2
  have ka3 : w3.cell? ⟨w2.heap.size, 3, none⟩ = some (.int .i64 ea) := A3.cell 3
  have kb0 : w3.cell? ⟨w2.heap.size + 1, 0, none⟩ = some (.int .i64 0) := B3.cell 0
  have kb1 : w3.cell? ⟨w2.heap.size + 1, 1, none⟩ = some (.bool false) := B3.cell 1
  have kb2 : w3.cell? ⟨w2.heap.size + 1, 2, none⟩ = some (.string tb) := B3.cell 2
  have kb3 : w3.cell? ⟨w2.heap.size + 1, 3, none⟩ = some (.int .i64 eb) := B3.cell 3
  have A3H := hide A3
  have B3H := hide B3
  clear A3 B3 hb3 BA BB HBX HB2X HB2 H1 H2
  rcases h0 with h0 | ⟨h0, h1⟩
  · go_wp2_with fail
    refine (FA.out _).mono ?_
    rintro e w4 ⟨rfl, hb4⟩
    have A4 := A3H.out.below hb4 A3H.out.lt
    have B4 := B3H.out.below hb4 B3H.out.lt
    have HB4 := hide (HB3.out.trans (hb4.mono HB3.out.size))
    have pa0 : w4.cell? ⟨w2.heap.size, 0, none⟩ = some (.int .i64 0) := A4.cell 0
    have pa1 : w4.cell? ⟨w2.heap.size, 1, none⟩ = some (.bool false) := A4.cell 1
    have pa2 : w4.cell? ⟨w2.heap.size, 2, none⟩ = some (.string ta) := A4.cell 2
    have pa3 : w4.cell? ⟨w2.heap.size, 3, none⟩ = some (.int .i64 ea) := A4.cell 3
    have pb0 : w4.cell? ⟨w2.heap.size + 1, 0, none⟩ = some (.int .i64 0) := B4.cell 0
    have pb1 : w4.cell? ⟨w2.heap.size + 1, 1, none⟩ = some (.bool false) := B4.cell 1
    have pb2 : w4.cell? ⟨w2.heap.size + 1, 2, none⟩ = some (.string tb) := B4.cell 2
    have pb3 : w4.cell? ⟨w2.heap.size + 1, 3, none⟩ = some (.int .i64 eb) := B4.cell 3
    have A4H := hide A4
    have B4H := hide B4
    clear A4 B4 hb4 A3H B3H HB3
    go_wp2_with fail
    refine (FB.out _).mono ?_
    rintro e w5 ⟨rfl, hb5⟩
    have A5 := A4H.out.below hb5 A4H.out.lt
    have B5 := B4H.out.below hb5 B4H.out.lt
    have HB5 := hide (HB4.out.trans (hb5.mono HB4.out.size))
    have qa0 : w5.cell? ⟨w2.heap.size, 0, none⟩ = some (.int .i64 0) := A5.cell 0
    have qa1 : w5.cell? ⟨w2.heap.size, 1, none⟩ = some (.bool false) := A5.cell 1
    have qa2 : w5.cell? ⟨w2.heap.size, 2, none⟩ = some (.string ta) := A5.cell 2
    have qa3 : w5.cell? ⟨w2.heap.size, 3, none⟩ = some (.int .i64 ea) := A5.cell 3
    have qb0 : w5.cell? ⟨w2.heap.size + 1, 0, none⟩ = some (.int .i64 0) := B5.cell 0
    have qb1 : w5.cell? ⟨w2.heap.size + 1, 1, none⟩ = some (.bool false) := B5.cell 1
    have qb2 : w5.cell? ⟨w2.heap.size + 1, 2, none⟩ = some (.string tb) := B5.cell 2
    have qb3 : w5.cell? ⟨w2.heap.size + 1, 3, none⟩ = some (.int .i64 eb) := B5.cell 3
    clear A5 B5 hb5 A4H B4H HB4 FA FB
    go_wp2
    go_ret
    exact ⟨rfl, HB5.out⟩
  · go_wp2_with fail
    refine (FA.out _).mono ?_
    rintro e w4 ⟨rfl, hb4⟩
    have A4 := A3H.out.below hb4 A3H.out.lt
    have B4 := B3H.out.below hb4 B3H.out.lt
    have HB4 := hide (HB3.out.trans (hb4.mono HB3.out.size))
    have pa0 : w4.cell? ⟨w2.heap.size, 0, none⟩ = some (.int .i64 0) := A4.cell 0
    have pa1 : w4.cell? ⟨w2.heap.size, 1, none⟩ = some (.bool false) := A4.cell 1
    have pa2 : w4.cell? ⟨w2.heap.size, 2, none⟩ = some (.string ta) := A4.cell 2
    have pa3 : w4.cell? ⟨w2.heap.size, 3, none⟩ = some (.int .i64 ea) := A4.cell 3
    have pb0 : w4.cell? ⟨w2.heap.size + 1, 0, none⟩ = some (.int .i64 0) := B4.cell 0
    have pb1 : w4.cell? ⟨w2.heap.size + 1, 1, none⟩ = some (.bool false) := B4.cell 1
    have pb2 : w4.cell? ⟨w2.heap.size + 1, 2, none⟩ = some (.string tb) := B4.cell 2
    have pb3 : w4.cell? ⟨w2.heap.size + 1, 3, none⟩ = some (.int .i64 eb) := B4.cell 3
    have A4H := hide A4
    have B4H := hide B4
    clear A4 B4 hb4 A3H B3H HB3
    go_wp2_with fail
    refine (FB.out _).mono ?_
    rintro e w5 ⟨rfl, hb5⟩
    have A5 := A4H.out.below hb5 A4H.out.lt
    have B5 := B4H.out.below hb5 B4H.out.lt
    have HB5 := hide (HB4.out.trans (hb5.mono HB4.out.size))
    have qa0 : w5.cell? ⟨w2.heap.size, 0, none⟩ = some (.int .i64 0) := A5.cell 0
    have qa1 : w5.cell? ⟨w2.heap.size, 1, none⟩ = some (.bool false) := A5.cell 1
    have qa2 : w5.cell? ⟨w2.heap.size, 2, none⟩ = some (.string ta) := A5.cell 2
    have qa3 : w5.cell? ⟨w2.heap.size, 3, none⟩ = some (.int .i64 ea) := A5.cell 3
    have qb0 : w5.cell? ⟨w2.heap.size + 1, 0, none⟩ = some (.int .i64 0) := B5.cell 0
    have qb1 : w5.cell? ⟨w2.heap.size + 1, 1, none⟩ = some (.bool false) := B5.cell 1
    have qb2 : w5.cell? ⟨w2.heap.size + 1, 2, none⟩ = some (.string tb) := B5.cell 2
    have qb3 : w5.cell? ⟨w2.heap.size + 1, 3, none⟩ = some (.int .i64 eb) := B5.cell 3
    clear A5 B5 hb5 A4H B4H HB4 FA FB
    go_wp2
    go_ret
    exact ⟨rfl, HB5.out⟩

theorem ne_list {l : List UInt8} (h : l ≠ []) : ((⟨l.toArray⟩ : ByteArray).toList == []) = false := by
  rw [ByteArray.toList_eq]
  simpa using h

theorem forms_walk (w : World) (htab : Tab w) (b : Nat) (hb : b < 18446744073709551616) :
    Calls Tryz.prog 6 #[.int .u64 (b : Int)] w fun e w' => e = .returned (.bool true) ∧ Below w.heap.size w w' := by
  have e1 : (2 : Nat) ^ 52 = 4503599627370496 := by decide
  have e2 : (2 : Nat) ^ 11 = 2048 := by decide
  obtain ⟨x, hx⟩ : ∃ x, x = b / 2 ^ 52 % 2 ^ 11 := ⟨_, rfl⟩
  obtain ⟨m, hm⟩ : ∃ m, m = b % 2 ^ 52 := ⟨_, rfl⟩
  have mx : bits .and .u64 ((b : Int) / 4503599627370496) 2047 = (x : Int) := by
    have h := mask 11 2047 (b / 4503599627370496) (by decide) (by omega) (by omega)
    rw [hx, e1, e2, show (b : Int) / 4503599627370496 = ((b / 4503599627370496 : Nat) : Int) by omega]
    exact h
  have mm : bits .and .u64 (b : Int) 4503599627370495 = (m : Int) := by
    have h := mask 52 4503599627370495 b (by decide) (by omega) (by omega)
    rw [hm, e1]
    exact h
  have hneg := neg_of hb
  have D : ∀ tell, decOf 52 11 tell b = (if x = 2047 then if m = 0 then ⟨1, decide (b / 2 ^ 52 / 2 ^ 11 ≠ 0), [], 0⟩ else ⟨2, false, [], 0⟩ else if x = 0 ∧ m = 0 then ⟨0, decide (b / 2 ^ 52 / 2 ^ 11 ≠ 0), [], 0⟩ else decA (decide (b / 2 ^ 52 / 2 ^ 11 ≠ 0)) (tell x m).1 (tell x m).2) := fun tell => by
    rw [hx, hm]; rfl
  by_cases hx1 : x = 2047
  · by_cases hm0 : m = 0
    · have D1 : ∀ tell, decOf 52 11 tell b = ⟨1, decide (b / 2 ^ 52 / 2 ^ 11 ≠ 0), [], 0⟩ := fun tell => by rw [D, if_pos hx1, if_pos hm0]
      by_cases hs : 9223372036854775808 ≤ b
      · rw [decide_eq_true (hneg.2 hs)] at D1
        exact forms_inf1 b x m w hb htab mx mm _ _ (D1 _) (D1 _) ⟨rfl, rfl, rfl, rfl⟩ ⟨rfl, rfl, rfl, rfl⟩ (by omega) (by omega) (by omega)
      · rw [decide_eq_false (fun h => hs (hneg.1 h))] at D1
        exact forms_inf0 b x m w hb htab mx mm _ _ (D1 _) (D1 _) ⟨rfl, rfl, rfl, rfl⟩ ⟨rfl, rfl, rfl, rfl⟩ (by omega) (by omega) (by omega)
    · have D1 : ∀ tell, decOf 52 11 tell b = ⟨2, false, [], 0⟩ := fun tell => by rw [D, if_pos hx1, if_neg hm0]
      exact forms_nan b x m w hb htab mx mm _ _ (D1 _) (D1 _) ⟨rfl, rfl, rfl, rfl⟩ ⟨rfl, rfl, rfl, rfl⟩ (by omega) (by omega)
  · by_cases h0 : x = 0 ∧ m = 0
    · have D1 : ∀ tell, decOf 52 11 tell b = ⟨0, decide (b / 2 ^ 52 / 2 ^ 11 ≠ 0), [], 0⟩ := fun tell => by rw [D, if_neg hx1, if_pos h0]
      by_cases hs : 9223372036854775808 ≤ b
      · rw [decide_eq_true (hneg.2 hs)] at D1
        exact forms_zero1 b x m w hb htab mx mm _ _ (D1 _) (D1 _) ⟨rfl, rfl, rfl, rfl⟩ ⟨rfl, rfl, rfl, rfl⟩ (by omega) (by omega) (formed_zero _ _) (formed_zero _ _) (by omega)
      · rw [decide_eq_false (fun h => hs (hneg.1 h))] at D1
        exact forms_zero0 b x m w hb htab mx mm _ _ (D1 _) (D1 _) ⟨rfl, rfl, rfl, rfl⟩ ⟨rfl, rfl, rfl, rfl⟩ (by omega) (by omega) (formed_zero _ _) (formed_zero _ _) (by omega)
    · obtain ⟨⟨a1, a2, a3⟩, b1, b2, b3⟩ := forms_some (b := b) (by rw [← hx]; exact hx1) (by rw [← hx, ← hm]; exact h0)
      have h0' : ¬ (x : Int) = 0 ∨ (x : Int) = 0 ∧ ((m : Int) == 0) = false := by
        by_cases hz : x = 0
        · right
          refine ⟨by omega, ?_⟩
          have : ¬ (m : Int) = 0 := by omega
          simpa using this
        · left; omega
      by_cases hs : 9223372036854775808 ≤ b
      · rw [decide_eq_true (hneg.2 hs)] at a3 b3
        exact forms_some1 b x m w hb htab mx mm _ _ rfl rfl _ _ _ _ ⟨by rw [a1.cls]; rfl, a3, rfl, rfl⟩ ⟨by rw [b1.cls]; rfl, b3, rfl, rfl⟩ (by omega) h0' a1 b1 (ne_list a2) (ne_list b2) (by omega)
      · rw [decide_eq_false (fun h => hs (hneg.1 h))] at a3 b3
        exact forms_some0 b x m w hb htab mx mm _ _ rfl rfl _ _ _ _ ⟨by rw [a1.cls]; rfl, a3, rfl, rfl⟩ ⟨by rw [b1.cls]; rfl, b3, rfl, rfl⟩ (by omega) h0' a1 b1 (ne_list a2) (ne_list b2) (by omega)

end Go.Proofs.YtpiloigpncbccaaGreatDoor
