/-
  quipulaw05's awake: the calls answer what the document fixes.
-/
import Derived.Test.YtifpacgacbpalaaGreatDoorDOps
import Derived.Test.YtifpacgacbpalaaGreatDoorDCmp
import Derived.Test.YtifpacgacbpalaaGreatDoorDParse
namespace Go.Proofs.YtifpacgacbpalaaGreatDoor
open Go.RowKit

theorem digB_of {l : List UInt8} (h : l.all isDg = true) : DigB l := by
  have := (dgs_all_of h)
  rw [← this]; exact dgs_digB l
where
  dgs_all_of : ∀ {l : List UInt8}, l.all isDg = true → dgs l = l
    | [], _ => rfl
    | b :: t, h => by
      simp only [List.all_cons, Bool.and_eq_true] at h
      unfold dgs
      rw [List.takeWhile_cons_of_pos h.1]
      congr 1
      exact dgs_all_of h.2

theorem tell_of {neg : Bool} {l : List UInt8} {e : Int} {N : Nat} {d : DecT} (hd : DigB l) (hN : N = decV l) (h : ofD neg l e = d) (hm : May d) : tellF neg N e = (d, 0) := by
  have e1 : finD neg N e = d := by rw [hN, ← ofD_fin neg l e hd]; exact h
  rw [tellF_yes (by rw [e1]; exact hm), e1]
theorem tell_not {neg : Bool} {l : List UInt8} {e : Int} {N : Nat} {d : DecT} (hd : DigB l) (hN : N = decV l) (h : ofD neg l e = d) (hm : ¬ May d) : tellF neg N e = (⟨0, false, [], 0⟩, 51) := by
  have e1 : finD neg N e = d := by rw [hN, ← ofD_fin neg l e hd]; exact h
  exact tellF_no (by rw [e1]; exact hm)

def dA : DecT := ⟨0, false, [49, 53], -1⟩
def dX : DecT := ⟨0, false, [51], 0⟩
def dY : DecT := ⟨0, false, [50, 50, 53], -2⟩

theorem finA : Fin dA := ⟨rfl, by decide, by decide, by decide, by decide, by decide, by decide, digB_of rfl⟩
theorem finX : Fin dX := ⟨rfl, by decide, by decide, by decide, by decide, by decide, by decide, digB_of rfl⟩
theorem finY : Fin dY := ⟨rfl, by decide, by decide, by decide, by decide, by decide, by decide, digB_of rfl⟩

theorem aw1 : parseD [49, 46, 53, 48] = (dA, 0) := by
  have h : parseT [49, 46, 53, 48] = some ⟨false, [49], [53, 48], 0⟩ := by rfl
  unfold parseD
  rw [if_neg (by decide), if_neg (by decide), if_neg (by decide), h]
  exact tell_of (l := [49, 53, 48]) (digB_of rfl) rfl rfl finA.may

theorem aw3 : parseD [] = (⟨0, false, [], 0⟩, 50) := by
  have h : parseT [] = none := by rfl
  unfold parseD
  rw [if_neg (by decide), if_neg (by decide), if_neg (by decide), h]
  rfl

theorem aw4 : parseD [49, 101, 50, 48, 48, 48] = (⟨0, false, [], 0⟩, 51) := by
  have h : parseT [49, 101, 50, 48, 48, 48] = some ⟨false, [49], [], 2000⟩ := by rfl
  unfold parseD
  rw [if_neg (by decide), if_neg (by decide), if_neg (by decide), h]
  refine tell_not (l := [49]) (d := ⟨0, false, [49], 2000⟩) (digB_of rfl) rfl rfl ?_
  rintro (⟨_, ⟨h1, _⟩ | ⟨_, _, _, h1, _⟩⟩ | ⟨h1, _⟩ | ⟨h1, _⟩)
  · cases h1
  · exact absurd h1 (by decide)
  · exact absurd h1 (by decide)
  · exact absurd h1 (by decide)

theorem itoa_m1 : Lib.itoa (-1) = [45, 49] := by
  unfold Lib.itoa
  rw [if_pos (by decide), show (-1 : Int).natAbs = 1 from rfl, Lib.decDigits_one (by decide)]
  rfl
theorem aw2 : printT dA = [49, 53, 101, 45, 49] := by
  show [49, 53] ++ [101] ++ Lib.itoa (-1) = _
  rw [itoa_m1]; rfl

theorem aw6 : sumT dA dA = (dX, 0) := by
  unfold sumT
  rw [if_pos ⟨rfl, rfl⟩]
  exact tell_of (l := [51, 48]) (digB_of rfl) rfl rfl finX.may
theorem aw7 : prodT dA dA = (dY, 0) := by
  unfold prodT
  rw [if_pos ⟨rfl, rfl⟩]
  exact tell_of (l := [50, 50, 53]) (digB_of rfl) rfl rfl finY.may

theorem aw9 : cmpI (wD dA) (wD dX) = -1 := by
  rw [← rank_or]
  rfl
where
  rank_or : amtI dA dX = cmpI (wD dA) (wD dX) := by
    have := same_cmp finA.may finX.may rfl
    exact this

theorem bysmk (a : Array UInt8) : bys ⟨a⟩ = a.toList := rfl

theorem aPars1 (w : World) : Calls Tryz.prog 14 #[.string ⟨#[49, 46, 53, 48]⟩] w fun e w' => e = .returned (.tuple #[.agg #[.int .i64 0, .bool false, .string ⟨#[49, 53]⟩, .int .i64 (-1)], .int .i64 0]) ∧ Below w.heap.size w w' := by
  have h := Parse_any ⟨#[49, 46, 53, 48]⟩ w (by decide)
  rw [bysmk, aw1] at h
  exact h
theorem aPars3 (w : World) : Calls Tryz.prog 14 #[.string ⟨#[]⟩] w fun e w' => e = .returned (.tuple #[.agg #[.int .i64 0, .bool false, .string ⟨#[]⟩, .int .i64 0], .int .i64 50]) ∧ Below w.heap.size w w' := by
  have h := Parse_any ⟨#[]⟩ w (by decide)
  rw [bysmk, aw3] at h
  exact h
theorem aPars4 (w : World) : Calls Tryz.prog 14 #[.string ⟨#[49, 101, 50, 48, 48, 48]⟩] w fun e w' => e = .returned (.tuple #[.agg #[.int .i64 0, .bool false, .string ⟨#[]⟩, .int .i64 0], .int .i64 51]) ∧ Below w.heap.size w w' := by
  have h := Parse_any ⟨#[49, 101, 50, 48, 48, 48]⟩ w (by decide)
  rw [bysmk, aw4] at h
  exact h
abbrev vA : Value := .agg #[.int .i64 0, .bool false, .string ⟨#[49, 53]⟩, .int .i64 (-1)]
theorem aPrint (w : World) (h : Tab w) : Calls Tryz.prog 16 #[vA] w fun e w' => e = .returned (.tuple #[.string ⟨#[49, 53, 101, 45, 49]⟩, .int .i64 0]) ∧ Below w.heap.size w w' := by
  have h := Print_d dA w finA.may h
  rw [aw2] at h
  exact h
theorem aPrint5 (w : World) : Calls Tryz.prog 16 #[.agg #[.int .i64 0, .bool false, .string ⟨#[]⟩, .int .i64 1]] w fun e w' => e = .returned (.tuple #[.string ⟨#[]⟩, .int .i64 52]) ∧ Below w.heap.size w w' :=
  Print_no 0 false ⟨#[]⟩ 1 w (by
    rintro (⟨_, ⟨_, h1⟩ | ⟨h1, _⟩⟩ | ⟨h1, _⟩ | ⟨h1, _⟩)
    · cases h1
    · exact h1 rfl
    · cases h1
    · cases h1)
theorem aAdd (w : World) (h : Tab w) : Calls Tryz.prog 24 #[vA, vA] w fun e w' => e = .returned (.tuple #[.agg #[.int .i64 0, .bool false, .string ⟨#[51]⟩, .int .i64 0], .int .i64 0]) ∧ Below w.heap.size w w' := by
  have h := Add_d dA dA finA.may finA.may w h
  rw [aw6] at h
  exact h
theorem aMul (w : World) (h : Tab w) : Calls Tryz.prog 26 #[vA, vA] w fun e w' => e = .returned (.tuple #[.agg #[.int .i64 0, .bool false, .string ⟨#[50, 50, 53]⟩, .int .i64 (-2)], .int .i64 0]) ∧ Below w.heap.size w w' := by
  have h := Mul_d dA dA finA.may finA.may w h
  rw [aw7] at h
  exact h
theorem aScale (w : World) : Calls Tryz.prog 22 #[vA, .int .i64 3] w fun e w' => e = .returned (.tuple #[.agg #[.int .i64 0, .bool false, .string ⟨#[49, 53]⟩, .int .i64 2], .int .i64 0]) ∧ Below w.heap.size w w' :=
  Scale_in 0 false ⟨#[49, 53]⟩ (-1) 3 w finA.may (by decide) (by decide) (by decide)
theorem aCmp (w : World) : Calls Tryz.prog 18 #[vA, .agg #[.int .i64 0, .bool false, .string ⟨#[51]⟩, .int .i64 0]] w fun e w' => e = .returned (.tuple #[.int .i64 (-1), .int .i64 0]) ∧ Below w.heap.size w w' := by
  have h := Cmp_d dA dX w finA.may finX.may
  rw [aw9] at h
  exact h
theorem aNeg (w : World) : Calls Tryz.prog 20 #[vA] w fun e w' => e = .returned (.tuple #[.agg #[.int .i64 0, .bool true, .string ⟨#[49, 53]⟩, .int .i64 (-1)], .int .i64 0]) ∧ Below w.heap.size w w' :=
  Neg_yes 0 false ⟨#[49, 53]⟩ (-1) w finA.may (by decide)
theorem aMay (w : World) : Calls Tryz.prog 10 #[vA] w fun e w' => e = .returned (.bool true) ∧ Below w.heap.size w w' := dmay_yes 0 false ⟨#[49, 53]⟩ (-1) w finA.may
theorem aPlace (w : World) : Calls Tryz.prog 12 #[vA] w fun e w' => e = .returned (.int .i64 1) ∧ Below w.heap.size w w' := Place_yes 0 false ⟨#[49, 53]⟩ (-1) w finA.may

set_option maxRecDepth 100000 in
set_option maxHeartbeats 4000000 in
theorem dawake_any (w : World) (htab : Tab w) : Calls Tryz.prog 9 #[] w fun e w' => e = .returned (.bool true) ∧ Below w.heap.size w w' := by
  have HT := hide htab
  clear htab
  have HB0 : Hid (Below w.heap.size w w) := Below.refl _ _
  go_enter Tryz.func9, Tryz.ntmps9
  go_wp2_with fail
  refine (aPars1 _).mono ?_
  rintro e w1 ⟨rfl, hb⟩
  have HB1 := hide (HB0.out.trans (hb.mono HB0.out.size))
  clear hb  HB0 
  go_wp2_with fail
  refine (aPrint _ ((HT.out.below HB1.out).alloc _)).mono ?_
  rintro e w2 ⟨rfl, hb⟩
  have Bd2 := hide ((Blk.newAt w1 (w1.heap.size) (rfl) #[.int .i64 0, .bool false, .string ⟨#[49, 53]⟩, .int .i64 (-1)] 23).below hb (Blk.newAt w1 (w1.heap.size) (rfl) #[.int .i64 0, .bool false, .string ⟨#[49, 53]⟩, .int .i64 (-1)] 23).lt)
  have HB2 := hide ((HB1.out.alloc HB1.out.size _).trans (hb.mono (HB1.out.alloc HB1.out.size _).size))
  clear hb  HB1 
  have yd0 : w2.cell? ⟨w1.heap.size, 0, none⟩ = some (.int .i64 0) := Bd2.out.cell 0
  have yd1 : w2.cell? ⟨w1.heap.size, 1, none⟩ = some (.bool false) := Bd2.out.cell 1
  have yd2 : w2.cell? ⟨w1.heap.size, 2, none⟩ = some (.string ⟨#[49, 53]⟩) := Bd2.out.cell 2
  have yd3 : w2.cell? ⟨w1.heap.size, 3, none⟩ = some (.int .i64 (-1)) := Bd2.out.cell 3
  go_wp2_with fail
  refine (aPars3 _).mono ?_
  rintro e w3 ⟨rfl, hb⟩
  have Bd3 := hide (Bd2.out.below hb Bd2.out.lt)
  have HB3 := hide (HB2.out.trans (hb.mono HB2.out.size))
  clear hb Bd2 HB2 yd0 yd1 yd2 yd3
  have yd0 : w3.cell? ⟨w1.heap.size, 0, none⟩ = some (.int .i64 0) := Bd3.out.cell 0
  have yd1 : w3.cell? ⟨w1.heap.size, 1, none⟩ = some (.bool false) := Bd3.out.cell 1
  have yd2 : w3.cell? ⟨w1.heap.size, 2, none⟩ = some (.string ⟨#[49, 53]⟩) := Bd3.out.cell 2
  have yd3 : w3.cell? ⟨w1.heap.size, 3, none⟩ = some (.int .i64 (-1)) := Bd3.out.cell 3
  go_wp2_with fail
  refine (aPars4 _).mono ?_
  rintro e w4 ⟨rfl, hb⟩
  have Bd4 := hide ((Bd3.out.alloc (.cells #[.int .i64 0, .bool false, .string ⟨#[]⟩, .int .i64 0] 23)).below hb (Bd3.out.alloc (.cells #[.int .i64 0, .bool false, .string ⟨#[]⟩, .int .i64 0] 23)).lt)
  have Bu4 := hide ((Blk.newAt w3 (w3.heap.size) (rfl) #[.int .i64 0, .bool false, .string ⟨#[]⟩, .int .i64 0] 23).below hb (Blk.newAt w3 (w3.heap.size) (rfl) #[.int .i64 0, .bool false, .string ⟨#[]⟩, .int .i64 0] 23).lt)
  have HB4 := hide ((HB3.out.alloc HB3.out.size _).trans (hb.mono (HB3.out.alloc HB3.out.size _).size))
  clear hb Bd3 HB3 yd0 yd1 yd2 yd3
  have yd0 : w4.cell? ⟨w1.heap.size, 0, none⟩ = some (.int .i64 0) := Bd4.out.cell 0
  have yd1 : w4.cell? ⟨w1.heap.size, 1, none⟩ = some (.bool false) := Bd4.out.cell 1
  have yd2 : w4.cell? ⟨w1.heap.size, 2, none⟩ = some (.string ⟨#[49, 53]⟩) := Bd4.out.cell 2
  have yd3 : w4.cell? ⟨w1.heap.size, 3, none⟩ = some (.int .i64 (-1)) := Bd4.out.cell 3
  have yu0 : w4.cell? ⟨w3.heap.size, 0, none⟩ = some (.int .i64 0) := Bu4.out.cell 0
  have yu1 : w4.cell? ⟨w3.heap.size, 1, none⟩ = some (.bool false) := Bu4.out.cell 1
  have yu2 : w4.cell? ⟨w3.heap.size, 2, none⟩ = some (.string ⟨#[]⟩) := Bu4.out.cell 2
  have yu3 : w4.cell? ⟨w3.heap.size, 3, none⟩ = some (.int .i64 0) := Bu4.out.cell 3
  go_wp2_with fail
  refine (aPrint5 _).mono ?_
  rintro e w5 ⟨rfl, hb⟩
  have Bd5 := hide ((Bd4.out.alloc (.cells #[.int .i64 0, .bool false, .string ⟨#[]⟩, .int .i64 0] 23)).below hb (Bd4.out.alloc (.cells #[.int .i64 0, .bool false, .string ⟨#[]⟩, .int .i64 0] 23)).lt)
  have Bu5 := hide ((Bu4.out.alloc (.cells #[.int .i64 0, .bool false, .string ⟨#[]⟩, .int .i64 0] 23)).below hb (Bu4.out.alloc (.cells #[.int .i64 0, .bool false, .string ⟨#[]⟩, .int .i64 0] 23)).lt)
  have Bv5 := hide ((Blk.newAt w4 (w4.heap.size) (rfl) #[.int .i64 0, .bool false, .string ⟨#[]⟩, .int .i64 0] 23).below hb (Blk.newAt w4 (w4.heap.size) (rfl) #[.int .i64 0, .bool false, .string ⟨#[]⟩, .int .i64 0] 23).lt)
  have HB5 := hide ((HB4.out.alloc HB4.out.size _).trans (hb.mono (HB4.out.alloc HB4.out.size _).size))
  clear hb Bd4 Bu4 HB4 yd0 yd1 yd2 yd3 yu0 yu1 yu2 yu3
  have yd0 : w5.cell? ⟨w1.heap.size, 0, none⟩ = some (.int .i64 0) := Bd5.out.cell 0
  have yd1 : w5.cell? ⟨w1.heap.size, 1, none⟩ = some (.bool false) := Bd5.out.cell 1
  have yd2 : w5.cell? ⟨w1.heap.size, 2, none⟩ = some (.string ⟨#[49, 53]⟩) := Bd5.out.cell 2
  have yd3 : w5.cell? ⟨w1.heap.size, 3, none⟩ = some (.int .i64 (-1)) := Bd5.out.cell 3
  have yu0 : w5.cell? ⟨w3.heap.size, 0, none⟩ = some (.int .i64 0) := Bu5.out.cell 0
  have yu1 : w5.cell? ⟨w3.heap.size, 1, none⟩ = some (.bool false) := Bu5.out.cell 1
  have yu2 : w5.cell? ⟨w3.heap.size, 2, none⟩ = some (.string ⟨#[]⟩) := Bu5.out.cell 2
  have yu3 : w5.cell? ⟨w3.heap.size, 3, none⟩ = some (.int .i64 0) := Bu5.out.cell 3
  have yv0 : w5.cell? ⟨w4.heap.size, 0, none⟩ = some (.int .i64 0) := Bv5.out.cell 0
  have yv1 : w5.cell? ⟨w4.heap.size, 1, none⟩ = some (.bool false) := Bv5.out.cell 1
  have yv2 : w5.cell? ⟨w4.heap.size, 2, none⟩ = some (.string ⟨#[]⟩) := Bv5.out.cell 2
  have yv3 : w5.cell? ⟨w4.heap.size, 3, none⟩ = some (.int .i64 0) := Bv5.out.cell 3
  go_wp2_with fail
  refine (aAdd _ (HT.out.below HB5.out)).mono ?_
  rintro e w6 ⟨rfl, hb⟩
  have Bd6 := hide (Bd5.out.below hb Bd5.out.lt)
  have Bu6 := hide (Bu5.out.below hb Bu5.out.lt)
  have Bv6 := hide (Bv5.out.below hb Bv5.out.lt)
  have HB6 := hide (HB5.out.trans (hb.mono HB5.out.size))
  clear hb Bd5 Bu5 Bv5 HB5 yd0 yd1 yd2 yd3 yu0 yu1 yu2 yu3 yv0 yv1 yv2 yv3
  have yd0 : w6.cell? ⟨w1.heap.size, 0, none⟩ = some (.int .i64 0) := Bd6.out.cell 0
  have yd1 : w6.cell? ⟨w1.heap.size, 1, none⟩ = some (.bool false) := Bd6.out.cell 1
  have yd2 : w6.cell? ⟨w1.heap.size, 2, none⟩ = some (.string ⟨#[49, 53]⟩) := Bd6.out.cell 2
  have yd3 : w6.cell? ⟨w1.heap.size, 3, none⟩ = some (.int .i64 (-1)) := Bd6.out.cell 3
  have yu0 : w6.cell? ⟨w3.heap.size, 0, none⟩ = some (.int .i64 0) := Bu6.out.cell 0
  have yu1 : w6.cell? ⟨w3.heap.size, 1, none⟩ = some (.bool false) := Bu6.out.cell 1
  have yu2 : w6.cell? ⟨w3.heap.size, 2, none⟩ = some (.string ⟨#[]⟩) := Bu6.out.cell 2
  have yu3 : w6.cell? ⟨w3.heap.size, 3, none⟩ = some (.int .i64 0) := Bu6.out.cell 3
  have yv0 : w6.cell? ⟨w4.heap.size, 0, none⟩ = some (.int .i64 0) := Bv6.out.cell 0
  have yv1 : w6.cell? ⟨w4.heap.size, 1, none⟩ = some (.bool false) := Bv6.out.cell 1
  have yv2 : w6.cell? ⟨w4.heap.size, 2, none⟩ = some (.string ⟨#[]⟩) := Bv6.out.cell 2
  have yv3 : w6.cell? ⟨w4.heap.size, 3, none⟩ = some (.int .i64 0) := Bv6.out.cell 3
  have Bd7 := hide ((Bd6.out.alloc (.cells #[.int .i64 0, .bool false, .string ⟨#[51]⟩, .int .i64 0] 23)))
  have Bu7 := hide ((Bu6.out.alloc (.cells #[.int .i64 0, .bool false, .string ⟨#[51]⟩, .int .i64 0] 23)))
  have Bv7 := hide ((Bv6.out.alloc (.cells #[.int .i64 0, .bool false, .string ⟨#[51]⟩, .int .i64 0] 23)))
  have Bx7 := hide ((Blk.newAt w6 (w6.heap.size) (rfl) #[.int .i64 0, .bool false, .string ⟨#[51]⟩, .int .i64 0] 23))
  have HB7 : Hid (Below w.heap.size w (w6.alloc (.cells #[.int .i64 0, .bool false, .string ⟨#[51]⟩, .int .i64 0] 23))) := (HB6.out.alloc HB6.out.size _)
  clear Bd6 Bu6 Bv6 HB6 yd0 yd1 yd2 yd3 yu0 yu1 yu2 yu3 yv0 yv1 yv2 yv3
  have yd0 : (w6.alloc (.cells #[.int .i64 0, .bool false, .string ⟨#[51]⟩, .int .i64 0] 23)).cell? ⟨w1.heap.size, 0, none⟩ = some (.int .i64 0) := Bd7.out.cell 0
  have yd1 : (w6.alloc (.cells #[.int .i64 0, .bool false, .string ⟨#[51]⟩, .int .i64 0] 23)).cell? ⟨w1.heap.size, 1, none⟩ = some (.bool false) := Bd7.out.cell 1
  have yd2 : (w6.alloc (.cells #[.int .i64 0, .bool false, .string ⟨#[51]⟩, .int .i64 0] 23)).cell? ⟨w1.heap.size, 2, none⟩ = some (.string ⟨#[49, 53]⟩) := Bd7.out.cell 2
  have yd3 : (w6.alloc (.cells #[.int .i64 0, .bool false, .string ⟨#[51]⟩, .int .i64 0] 23)).cell? ⟨w1.heap.size, 3, none⟩ = some (.int .i64 (-1)) := Bd7.out.cell 3
  have yu0 : (w6.alloc (.cells #[.int .i64 0, .bool false, .string ⟨#[51]⟩, .int .i64 0] 23)).cell? ⟨w3.heap.size, 0, none⟩ = some (.int .i64 0) := Bu7.out.cell 0
  have yu1 : (w6.alloc (.cells #[.int .i64 0, .bool false, .string ⟨#[51]⟩, .int .i64 0] 23)).cell? ⟨w3.heap.size, 1, none⟩ = some (.bool false) := Bu7.out.cell 1
  have yu2 : (w6.alloc (.cells #[.int .i64 0, .bool false, .string ⟨#[51]⟩, .int .i64 0] 23)).cell? ⟨w3.heap.size, 2, none⟩ = some (.string ⟨#[]⟩) := Bu7.out.cell 2
  have yu3 : (w6.alloc (.cells #[.int .i64 0, .bool false, .string ⟨#[51]⟩, .int .i64 0] 23)).cell? ⟨w3.heap.size, 3, none⟩ = some (.int .i64 0) := Bu7.out.cell 3
  have yv0 : (w6.alloc (.cells #[.int .i64 0, .bool false, .string ⟨#[51]⟩, .int .i64 0] 23)).cell? ⟨w4.heap.size, 0, none⟩ = some (.int .i64 0) := Bv7.out.cell 0
  have yv1 : (w6.alloc (.cells #[.int .i64 0, .bool false, .string ⟨#[51]⟩, .int .i64 0] 23)).cell? ⟨w4.heap.size, 1, none⟩ = some (.bool false) := Bv7.out.cell 1
  have yv2 : (w6.alloc (.cells #[.int .i64 0, .bool false, .string ⟨#[51]⟩, .int .i64 0] 23)).cell? ⟨w4.heap.size, 2, none⟩ = some (.string ⟨#[]⟩) := Bv7.out.cell 2
  have yv3 : (w6.alloc (.cells #[.int .i64 0, .bool false, .string ⟨#[51]⟩, .int .i64 0] 23)).cell? ⟨w4.heap.size, 3, none⟩ = some (.int .i64 0) := Bv7.out.cell 3
  have yx0 : (w6.alloc (.cells #[.int .i64 0, .bool false, .string ⟨#[51]⟩, .int .i64 0] 23)).cell? ⟨w6.heap.size, 0, none⟩ = some (.int .i64 0) := Bx7.out.cell 0
  have yx1 : (w6.alloc (.cells #[.int .i64 0, .bool false, .string ⟨#[51]⟩, .int .i64 0] 23)).cell? ⟨w6.heap.size, 1, none⟩ = some (.bool false) := Bx7.out.cell 1
  have yx2 : (w6.alloc (.cells #[.int .i64 0, .bool false, .string ⟨#[51]⟩, .int .i64 0] 23)).cell? ⟨w6.heap.size, 2, none⟩ = some (.string ⟨#[51]⟩) := Bx7.out.cell 2
  have yx3 : (w6.alloc (.cells #[.int .i64 0, .bool false, .string ⟨#[51]⟩, .int .i64 0] 23)).cell? ⟨w6.heap.size, 3, none⟩ = some (.int .i64 0) := Bx7.out.cell 3
  go_wp2_with fail
  refine (aMul _ (HT.out.below HB7.out)).mono ?_
  rintro e w8 ⟨rfl, hb⟩
  have Bd8 := hide (Bd7.out.below hb Bd7.out.lt)
  have Bu8 := hide (Bu7.out.below hb Bu7.out.lt)
  have Bv8 := hide (Bv7.out.below hb Bv7.out.lt)
  have Bx8 := hide (Bx7.out.below hb Bx7.out.lt)
  have HB8 := hide (HB7.out.trans (hb.mono HB7.out.size))
  clear hb Bd7 Bu7 Bv7 Bx7 HB7 yd0 yd1 yd2 yd3 yu0 yu1 yu2 yu3 yv0 yv1 yv2 yv3 yx0 yx1 yx2 yx3
  have yd0 : w8.cell? ⟨w1.heap.size, 0, none⟩ = some (.int .i64 0) := Bd8.out.cell 0
  have yd1 : w8.cell? ⟨w1.heap.size, 1, none⟩ = some (.bool false) := Bd8.out.cell 1
  have yd2 : w8.cell? ⟨w1.heap.size, 2, none⟩ = some (.string ⟨#[49, 53]⟩) := Bd8.out.cell 2
  have yd3 : w8.cell? ⟨w1.heap.size, 3, none⟩ = some (.int .i64 (-1)) := Bd8.out.cell 3
  have yu0 : w8.cell? ⟨w3.heap.size, 0, none⟩ = some (.int .i64 0) := Bu8.out.cell 0
  have yu1 : w8.cell? ⟨w3.heap.size, 1, none⟩ = some (.bool false) := Bu8.out.cell 1
  have yu2 : w8.cell? ⟨w3.heap.size, 2, none⟩ = some (.string ⟨#[]⟩) := Bu8.out.cell 2
  have yu3 : w8.cell? ⟨w3.heap.size, 3, none⟩ = some (.int .i64 0) := Bu8.out.cell 3
  have yv0 : w8.cell? ⟨w4.heap.size, 0, none⟩ = some (.int .i64 0) := Bv8.out.cell 0
  have yv1 : w8.cell? ⟨w4.heap.size, 1, none⟩ = some (.bool false) := Bv8.out.cell 1
  have yv2 : w8.cell? ⟨w4.heap.size, 2, none⟩ = some (.string ⟨#[]⟩) := Bv8.out.cell 2
  have yv3 : w8.cell? ⟨w4.heap.size, 3, none⟩ = some (.int .i64 0) := Bv8.out.cell 3
  have yx0 : w8.cell? ⟨w6.heap.size, 0, none⟩ = some (.int .i64 0) := Bx8.out.cell 0
  have yx1 : w8.cell? ⟨w6.heap.size, 1, none⟩ = some (.bool false) := Bx8.out.cell 1
  have yx2 : w8.cell? ⟨w6.heap.size, 2, none⟩ = some (.string ⟨#[51]⟩) := Bx8.out.cell 2
  have yx3 : w8.cell? ⟨w6.heap.size, 3, none⟩ = some (.int .i64 0) := Bx8.out.cell 3
  have Bd9 := hide ((Bd8.out.alloc (.cells #[.int .i64 0, .bool false, .string ⟨#[50, 50, 53]⟩, .int .i64 (-2)] 23)))
  have Bu9 := hide ((Bu8.out.alloc (.cells #[.int .i64 0, .bool false, .string ⟨#[50, 50, 53]⟩, .int .i64 (-2)] 23)))
  have Bv9 := hide ((Bv8.out.alloc (.cells #[.int .i64 0, .bool false, .string ⟨#[50, 50, 53]⟩, .int .i64 (-2)] 23)))
  have Bx9 := hide ((Bx8.out.alloc (.cells #[.int .i64 0, .bool false, .string ⟨#[50, 50, 53]⟩, .int .i64 (-2)] 23)))
  have By9 := hide ((Blk.newAt w8 (w8.heap.size) (rfl) #[.int .i64 0, .bool false, .string ⟨#[50, 50, 53]⟩, .int .i64 (-2)] 23))
  have HB9 : Hid (Below w.heap.size w (w8.alloc (.cells #[.int .i64 0, .bool false, .string ⟨#[50, 50, 53]⟩, .int .i64 (-2)] 23))) := (HB8.out.alloc HB8.out.size _)
  clear Bd8 Bu8 Bv8 Bx8 HB8 yd0 yd1 yd2 yd3 yu0 yu1 yu2 yu3 yv0 yv1 yv2 yv3 yx0 yx1 yx2 yx3
  have yd0 : (w8.alloc (.cells #[.int .i64 0, .bool false, .string ⟨#[50, 50, 53]⟩, .int .i64 (-2)] 23)).cell? ⟨w1.heap.size, 0, none⟩ = some (.int .i64 0) := Bd9.out.cell 0
  have yd1 : (w8.alloc (.cells #[.int .i64 0, .bool false, .string ⟨#[50, 50, 53]⟩, .int .i64 (-2)] 23)).cell? ⟨w1.heap.size, 1, none⟩ = some (.bool false) := Bd9.out.cell 1
  have yd2 : (w8.alloc (.cells #[.int .i64 0, .bool false, .string ⟨#[50, 50, 53]⟩, .int .i64 (-2)] 23)).cell? ⟨w1.heap.size, 2, none⟩ = some (.string ⟨#[49, 53]⟩) := Bd9.out.cell 2
  have yd3 : (w8.alloc (.cells #[.int .i64 0, .bool false, .string ⟨#[50, 50, 53]⟩, .int .i64 (-2)] 23)).cell? ⟨w1.heap.size, 3, none⟩ = some (.int .i64 (-1)) := Bd9.out.cell 3
  have yu0 : (w8.alloc (.cells #[.int .i64 0, .bool false, .string ⟨#[50, 50, 53]⟩, .int .i64 (-2)] 23)).cell? ⟨w3.heap.size, 0, none⟩ = some (.int .i64 0) := Bu9.out.cell 0
  have yu1 : (w8.alloc (.cells #[.int .i64 0, .bool false, .string ⟨#[50, 50, 53]⟩, .int .i64 (-2)] 23)).cell? ⟨w3.heap.size, 1, none⟩ = some (.bool false) := Bu9.out.cell 1
  have yu2 : (w8.alloc (.cells #[.int .i64 0, .bool false, .string ⟨#[50, 50, 53]⟩, .int .i64 (-2)] 23)).cell? ⟨w3.heap.size, 2, none⟩ = some (.string ⟨#[]⟩) := Bu9.out.cell 2
  have yu3 : (w8.alloc (.cells #[.int .i64 0, .bool false, .string ⟨#[50, 50, 53]⟩, .int .i64 (-2)] 23)).cell? ⟨w3.heap.size, 3, none⟩ = some (.int .i64 0) := Bu9.out.cell 3
  have yv0 : (w8.alloc (.cells #[.int .i64 0, .bool false, .string ⟨#[50, 50, 53]⟩, .int .i64 (-2)] 23)).cell? ⟨w4.heap.size, 0, none⟩ = some (.int .i64 0) := Bv9.out.cell 0
  have yv1 : (w8.alloc (.cells #[.int .i64 0, .bool false, .string ⟨#[50, 50, 53]⟩, .int .i64 (-2)] 23)).cell? ⟨w4.heap.size, 1, none⟩ = some (.bool false) := Bv9.out.cell 1
  have yv2 : (w8.alloc (.cells #[.int .i64 0, .bool false, .string ⟨#[50, 50, 53]⟩, .int .i64 (-2)] 23)).cell? ⟨w4.heap.size, 2, none⟩ = some (.string ⟨#[]⟩) := Bv9.out.cell 2
  have yv3 : (w8.alloc (.cells #[.int .i64 0, .bool false, .string ⟨#[50, 50, 53]⟩, .int .i64 (-2)] 23)).cell? ⟨w4.heap.size, 3, none⟩ = some (.int .i64 0) := Bv9.out.cell 3
  have yx0 : (w8.alloc (.cells #[.int .i64 0, .bool false, .string ⟨#[50, 50, 53]⟩, .int .i64 (-2)] 23)).cell? ⟨w6.heap.size, 0, none⟩ = some (.int .i64 0) := Bx9.out.cell 0
  have yx1 : (w8.alloc (.cells #[.int .i64 0, .bool false, .string ⟨#[50, 50, 53]⟩, .int .i64 (-2)] 23)).cell? ⟨w6.heap.size, 1, none⟩ = some (.bool false) := Bx9.out.cell 1
  have yx2 : (w8.alloc (.cells #[.int .i64 0, .bool false, .string ⟨#[50, 50, 53]⟩, .int .i64 (-2)] 23)).cell? ⟨w6.heap.size, 2, none⟩ = some (.string ⟨#[51]⟩) := Bx9.out.cell 2
  have yx3 : (w8.alloc (.cells #[.int .i64 0, .bool false, .string ⟨#[50, 50, 53]⟩, .int .i64 (-2)] 23)).cell? ⟨w6.heap.size, 3, none⟩ = some (.int .i64 0) := Bx9.out.cell 3
  have yy0 : (w8.alloc (.cells #[.int .i64 0, .bool false, .string ⟨#[50, 50, 53]⟩, .int .i64 (-2)] 23)).cell? ⟨w8.heap.size, 0, none⟩ = some (.int .i64 0) := By9.out.cell 0
  have yy1 : (w8.alloc (.cells #[.int .i64 0, .bool false, .string ⟨#[50, 50, 53]⟩, .int .i64 (-2)] 23)).cell? ⟨w8.heap.size, 1, none⟩ = some (.bool false) := By9.out.cell 1
  have yy2 : (w8.alloc (.cells #[.int .i64 0, .bool false, .string ⟨#[50, 50, 53]⟩, .int .i64 (-2)] 23)).cell? ⟨w8.heap.size, 2, none⟩ = some (.string ⟨#[50, 50, 53]⟩) := By9.out.cell 2
  have yy3 : (w8.alloc (.cells #[.int .i64 0, .bool false, .string ⟨#[50, 50, 53]⟩, .int .i64 (-2)] 23)).cell? ⟨w8.heap.size, 3, none⟩ = some (.int .i64 (-2)) := By9.out.cell 3
  go_wp2_with fail
  refine (aScale _).mono ?_
  rintro e w10 ⟨rfl, hb⟩
  have Bd10 := hide (Bd9.out.below hb Bd9.out.lt)
  have Bu10 := hide (Bu9.out.below hb Bu9.out.lt)
  have Bv10 := hide (Bv9.out.below hb Bv9.out.lt)
  have Bx10 := hide (Bx9.out.below hb Bx9.out.lt)
  have By10 := hide (By9.out.below hb By9.out.lt)
  have HB10 := hide (HB9.out.trans (hb.mono HB9.out.size))
  clear hb Bd9 Bu9 Bv9 Bx9 By9 HB9 yd0 yd1 yd2 yd3 yu0 yu1 yu2 yu3 yv0 yv1 yv2 yv3 yx0 yx1 yx2 yx3 yy0 yy1 yy2 yy3
  have yd0 : w10.cell? ⟨w1.heap.size, 0, none⟩ = some (.int .i64 0) := Bd10.out.cell 0
  have yd1 : w10.cell? ⟨w1.heap.size, 1, none⟩ = some (.bool false) := Bd10.out.cell 1
  have yd2 : w10.cell? ⟨w1.heap.size, 2, none⟩ = some (.string ⟨#[49, 53]⟩) := Bd10.out.cell 2
  have yd3 : w10.cell? ⟨w1.heap.size, 3, none⟩ = some (.int .i64 (-1)) := Bd10.out.cell 3
  have yu0 : w10.cell? ⟨w3.heap.size, 0, none⟩ = some (.int .i64 0) := Bu10.out.cell 0
  have yu1 : w10.cell? ⟨w3.heap.size, 1, none⟩ = some (.bool false) := Bu10.out.cell 1
  have yu2 : w10.cell? ⟨w3.heap.size, 2, none⟩ = some (.string ⟨#[]⟩) := Bu10.out.cell 2
  have yu3 : w10.cell? ⟨w3.heap.size, 3, none⟩ = some (.int .i64 0) := Bu10.out.cell 3
  have yv0 : w10.cell? ⟨w4.heap.size, 0, none⟩ = some (.int .i64 0) := Bv10.out.cell 0
  have yv1 : w10.cell? ⟨w4.heap.size, 1, none⟩ = some (.bool false) := Bv10.out.cell 1
  have yv2 : w10.cell? ⟨w4.heap.size, 2, none⟩ = some (.string ⟨#[]⟩) := Bv10.out.cell 2
  have yv3 : w10.cell? ⟨w4.heap.size, 3, none⟩ = some (.int .i64 0) := Bv10.out.cell 3
  have yx0 : w10.cell? ⟨w6.heap.size, 0, none⟩ = some (.int .i64 0) := Bx10.out.cell 0
  have yx1 : w10.cell? ⟨w6.heap.size, 1, none⟩ = some (.bool false) := Bx10.out.cell 1
  have yx2 : w10.cell? ⟨w6.heap.size, 2, none⟩ = some (.string ⟨#[51]⟩) := Bx10.out.cell 2
  have yx3 : w10.cell? ⟨w6.heap.size, 3, none⟩ = some (.int .i64 0) := Bx10.out.cell 3
  have yy0 : w10.cell? ⟨w8.heap.size, 0, none⟩ = some (.int .i64 0) := By10.out.cell 0
  have yy1 : w10.cell? ⟨w8.heap.size, 1, none⟩ = some (.bool false) := By10.out.cell 1
  have yy2 : w10.cell? ⟨w8.heap.size, 2, none⟩ = some (.string ⟨#[50, 50, 53]⟩) := By10.out.cell 2
  have yy3 : w10.cell? ⟨w8.heap.size, 3, none⟩ = some (.int .i64 (-2)) := By10.out.cell 3
  have Bd11 := hide ((Bd10.out.alloc (.cells #[.int .i64 0, .bool false, .string ⟨#[49, 53]⟩, .int .i64 2] 23)))
  have Bu11 := hide ((Bu10.out.alloc (.cells #[.int .i64 0, .bool false, .string ⟨#[49, 53]⟩, .int .i64 2] 23)))
  have Bv11 := hide ((Bv10.out.alloc (.cells #[.int .i64 0, .bool false, .string ⟨#[49, 53]⟩, .int .i64 2] 23)))
  have Bx11 := hide ((Bx10.out.alloc (.cells #[.int .i64 0, .bool false, .string ⟨#[49, 53]⟩, .int .i64 2] 23)))
  have By11 := hide ((By10.out.alloc (.cells #[.int .i64 0, .bool false, .string ⟨#[49, 53]⟩, .int .i64 2] 23)))
  have Bz11 := hide ((Blk.newAt w10 (w10.heap.size) (rfl) #[.int .i64 0, .bool false, .string ⟨#[49, 53]⟩, .int .i64 2] 23))
  have HB11 : Hid (Below w.heap.size w (w10.alloc (.cells #[.int .i64 0, .bool false, .string ⟨#[49, 53]⟩, .int .i64 2] 23))) := (HB10.out.alloc HB10.out.size _)
  clear Bd10 Bu10 Bv10 Bx10 By10 HB10 yd0 yd1 yd2 yd3 yu0 yu1 yu2 yu3 yv0 yv1 yv2 yv3 yx0 yx1 yx2 yx3 yy0 yy1 yy2 yy3
  have yd0 : (w10.alloc (.cells #[.int .i64 0, .bool false, .string ⟨#[49, 53]⟩, .int .i64 2] 23)).cell? ⟨w1.heap.size, 0, none⟩ = some (.int .i64 0) := Bd11.out.cell 0
  have yd1 : (w10.alloc (.cells #[.int .i64 0, .bool false, .string ⟨#[49, 53]⟩, .int .i64 2] 23)).cell? ⟨w1.heap.size, 1, none⟩ = some (.bool false) := Bd11.out.cell 1
  have yd2 : (w10.alloc (.cells #[.int .i64 0, .bool false, .string ⟨#[49, 53]⟩, .int .i64 2] 23)).cell? ⟨w1.heap.size, 2, none⟩ = some (.string ⟨#[49, 53]⟩) := Bd11.out.cell 2
  have yd3 : (w10.alloc (.cells #[.int .i64 0, .bool false, .string ⟨#[49, 53]⟩, .int .i64 2] 23)).cell? ⟨w1.heap.size, 3, none⟩ = some (.int .i64 (-1)) := Bd11.out.cell 3
  have yu0 : (w10.alloc (.cells #[.int .i64 0, .bool false, .string ⟨#[49, 53]⟩, .int .i64 2] 23)).cell? ⟨w3.heap.size, 0, none⟩ = some (.int .i64 0) := Bu11.out.cell 0
  have yu1 : (w10.alloc (.cells #[.int .i64 0, .bool false, .string ⟨#[49, 53]⟩, .int .i64 2] 23)).cell? ⟨w3.heap.size, 1, none⟩ = some (.bool false) := Bu11.out.cell 1
  have yu2 : (w10.alloc (.cells #[.int .i64 0, .bool false, .string ⟨#[49, 53]⟩, .int .i64 2] 23)).cell? ⟨w3.heap.size, 2, none⟩ = some (.string ⟨#[]⟩) := Bu11.out.cell 2
  have yu3 : (w10.alloc (.cells #[.int .i64 0, .bool false, .string ⟨#[49, 53]⟩, .int .i64 2] 23)).cell? ⟨w3.heap.size, 3, none⟩ = some (.int .i64 0) := Bu11.out.cell 3
  have yv0 : (w10.alloc (.cells #[.int .i64 0, .bool false, .string ⟨#[49, 53]⟩, .int .i64 2] 23)).cell? ⟨w4.heap.size, 0, none⟩ = some (.int .i64 0) := Bv11.out.cell 0
  have yv1 : (w10.alloc (.cells #[.int .i64 0, .bool false, .string ⟨#[49, 53]⟩, .int .i64 2] 23)).cell? ⟨w4.heap.size, 1, none⟩ = some (.bool false) := Bv11.out.cell 1
  have yv2 : (w10.alloc (.cells #[.int .i64 0, .bool false, .string ⟨#[49, 53]⟩, .int .i64 2] 23)).cell? ⟨w4.heap.size, 2, none⟩ = some (.string ⟨#[]⟩) := Bv11.out.cell 2
  have yv3 : (w10.alloc (.cells #[.int .i64 0, .bool false, .string ⟨#[49, 53]⟩, .int .i64 2] 23)).cell? ⟨w4.heap.size, 3, none⟩ = some (.int .i64 0) := Bv11.out.cell 3
  have yx0 : (w10.alloc (.cells #[.int .i64 0, .bool false, .string ⟨#[49, 53]⟩, .int .i64 2] 23)).cell? ⟨w6.heap.size, 0, none⟩ = some (.int .i64 0) := Bx11.out.cell 0
  have yx1 : (w10.alloc (.cells #[.int .i64 0, .bool false, .string ⟨#[49, 53]⟩, .int .i64 2] 23)).cell? ⟨w6.heap.size, 1, none⟩ = some (.bool false) := Bx11.out.cell 1
  have yx2 : (w10.alloc (.cells #[.int .i64 0, .bool false, .string ⟨#[49, 53]⟩, .int .i64 2] 23)).cell? ⟨w6.heap.size, 2, none⟩ = some (.string ⟨#[51]⟩) := Bx11.out.cell 2
  have yx3 : (w10.alloc (.cells #[.int .i64 0, .bool false, .string ⟨#[49, 53]⟩, .int .i64 2] 23)).cell? ⟨w6.heap.size, 3, none⟩ = some (.int .i64 0) := Bx11.out.cell 3
  have yy0 : (w10.alloc (.cells #[.int .i64 0, .bool false, .string ⟨#[49, 53]⟩, .int .i64 2] 23)).cell? ⟨w8.heap.size, 0, none⟩ = some (.int .i64 0) := By11.out.cell 0
  have yy1 : (w10.alloc (.cells #[.int .i64 0, .bool false, .string ⟨#[49, 53]⟩, .int .i64 2] 23)).cell? ⟨w8.heap.size, 1, none⟩ = some (.bool false) := By11.out.cell 1
  have yy2 : (w10.alloc (.cells #[.int .i64 0, .bool false, .string ⟨#[49, 53]⟩, .int .i64 2] 23)).cell? ⟨w8.heap.size, 2, none⟩ = some (.string ⟨#[50, 50, 53]⟩) := By11.out.cell 2
  have yy3 : (w10.alloc (.cells #[.int .i64 0, .bool false, .string ⟨#[49, 53]⟩, .int .i64 2] 23)).cell? ⟨w8.heap.size, 3, none⟩ = some (.int .i64 (-2)) := By11.out.cell 3
  have yz0 : (w10.alloc (.cells #[.int .i64 0, .bool false, .string ⟨#[49, 53]⟩, .int .i64 2] 23)).cell? ⟨w10.heap.size, 0, none⟩ = some (.int .i64 0) := Bz11.out.cell 0
  have yz1 : (w10.alloc (.cells #[.int .i64 0, .bool false, .string ⟨#[49, 53]⟩, .int .i64 2] 23)).cell? ⟨w10.heap.size, 1, none⟩ = some (.bool false) := Bz11.out.cell 1
  have yz2 : (w10.alloc (.cells #[.int .i64 0, .bool false, .string ⟨#[49, 53]⟩, .int .i64 2] 23)).cell? ⟨w10.heap.size, 2, none⟩ = some (.string ⟨#[49, 53]⟩) := Bz11.out.cell 2
  have yz3 : (w10.alloc (.cells #[.int .i64 0, .bool false, .string ⟨#[49, 53]⟩, .int .i64 2] 23)).cell? ⟨w10.heap.size, 3, none⟩ = some (.int .i64 2) := Bz11.out.cell 3
  go_wp2_with fail
  refine (aCmp _).mono ?_
  rintro e w12 ⟨rfl, hb⟩
  have Bd12 := hide (Bd11.out.below hb Bd11.out.lt)
  have Bu12 := hide (Bu11.out.below hb Bu11.out.lt)
  have Bv12 := hide (Bv11.out.below hb Bv11.out.lt)
  have Bx12 := hide (Bx11.out.below hb Bx11.out.lt)
  have By12 := hide (By11.out.below hb By11.out.lt)
  have Bz12 := hide (Bz11.out.below hb Bz11.out.lt)
  have HB12 := hide (HB11.out.trans (hb.mono HB11.out.size))
  clear hb Bd11 Bu11 Bv11 Bx11 By11 Bz11 HB11 yd0 yd1 yd2 yd3 yu0 yu1 yu2 yu3 yv0 yv1 yv2 yv3 yx0 yx1 yx2 yx3 yy0 yy1 yy2 yy3 yz0 yz1 yz2 yz3
  have yd0 : w12.cell? ⟨w1.heap.size, 0, none⟩ = some (.int .i64 0) := Bd12.out.cell 0
  have yd1 : w12.cell? ⟨w1.heap.size, 1, none⟩ = some (.bool false) := Bd12.out.cell 1
  have yd2 : w12.cell? ⟨w1.heap.size, 2, none⟩ = some (.string ⟨#[49, 53]⟩) := Bd12.out.cell 2
  have yd3 : w12.cell? ⟨w1.heap.size, 3, none⟩ = some (.int .i64 (-1)) := Bd12.out.cell 3
  have yu0 : w12.cell? ⟨w3.heap.size, 0, none⟩ = some (.int .i64 0) := Bu12.out.cell 0
  have yu1 : w12.cell? ⟨w3.heap.size, 1, none⟩ = some (.bool false) := Bu12.out.cell 1
  have yu2 : w12.cell? ⟨w3.heap.size, 2, none⟩ = some (.string ⟨#[]⟩) := Bu12.out.cell 2
  have yu3 : w12.cell? ⟨w3.heap.size, 3, none⟩ = some (.int .i64 0) := Bu12.out.cell 3
  have yv0 : w12.cell? ⟨w4.heap.size, 0, none⟩ = some (.int .i64 0) := Bv12.out.cell 0
  have yv1 : w12.cell? ⟨w4.heap.size, 1, none⟩ = some (.bool false) := Bv12.out.cell 1
  have yv2 : w12.cell? ⟨w4.heap.size, 2, none⟩ = some (.string ⟨#[]⟩) := Bv12.out.cell 2
  have yv3 : w12.cell? ⟨w4.heap.size, 3, none⟩ = some (.int .i64 0) := Bv12.out.cell 3
  have yx0 : w12.cell? ⟨w6.heap.size, 0, none⟩ = some (.int .i64 0) := Bx12.out.cell 0
  have yx1 : w12.cell? ⟨w6.heap.size, 1, none⟩ = some (.bool false) := Bx12.out.cell 1
  have yx2 : w12.cell? ⟨w6.heap.size, 2, none⟩ = some (.string ⟨#[51]⟩) := Bx12.out.cell 2
  have yx3 : w12.cell? ⟨w6.heap.size, 3, none⟩ = some (.int .i64 0) := Bx12.out.cell 3
  have yy0 : w12.cell? ⟨w8.heap.size, 0, none⟩ = some (.int .i64 0) := By12.out.cell 0
  have yy1 : w12.cell? ⟨w8.heap.size, 1, none⟩ = some (.bool false) := By12.out.cell 1
  have yy2 : w12.cell? ⟨w8.heap.size, 2, none⟩ = some (.string ⟨#[50, 50, 53]⟩) := By12.out.cell 2
  have yy3 : w12.cell? ⟨w8.heap.size, 3, none⟩ = some (.int .i64 (-2)) := By12.out.cell 3
  have yz0 : w12.cell? ⟨w10.heap.size, 0, none⟩ = some (.int .i64 0) := Bz12.out.cell 0
  have yz1 : w12.cell? ⟨w10.heap.size, 1, none⟩ = some (.bool false) := Bz12.out.cell 1
  have yz2 : w12.cell? ⟨w10.heap.size, 2, none⟩ = some (.string ⟨#[49, 53]⟩) := Bz12.out.cell 2
  have yz3 : w12.cell? ⟨w10.heap.size, 3, none⟩ = some (.int .i64 2) := Bz12.out.cell 3
  go_wp2_with fail
  refine (aNeg _).mono ?_
  rintro e w13 ⟨rfl, hb⟩
  have Bd13 := hide (Bd12.out.below hb Bd12.out.lt)
  have Bu13 := hide (Bu12.out.below hb Bu12.out.lt)
  have Bv13 := hide (Bv12.out.below hb Bv12.out.lt)
  have Bx13 := hide (Bx12.out.below hb Bx12.out.lt)
  have By13 := hide (By12.out.below hb By12.out.lt)
  have Bz13 := hide (Bz12.out.below hb Bz12.out.lt)
  have HB13 := hide (HB12.out.trans (hb.mono HB12.out.size))
  clear hb Bd12 Bu12 Bv12 Bx12 By12 Bz12 HB12 yd0 yd1 yd2 yd3 yu0 yu1 yu2 yu3 yv0 yv1 yv2 yv3 yx0 yx1 yx2 yx3 yy0 yy1 yy2 yy3 yz0 yz1 yz2 yz3
  have yd0 : w13.cell? ⟨w1.heap.size, 0, none⟩ = some (.int .i64 0) := Bd13.out.cell 0
  have yd1 : w13.cell? ⟨w1.heap.size, 1, none⟩ = some (.bool false) := Bd13.out.cell 1
  have yd2 : w13.cell? ⟨w1.heap.size, 2, none⟩ = some (.string ⟨#[49, 53]⟩) := Bd13.out.cell 2
  have yd3 : w13.cell? ⟨w1.heap.size, 3, none⟩ = some (.int .i64 (-1)) := Bd13.out.cell 3
  have yu0 : w13.cell? ⟨w3.heap.size, 0, none⟩ = some (.int .i64 0) := Bu13.out.cell 0
  have yu1 : w13.cell? ⟨w3.heap.size, 1, none⟩ = some (.bool false) := Bu13.out.cell 1
  have yu2 : w13.cell? ⟨w3.heap.size, 2, none⟩ = some (.string ⟨#[]⟩) := Bu13.out.cell 2
  have yu3 : w13.cell? ⟨w3.heap.size, 3, none⟩ = some (.int .i64 0) := Bu13.out.cell 3
  have yv0 : w13.cell? ⟨w4.heap.size, 0, none⟩ = some (.int .i64 0) := Bv13.out.cell 0
  have yv1 : w13.cell? ⟨w4.heap.size, 1, none⟩ = some (.bool false) := Bv13.out.cell 1
  have yv2 : w13.cell? ⟨w4.heap.size, 2, none⟩ = some (.string ⟨#[]⟩) := Bv13.out.cell 2
  have yv3 : w13.cell? ⟨w4.heap.size, 3, none⟩ = some (.int .i64 0) := Bv13.out.cell 3
  have yx0 : w13.cell? ⟨w6.heap.size, 0, none⟩ = some (.int .i64 0) := Bx13.out.cell 0
  have yx1 : w13.cell? ⟨w6.heap.size, 1, none⟩ = some (.bool false) := Bx13.out.cell 1
  have yx2 : w13.cell? ⟨w6.heap.size, 2, none⟩ = some (.string ⟨#[51]⟩) := Bx13.out.cell 2
  have yx3 : w13.cell? ⟨w6.heap.size, 3, none⟩ = some (.int .i64 0) := Bx13.out.cell 3
  have yy0 : w13.cell? ⟨w8.heap.size, 0, none⟩ = some (.int .i64 0) := By13.out.cell 0
  have yy1 : w13.cell? ⟨w8.heap.size, 1, none⟩ = some (.bool false) := By13.out.cell 1
  have yy2 : w13.cell? ⟨w8.heap.size, 2, none⟩ = some (.string ⟨#[50, 50, 53]⟩) := By13.out.cell 2
  have yy3 : w13.cell? ⟨w8.heap.size, 3, none⟩ = some (.int .i64 (-2)) := By13.out.cell 3
  have yz0 : w13.cell? ⟨w10.heap.size, 0, none⟩ = some (.int .i64 0) := Bz13.out.cell 0
  have yz1 : w13.cell? ⟨w10.heap.size, 1, none⟩ = some (.bool false) := Bz13.out.cell 1
  have yz2 : w13.cell? ⟨w10.heap.size, 2, none⟩ = some (.string ⟨#[49, 53]⟩) := Bz13.out.cell 2
  have yz3 : w13.cell? ⟨w10.heap.size, 3, none⟩ = some (.int .i64 2) := Bz13.out.cell 3
  have Bd14 := hide ((Bd13.out.alloc (.cells #[.int .i64 0, .bool true, .string ⟨#[49, 53]⟩, .int .i64 (-1)] 23)))
  have Bu14 := hide ((Bu13.out.alloc (.cells #[.int .i64 0, .bool true, .string ⟨#[49, 53]⟩, .int .i64 (-1)] 23)))
  have Bv14 := hide ((Bv13.out.alloc (.cells #[.int .i64 0, .bool true, .string ⟨#[49, 53]⟩, .int .i64 (-1)] 23)))
  have Bx14 := hide ((Bx13.out.alloc (.cells #[.int .i64 0, .bool true, .string ⟨#[49, 53]⟩, .int .i64 (-1)] 23)))
  have By14 := hide ((By13.out.alloc (.cells #[.int .i64 0, .bool true, .string ⟨#[49, 53]⟩, .int .i64 (-1)] 23)))
  have Bz14 := hide ((Bz13.out.alloc (.cells #[.int .i64 0, .bool true, .string ⟨#[49, 53]⟩, .int .i64 (-1)] 23)))
  have Bn14 := hide ((Blk.newAt w13 (w13.heap.size) (rfl) #[.int .i64 0, .bool true, .string ⟨#[49, 53]⟩, .int .i64 (-1)] 23))
  have HB14 : Hid (Below w.heap.size w (w13.alloc (.cells #[.int .i64 0, .bool true, .string ⟨#[49, 53]⟩, .int .i64 (-1)] 23))) := (HB13.out.alloc HB13.out.size _)
  clear Bd13 Bu13 Bv13 Bx13 By13 Bz13 HB13 yd0 yd1 yd2 yd3 yu0 yu1 yu2 yu3 yv0 yv1 yv2 yv3 yx0 yx1 yx2 yx3 yy0 yy1 yy2 yy3 yz0 yz1 yz2 yz3
  have yd0 : (w13.alloc (.cells #[.int .i64 0, .bool true, .string ⟨#[49, 53]⟩, .int .i64 (-1)] 23)).cell? ⟨w1.heap.size, 0, none⟩ = some (.int .i64 0) := Bd14.out.cell 0
  have yd1 : (w13.alloc (.cells #[.int .i64 0, .bool true, .string ⟨#[49, 53]⟩, .int .i64 (-1)] 23)).cell? ⟨w1.heap.size, 1, none⟩ = some (.bool false) := Bd14.out.cell 1
  have yd2 : (w13.alloc (.cells #[.int .i64 0, .bool true, .string ⟨#[49, 53]⟩, .int .i64 (-1)] 23)).cell? ⟨w1.heap.size, 2, none⟩ = some (.string ⟨#[49, 53]⟩) := Bd14.out.cell 2
  have yd3 : (w13.alloc (.cells #[.int .i64 0, .bool true, .string ⟨#[49, 53]⟩, .int .i64 (-1)] 23)).cell? ⟨w1.heap.size, 3, none⟩ = some (.int .i64 (-1)) := Bd14.out.cell 3
  have yu0 : (w13.alloc (.cells #[.int .i64 0, .bool true, .string ⟨#[49, 53]⟩, .int .i64 (-1)] 23)).cell? ⟨w3.heap.size, 0, none⟩ = some (.int .i64 0) := Bu14.out.cell 0
  have yu1 : (w13.alloc (.cells #[.int .i64 0, .bool true, .string ⟨#[49, 53]⟩, .int .i64 (-1)] 23)).cell? ⟨w3.heap.size, 1, none⟩ = some (.bool false) := Bu14.out.cell 1
  have yu2 : (w13.alloc (.cells #[.int .i64 0, .bool true, .string ⟨#[49, 53]⟩, .int .i64 (-1)] 23)).cell? ⟨w3.heap.size, 2, none⟩ = some (.string ⟨#[]⟩) := Bu14.out.cell 2
  have yu3 : (w13.alloc (.cells #[.int .i64 0, .bool true, .string ⟨#[49, 53]⟩, .int .i64 (-1)] 23)).cell? ⟨w3.heap.size, 3, none⟩ = some (.int .i64 0) := Bu14.out.cell 3
  have yv0 : (w13.alloc (.cells #[.int .i64 0, .bool true, .string ⟨#[49, 53]⟩, .int .i64 (-1)] 23)).cell? ⟨w4.heap.size, 0, none⟩ = some (.int .i64 0) := Bv14.out.cell 0
  have yv1 : (w13.alloc (.cells #[.int .i64 0, .bool true, .string ⟨#[49, 53]⟩, .int .i64 (-1)] 23)).cell? ⟨w4.heap.size, 1, none⟩ = some (.bool false) := Bv14.out.cell 1
  have yv2 : (w13.alloc (.cells #[.int .i64 0, .bool true, .string ⟨#[49, 53]⟩, .int .i64 (-1)] 23)).cell? ⟨w4.heap.size, 2, none⟩ = some (.string ⟨#[]⟩) := Bv14.out.cell 2
  have yv3 : (w13.alloc (.cells #[.int .i64 0, .bool true, .string ⟨#[49, 53]⟩, .int .i64 (-1)] 23)).cell? ⟨w4.heap.size, 3, none⟩ = some (.int .i64 0) := Bv14.out.cell 3
  have yx0 : (w13.alloc (.cells #[.int .i64 0, .bool true, .string ⟨#[49, 53]⟩, .int .i64 (-1)] 23)).cell? ⟨w6.heap.size, 0, none⟩ = some (.int .i64 0) := Bx14.out.cell 0
  have yx1 : (w13.alloc (.cells #[.int .i64 0, .bool true, .string ⟨#[49, 53]⟩, .int .i64 (-1)] 23)).cell? ⟨w6.heap.size, 1, none⟩ = some (.bool false) := Bx14.out.cell 1
  have yx2 : (w13.alloc (.cells #[.int .i64 0, .bool true, .string ⟨#[49, 53]⟩, .int .i64 (-1)] 23)).cell? ⟨w6.heap.size, 2, none⟩ = some (.string ⟨#[51]⟩) := Bx14.out.cell 2
  have yx3 : (w13.alloc (.cells #[.int .i64 0, .bool true, .string ⟨#[49, 53]⟩, .int .i64 (-1)] 23)).cell? ⟨w6.heap.size, 3, none⟩ = some (.int .i64 0) := Bx14.out.cell 3
  have yy0 : (w13.alloc (.cells #[.int .i64 0, .bool true, .string ⟨#[49, 53]⟩, .int .i64 (-1)] 23)).cell? ⟨w8.heap.size, 0, none⟩ = some (.int .i64 0) := By14.out.cell 0
  have yy1 : (w13.alloc (.cells #[.int .i64 0, .bool true, .string ⟨#[49, 53]⟩, .int .i64 (-1)] 23)).cell? ⟨w8.heap.size, 1, none⟩ = some (.bool false) := By14.out.cell 1
  have yy2 : (w13.alloc (.cells #[.int .i64 0, .bool true, .string ⟨#[49, 53]⟩, .int .i64 (-1)] 23)).cell? ⟨w8.heap.size, 2, none⟩ = some (.string ⟨#[50, 50, 53]⟩) := By14.out.cell 2
  have yy3 : (w13.alloc (.cells #[.int .i64 0, .bool true, .string ⟨#[49, 53]⟩, .int .i64 (-1)] 23)).cell? ⟨w8.heap.size, 3, none⟩ = some (.int .i64 (-2)) := By14.out.cell 3
  have yz0 : (w13.alloc (.cells #[.int .i64 0, .bool true, .string ⟨#[49, 53]⟩, .int .i64 (-1)] 23)).cell? ⟨w10.heap.size, 0, none⟩ = some (.int .i64 0) := Bz14.out.cell 0
  have yz1 : (w13.alloc (.cells #[.int .i64 0, .bool true, .string ⟨#[49, 53]⟩, .int .i64 (-1)] 23)).cell? ⟨w10.heap.size, 1, none⟩ = some (.bool false) := Bz14.out.cell 1
  have yz2 : (w13.alloc (.cells #[.int .i64 0, .bool true, .string ⟨#[49, 53]⟩, .int .i64 (-1)] 23)).cell? ⟨w10.heap.size, 2, none⟩ = some (.string ⟨#[49, 53]⟩) := Bz14.out.cell 2
  have yz3 : (w13.alloc (.cells #[.int .i64 0, .bool true, .string ⟨#[49, 53]⟩, .int .i64 (-1)] 23)).cell? ⟨w10.heap.size, 3, none⟩ = some (.int .i64 2) := Bz14.out.cell 3
  have yn0 : (w13.alloc (.cells #[.int .i64 0, .bool true, .string ⟨#[49, 53]⟩, .int .i64 (-1)] 23)).cell? ⟨w13.heap.size, 0, none⟩ = some (.int .i64 0) := Bn14.out.cell 0
  have yn1 : (w13.alloc (.cells #[.int .i64 0, .bool true, .string ⟨#[49, 53]⟩, .int .i64 (-1)] 23)).cell? ⟨w13.heap.size, 1, none⟩ = some (.bool true) := Bn14.out.cell 1
  have yn2 : (w13.alloc (.cells #[.int .i64 0, .bool true, .string ⟨#[49, 53]⟩, .int .i64 (-1)] 23)).cell? ⟨w13.heap.size, 2, none⟩ = some (.string ⟨#[49, 53]⟩) := Bn14.out.cell 2
  have yn3 : (w13.alloc (.cells #[.int .i64 0, .bool true, .string ⟨#[49, 53]⟩, .int .i64 (-1)] 23)).cell? ⟨w13.heap.size, 3, none⟩ = some (.int .i64 (-1)) := Bn14.out.cell 3
  go_wp2_with fail
  refine (aMay _).mono ?_
  rintro e w15 ⟨rfl, hb⟩
  have Bd15 := hide (Bd14.out.below hb Bd14.out.lt)
  have Bu15 := hide (Bu14.out.below hb Bu14.out.lt)
  have Bv15 := hide (Bv14.out.below hb Bv14.out.lt)
  have Bx15 := hide (Bx14.out.below hb Bx14.out.lt)
  have By15 := hide (By14.out.below hb By14.out.lt)
  have Bz15 := hide (Bz14.out.below hb Bz14.out.lt)
  have Bn15 := hide (Bn14.out.below hb Bn14.out.lt)
  have HB15 := hide (HB14.out.trans (hb.mono HB14.out.size))
  clear hb Bd14 Bu14 Bv14 Bx14 By14 Bz14 Bn14 HB14 yd0 yd1 yd2 yd3 yu0 yu1 yu2 yu3 yv0 yv1 yv2 yv3 yx0 yx1 yx2 yx3 yy0 yy1 yy2 yy3 yz0 yz1 yz2 yz3 yn0 yn1 yn2 yn3
  have yd0 : w15.cell? ⟨w1.heap.size, 0, none⟩ = some (.int .i64 0) := Bd15.out.cell 0
  have yd1 : w15.cell? ⟨w1.heap.size, 1, none⟩ = some (.bool false) := Bd15.out.cell 1
  have yd2 : w15.cell? ⟨w1.heap.size, 2, none⟩ = some (.string ⟨#[49, 53]⟩) := Bd15.out.cell 2
  have yd3 : w15.cell? ⟨w1.heap.size, 3, none⟩ = some (.int .i64 (-1)) := Bd15.out.cell 3
  have yu0 : w15.cell? ⟨w3.heap.size, 0, none⟩ = some (.int .i64 0) := Bu15.out.cell 0
  have yu1 : w15.cell? ⟨w3.heap.size, 1, none⟩ = some (.bool false) := Bu15.out.cell 1
  have yu2 : w15.cell? ⟨w3.heap.size, 2, none⟩ = some (.string ⟨#[]⟩) := Bu15.out.cell 2
  have yu3 : w15.cell? ⟨w3.heap.size, 3, none⟩ = some (.int .i64 0) := Bu15.out.cell 3
  have yv0 : w15.cell? ⟨w4.heap.size, 0, none⟩ = some (.int .i64 0) := Bv15.out.cell 0
  have yv1 : w15.cell? ⟨w4.heap.size, 1, none⟩ = some (.bool false) := Bv15.out.cell 1
  have yv2 : w15.cell? ⟨w4.heap.size, 2, none⟩ = some (.string ⟨#[]⟩) := Bv15.out.cell 2
  have yv3 : w15.cell? ⟨w4.heap.size, 3, none⟩ = some (.int .i64 0) := Bv15.out.cell 3
  have yx0 : w15.cell? ⟨w6.heap.size, 0, none⟩ = some (.int .i64 0) := Bx15.out.cell 0
  have yx1 : w15.cell? ⟨w6.heap.size, 1, none⟩ = some (.bool false) := Bx15.out.cell 1
  have yx2 : w15.cell? ⟨w6.heap.size, 2, none⟩ = some (.string ⟨#[51]⟩) := Bx15.out.cell 2
  have yx3 : w15.cell? ⟨w6.heap.size, 3, none⟩ = some (.int .i64 0) := Bx15.out.cell 3
  have yy0 : w15.cell? ⟨w8.heap.size, 0, none⟩ = some (.int .i64 0) := By15.out.cell 0
  have yy1 : w15.cell? ⟨w8.heap.size, 1, none⟩ = some (.bool false) := By15.out.cell 1
  have yy2 : w15.cell? ⟨w8.heap.size, 2, none⟩ = some (.string ⟨#[50, 50, 53]⟩) := By15.out.cell 2
  have yy3 : w15.cell? ⟨w8.heap.size, 3, none⟩ = some (.int .i64 (-2)) := By15.out.cell 3
  have yz0 : w15.cell? ⟨w10.heap.size, 0, none⟩ = some (.int .i64 0) := Bz15.out.cell 0
  have yz1 : w15.cell? ⟨w10.heap.size, 1, none⟩ = some (.bool false) := Bz15.out.cell 1
  have yz2 : w15.cell? ⟨w10.heap.size, 2, none⟩ = some (.string ⟨#[49, 53]⟩) := Bz15.out.cell 2
  have yz3 : w15.cell? ⟨w10.heap.size, 3, none⟩ = some (.int .i64 2) := Bz15.out.cell 3
  have yn0 : w15.cell? ⟨w13.heap.size, 0, none⟩ = some (.int .i64 0) := Bn15.out.cell 0
  have yn1 : w15.cell? ⟨w13.heap.size, 1, none⟩ = some (.bool true) := Bn15.out.cell 1
  have yn2 : w15.cell? ⟨w13.heap.size, 2, none⟩ = some (.string ⟨#[49, 53]⟩) := Bn15.out.cell 2
  have yn3 : w15.cell? ⟨w13.heap.size, 3, none⟩ = some (.int .i64 (-1)) := Bn15.out.cell 3
  go_wp2_with fail
  refine (aPlace _).mono ?_
  rintro e w16 ⟨rfl, hb⟩
  have Bd16 := hide (Bd15.out.below hb Bd15.out.lt)
  have Bu16 := hide (Bu15.out.below hb Bu15.out.lt)
  have Bv16 := hide (Bv15.out.below hb Bv15.out.lt)
  have Bx16 := hide (Bx15.out.below hb Bx15.out.lt)
  have By16 := hide (By15.out.below hb By15.out.lt)
  have Bz16 := hide (Bz15.out.below hb Bz15.out.lt)
  have Bn16 := hide (Bn15.out.below hb Bn15.out.lt)
  have HB16 := hide (HB15.out.trans (hb.mono HB15.out.size))
  clear hb Bd15 Bu15 Bv15 Bx15 By15 Bz15 Bn15 HB15 yd0 yd1 yd2 yd3 yu0 yu1 yu2 yu3 yv0 yv1 yv2 yv3 yx0 yx1 yx2 yx3 yy0 yy1 yy2 yy3 yz0 yz1 yz2 yz3 yn0 yn1 yn2 yn3
  have yd0 : w16.cell? ⟨w1.heap.size, 0, none⟩ = some (.int .i64 0) := Bd16.out.cell 0
  have yd1 : w16.cell? ⟨w1.heap.size, 1, none⟩ = some (.bool false) := Bd16.out.cell 1
  have yd2 : w16.cell? ⟨w1.heap.size, 2, none⟩ = some (.string ⟨#[49, 53]⟩) := Bd16.out.cell 2
  have yd3 : w16.cell? ⟨w1.heap.size, 3, none⟩ = some (.int .i64 (-1)) := Bd16.out.cell 3
  have yu0 : w16.cell? ⟨w3.heap.size, 0, none⟩ = some (.int .i64 0) := Bu16.out.cell 0
  have yu1 : w16.cell? ⟨w3.heap.size, 1, none⟩ = some (.bool false) := Bu16.out.cell 1
  have yu2 : w16.cell? ⟨w3.heap.size, 2, none⟩ = some (.string ⟨#[]⟩) := Bu16.out.cell 2
  have yu3 : w16.cell? ⟨w3.heap.size, 3, none⟩ = some (.int .i64 0) := Bu16.out.cell 3
  have yv0 : w16.cell? ⟨w4.heap.size, 0, none⟩ = some (.int .i64 0) := Bv16.out.cell 0
  have yv1 : w16.cell? ⟨w4.heap.size, 1, none⟩ = some (.bool false) := Bv16.out.cell 1
  have yv2 : w16.cell? ⟨w4.heap.size, 2, none⟩ = some (.string ⟨#[]⟩) := Bv16.out.cell 2
  have yv3 : w16.cell? ⟨w4.heap.size, 3, none⟩ = some (.int .i64 0) := Bv16.out.cell 3
  have yx0 : w16.cell? ⟨w6.heap.size, 0, none⟩ = some (.int .i64 0) := Bx16.out.cell 0
  have yx1 : w16.cell? ⟨w6.heap.size, 1, none⟩ = some (.bool false) := Bx16.out.cell 1
  have yx2 : w16.cell? ⟨w6.heap.size, 2, none⟩ = some (.string ⟨#[51]⟩) := Bx16.out.cell 2
  have yx3 : w16.cell? ⟨w6.heap.size, 3, none⟩ = some (.int .i64 0) := Bx16.out.cell 3
  have yy0 : w16.cell? ⟨w8.heap.size, 0, none⟩ = some (.int .i64 0) := By16.out.cell 0
  have yy1 : w16.cell? ⟨w8.heap.size, 1, none⟩ = some (.bool false) := By16.out.cell 1
  have yy2 : w16.cell? ⟨w8.heap.size, 2, none⟩ = some (.string ⟨#[50, 50, 53]⟩) := By16.out.cell 2
  have yy3 : w16.cell? ⟨w8.heap.size, 3, none⟩ = some (.int .i64 (-2)) := By16.out.cell 3
  have yz0 : w16.cell? ⟨w10.heap.size, 0, none⟩ = some (.int .i64 0) := Bz16.out.cell 0
  have yz1 : w16.cell? ⟨w10.heap.size, 1, none⟩ = some (.bool false) := Bz16.out.cell 1
  have yz2 : w16.cell? ⟨w10.heap.size, 2, none⟩ = some (.string ⟨#[49, 53]⟩) := Bz16.out.cell 2
  have yz3 : w16.cell? ⟨w10.heap.size, 3, none⟩ = some (.int .i64 2) := Bz16.out.cell 3
  have yn0 : w16.cell? ⟨w13.heap.size, 0, none⟩ = some (.int .i64 0) := Bn16.out.cell 0
  have yn1 : w16.cell? ⟨w13.heap.size, 1, none⟩ = some (.bool true) := Bn16.out.cell 1
  have yn2 : w16.cell? ⟨w13.heap.size, 2, none⟩ = some (.string ⟨#[49, 53]⟩) := Bn16.out.cell 2
  have yn3 : w16.cell? ⟨w13.heap.size, 3, none⟩ = some (.int .i64 (-1)) := Bn16.out.cell 3
  go_wp2
  go_ret
  exact ⟨rfl, HB16.out⟩

end Go.Proofs.YtifpacgacbpalaaGreatDoor
