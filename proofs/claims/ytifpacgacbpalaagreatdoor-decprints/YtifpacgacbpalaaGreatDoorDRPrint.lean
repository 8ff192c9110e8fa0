/-
  What quipuref05's Number and Print do; the walk of DecPrints.
-/
import Derived.Test.YtifpacgacbpalaaGreatDoorDPrint
import Derived.Test.YtifpacgacbpalaaGreatDoorZRText
import Derived.Test.YtifpacgacbpalaaGreatDoorIn
import Derived.Test.YtifpacgacbpalaaGreatDoorNRMay
import Derived.Test.YtifpacgacbpalaaGreatDoorDTwo
namespace Go.Proofs.YtifpacgacbpalaaGreatDoor
open Go.RowKit

set_option maxRecDepth 100000 in
set_option maxHeartbeats 2000000 in
theorem number_neg (n : Nat) (w : World) (h : n ≤ 10000) (h0 : -(n : Int) < 0) : Calls Tryz.prog 35 #[.int .i64 (-(n : Int))] w fun e w' => e = .returned (.string ⟨(Lib.itoa (-(n : Int))).toArray⟩) ∧ Below w.heap.size w w' := by
  have hst : At .u64 (w.alloc (.cells #[.int .u64 (n : Int)] 76)) (some ⟨w.heap.size, 0, none⟩) [n] := Row.at (k := .u64) (e := 76) (heap_alloc_new w _)
  have IN := hide (in_any (some ⟨w.heap.size, 0, none⟩) 1 1 [n] (w.alloc (.cells #[.int .u64 (n : Int)] 76)) (by omega) rfl hst (fun i => by
    rcases i with _ | i
    · show n < B64; exact Nat.lt_of_le_of_lt h (by decide)
    · show (0 : Nat) < B64; decide))
  rw [show num B64 [n] = n by simp [num, V, dg]] at IN
  have HB0 : Hid (Below w.heap.size w (w.alloc (.cells #[.int .u64 (n : Int)] 76))) := (Below.refl _ _).alloc (Nat.le_refl _) _
  have s1 : (Lib.decDigits n).length ≤ 5 := sizeN_le (Nat.lt_of_le_of_lt h (by decide)) (by omega)
  have RT := hide (fun (ao : Option Addr) (cap : Nat) (ys : List Nat) (W : World) (h1 : ys.length ≤ 4) (h2 : At .u32 W ao ys) (h3 : Is 65536 ys n) => rtext_any ao ys.length cap n ys W (by omega) rfl h2 h3)
  obtain ⟨D, hD⟩ : ∃ D : ByteArray, D = ⟨(Lib.decDigits n).toArray⟩ := ⟨_, rfl⟩
  have hDs : D.size = (Lib.decDigits n).length := by rw [hD, size_mk0]
  have s2 : ¬ 9223372036854775807 < 1 + D.size := by omega
  rw [← hD] at RT
  have EQ : Hid ((⟨(Lib.itoa (-(n : Int))).toArray⟩ : ByteArray) = ⟨#[45]⟩ ++ D) := by
    have e : Lib.itoa (-(n : Int)) = 45 :: Lib.decDigits n := by
      unfold Lib.itoa
      rw [if_pos h0, show (-(n : Int)).natAbs = n by omega]
    show _ = _
    rw [e, ← mk_bys (⟨#[45]⟩ ++ D), bys_append, hD, bys_mk (Lib.decDigits n)]; rfl
  clear hst hD s1 hDs
  go_enter Tryz.func35, Tryz.ntmps35
  go_wp2_with fail
  refine IN.out.mono ?_
  rintro e w1 ⟨ao, cap, ys, rfl, hle, hat, his, hlen, hb⟩
  have HB1 := hide (HB0.out.trans (hb.mono HB0.out.size))
  have TX := hide (RT.out ao cap ys w1 (by omega) hat his)
  clear hb HB0 IN RT hat his
  go_wp2_with fail
  refine TX.out.mono ?_
  rintro e w2 ⟨rfl, hb⟩
  have HB2 := hide (HB1.out.trans (hb.mono HB1.out.size))
  clear hb HB1 TX
  go_wp2
  go_ret
  exact ⟨by rw [EQ.out]; rfl, HB2.out⟩

set_option maxRecDepth 100000 in
set_option maxHeartbeats 2000000 in
theorem number_pos (n : Nat) (w : World) (h : n ≤ 10000) : Calls Tryz.prog 35 #[.int .i64 ((n : Int))] w fun e w' => e = .returned (.string ⟨(Lib.itoa ((n : Int))).toArray⟩) ∧ Below w.heap.size w w' := by
  have hst : At .u64 (w.alloc (.cells #[.int .u64 (n : Int)] 76)) (some ⟨w.heap.size, 0, none⟩) [n] := Row.at (k := .u64) (e := 76) (heap_alloc_new w _)
  have IN := hide (in_any (some ⟨w.heap.size, 0, none⟩) 1 1 [n] (w.alloc (.cells #[.int .u64 (n : Int)] 76)) (by omega) rfl hst (fun i => by
    rcases i with _ | i
    · show n < B64; exact Nat.lt_of_le_of_lt h (by decide)
    · show (0 : Nat) < B64; decide))
  rw [show num B64 [n] = n by simp [num, V, dg]] at IN
  have HB0 : Hid (Below w.heap.size w (w.alloc (.cells #[.int .u64 (n : Int)] 76))) := (Below.refl _ _).alloc (Nat.le_refl _) _
  have s1 : (Lib.decDigits n).length ≤ 5 := sizeN_le (Nat.lt_of_le_of_lt h (by decide)) (by omega)
  have RT := hide (fun (ao : Option Addr) (cap : Nat) (ys : List Nat) (W : World) (h1 : ys.length ≤ 4) (h2 : At .u32 W ao ys) (h3 : Is 65536 ys n) => rtext_any ao ys.length cap n ys W (by omega) rfl h2 h3)
  obtain ⟨D, hD⟩ : ∃ D : ByteArray, D = ⟨(Lib.decDigits n).toArray⟩ := ⟨_, rfl⟩
  have hDs : D.size = (Lib.decDigits n).length := by rw [hD, size_mk0]
  have s2 : ¬ 9223372036854775807 < 1 + D.size := by omega
  rw [← hD] at RT
  have EQ : Hid ((⟨(Lib.itoa ((n : Int))).toArray⟩ : ByteArray) = D) := by
    have e : Lib.itoa ((n : Int)) = Lib.decDigits n := by
      unfold Lib.itoa
      rw [if_neg (by omega), show ((n : Int)).toNat = n by omega]
    show _ = _
    rw [e, hD]
  clear hst hD s1 hDs
  go_enter Tryz.func35, Tryz.ntmps35
  go_wp2_with fail
  refine IN.out.mono ?_
  rintro e w1 ⟨ao, cap, ys, rfl, hle, hat, his, hlen, hb⟩
  have HB1 := hide (HB0.out.trans (hb.mono HB0.out.size))
  have TX := hide (RT.out ao cap ys w1 (by omega) hat his)
  clear hb HB0 IN RT hat his
  go_wp2_with fail
  refine TX.out.mono ?_
  rintro e w2 ⟨rfl, hb⟩
  have HB2 := hide (HB1.out.trans (hb.mono HB1.out.size))
  clear hb HB1 TX
  go_wp2
  go_ret
  exact ⟨by rw [EQ.out]; rfl, HB2.out⟩

theorem number_any (e : Int) (w : World) (h1 : -10000 ≤ e) (h2 : e ≤ 10000) : Calls Tryz.prog 35 #[.int .i64 e] w fun e' w' => e' = .returned (.string ⟨(Lib.itoa e).toArray⟩) ∧ Below w.heap.size w w' := by
  by_cases h : e < 0
  · obtain ⟨n, rfl⟩ : ∃ n : Nat, e = -(n : Int) := ⟨(-e).toNat, by omega⟩
    exact number_neg n w (by omega) h
  · obtain ⟨n, rfl⟩ : ∃ n : Nat, e = (n : Int) := ⟨e.toNat, by omega⟩
    exact number_pos n w (by omega)

set_option maxHeartbeats 1000000 in
theorem rPrint_no (ca : Int) (na : Bool) (ta : ByteArray) (ea : Int) (w : World) (h : ¬ MayD ca na (bys ta) ea) : Calls Tryz.prog 17 #[dcV ca na ta ea] w fun e w' => e = .returned (.tuple #[.string ⟨#[]⟩, .int .i64 52]) ∧ Below w.heap.size w w' := by
  have MY := hide (fun W => rmay_no ca na ta ea W h)
  clear h
  have Ba0 := hide (Blk.newAt w (w.heap.size) (rfl) #[.int .i64 ca, .bool na, .string ta, .int .i64 ea] 23)
  have HB0 : Hid (Below w.heap.size w (w.alloc (.cells #[.int .i64 ca, .bool na, .string ta, .int .i64 ea] 23))) := ((Below.refl _ _).alloc (Nat.le_refl _) _)
  go_enter Tryz.func17, Tryz.ntmps17
  go_wp2_with fail
  refine (MY.out _).mono ?_
  rintro e w1 ⟨rfl, hb⟩
  have Ba1 := hide (Ba0.out.below hb Ba0.out.lt)
  have HB1 := hide (HB0.out.trans (hb.mono HB0.out.size))
  clear hb Ba0 HB0 
  have ya0 : w1.cell? ⟨w.heap.size, 0, none⟩ = some (.int .i64 ca) := Ba1.out.cell 0
  have ya1 : w1.cell? ⟨w.heap.size, 1, none⟩ = some (.bool na) := Ba1.out.cell 1
  have ya2 : w1.cell? ⟨w.heap.size, 2, none⟩ = some (.string ta) := Ba1.out.cell 2
  have ya3 : w1.cell? ⟨w.heap.size, 3, none⟩ = some (.int .i64 ea) := Ba1.out.cell 3
  go_wp2
  go_ret2
  exact ⟨rfl, HB1.out⟩

set_option maxRecDepth 100000 in
set_option maxHeartbeats 1000000 in
theorem rPrint_nan (w : World) (h : MayD  2 false (bys ⟨#[]⟩) 0) : Calls Tryz.prog 17 #[.agg #[.int .i64 2, .bool false, .string ⟨#[]⟩, .int .i64 0]] w fun e w' => e = .returned (.tuple #[.string ⟨#[110, 97, 110]⟩, .int .i64 0]) ∧ Below w.heap.size w w' := by
  have MY := hide (fun W => rmay_yes  2 false ⟨#[]⟩ 0 W h)
  clear h
  have Ba0 := hide (Blk.newAt w (w.heap.size) (rfl) #[.int .i64 2, .bool false, .string ⟨#[]⟩, .int .i64 0] 23)
  have HB0 : Hid (Below w.heap.size w (w.alloc (.cells #[.int .i64 2, .bool false, .string ⟨#[]⟩, .int .i64 0] 23))) := ((Below.refl _ _).alloc (Nat.le_refl _) _)
  go_enter Tryz.func17, Tryz.ntmps17
  go_wp2_with fail
  refine (MY.out _).mono ?_
  rintro e w1 ⟨rfl, hb⟩
  have Ba1 := hide (Ba0.out.below hb Ba0.out.lt)
  have HB1 := hide (HB0.out.trans (hb.mono HB0.out.size))
  clear hb Ba0 HB0 
  have ya0 : w1.cell? ⟨w.heap.size, 0, none⟩ = some (.int .i64 2) := Ba1.out.cell 0
  have ya1 : w1.cell? ⟨w.heap.size, 1, none⟩ = some (.bool false) := Ba1.out.cell 1
  have ya2 : w1.cell? ⟨w.heap.size, 2, none⟩ = some (.string ⟨#[]⟩) := Ba1.out.cell 2
  have ya3 : w1.cell? ⟨w.heap.size, 3, none⟩ = some (.int .i64 0) := Ba1.out.cell 3
  go_wp2
  go_ret2
  exact ⟨rfl, HB1.out⟩

set_option maxRecDepth 100000 in
set_option maxHeartbeats 1000000 in
theorem rPrint_inf_true (w : World) (h : MayD  1 true (bys ⟨#[]⟩) 0) : Calls Tryz.prog 17 #[.agg #[.int .i64 1, .bool true, .string ⟨#[]⟩, .int .i64 0]] w fun e w' => e = .returned (.tuple #[.string ⟨#[45, 105, 110, 102]⟩, .int .i64 0]) ∧ Below w.heap.size w w' := by
  have MY := hide (fun W => rmay_yes  1 true ⟨#[]⟩ 0 W h)
  clear h
  have Ba0 := hide (Blk.newAt w (w.heap.size) (rfl) #[.int .i64 1, .bool true, .string ⟨#[]⟩, .int .i64 0] 23)
  have HB0 : Hid (Below w.heap.size w (w.alloc (.cells #[.int .i64 1, .bool true, .string ⟨#[]⟩, .int .i64 0] 23))) := ((Below.refl _ _).alloc (Nat.le_refl _) _)
  go_enter Tryz.func17, Tryz.ntmps17
  go_wp2_with fail
  refine (MY.out _).mono ?_
  rintro e w1 ⟨rfl, hb⟩
  have Ba1 := hide (Ba0.out.below hb Ba0.out.lt)
  have HB1 := hide (HB0.out.trans (hb.mono HB0.out.size))
  clear hb Ba0 HB0 
  have ya0 : w1.cell? ⟨w.heap.size, 0, none⟩ = some (.int .i64 1) := Ba1.out.cell 0
  have ya1 : w1.cell? ⟨w.heap.size, 1, none⟩ = some (.bool true) := Ba1.out.cell 1
  have ya2 : w1.cell? ⟨w.heap.size, 2, none⟩ = some (.string ⟨#[]⟩) := Ba1.out.cell 2
  have ya3 : w1.cell? ⟨w.heap.size, 3, none⟩ = some (.int .i64 0) := Ba1.out.cell 3
  go_wp2
  go_ret2
  exact ⟨rfl, HB1.out⟩

set_option maxRecDepth 100000 in
set_option maxHeartbeats 1000000 in
theorem rPrint_inf_false (w : World) (h : MayD  1 false (bys ⟨#[]⟩) 0) : Calls Tryz.prog 17 #[.agg #[.int .i64 1, .bool false, .string ⟨#[]⟩, .int .i64 0]] w fun e w' => e = .returned (.tuple #[.string ⟨#[105, 110, 102]⟩, .int .i64 0]) ∧ Below w.heap.size w w' := by
  have MY := hide (fun W => rmay_yes  1 false ⟨#[]⟩ 0 W h)
  clear h
  have Ba0 := hide (Blk.newAt w (w.heap.size) (rfl) #[.int .i64 1, .bool false, .string ⟨#[]⟩, .int .i64 0] 23)
  have HB0 : Hid (Below w.heap.size w (w.alloc (.cells #[.int .i64 1, .bool false, .string ⟨#[]⟩, .int .i64 0] 23))) := ((Below.refl _ _).alloc (Nat.le_refl _) _)
  go_enter Tryz.func17, Tryz.ntmps17
  go_wp2_with fail
  refine (MY.out _).mono ?_
  rintro e w1 ⟨rfl, hb⟩
  have Ba1 := hide (Ba0.out.below hb Ba0.out.lt)
  have HB1 := hide (HB0.out.trans (hb.mono HB0.out.size))
  clear hb Ba0 HB0 
  have ya0 : w1.cell? ⟨w.heap.size, 0, none⟩ = some (.int .i64 1) := Ba1.out.cell 0
  have ya1 : w1.cell? ⟨w.heap.size, 1, none⟩ = some (.bool false) := Ba1.out.cell 1
  have ya2 : w1.cell? ⟨w.heap.size, 2, none⟩ = some (.string ⟨#[]⟩) := Ba1.out.cell 2
  have ya3 : w1.cell? ⟨w.heap.size, 3, none⟩ = some (.int .i64 0) := Ba1.out.cell 3
  go_wp2
  go_ret2
  exact ⟨rfl, HB1.out⟩

set_option maxRecDepth 100000 in
set_option maxHeartbeats 1000000 in
theorem rPrint_zero_true (w : World) (h : MayD  0 true (bys ⟨#[]⟩) 0) : Calls Tryz.prog 17 #[.agg #[.int .i64 0, .bool true, .string ⟨#[]⟩, .int .i64 0]] w fun e w' => e = .returned (.tuple #[.string ⟨#[45, 48]⟩, .int .i64 0]) ∧ Below w.heap.size w w' := by
  have MY := hide (fun W => rmay_yes  0 true ⟨#[]⟩ 0 W h)
  clear h
  have Ba0 := hide (Blk.newAt w (w.heap.size) (rfl) #[.int .i64 0, .bool true, .string ⟨#[]⟩, .int .i64 0] 23)
  have HB0 : Hid (Below w.heap.size w (w.alloc (.cells #[.int .i64 0, .bool true, .string ⟨#[]⟩, .int .i64 0] 23))) := ((Below.refl _ _).alloc (Nat.le_refl _) _)
  go_enter Tryz.func17, Tryz.ntmps17
  go_wp2_with fail
  refine (MY.out _).mono ?_
  rintro e w1 ⟨rfl, hb⟩
  have Ba1 := hide (Ba0.out.below hb Ba0.out.lt)
  have HB1 := hide (HB0.out.trans (hb.mono HB0.out.size))
  clear hb Ba0 HB0 
  have ya0 : w1.cell? ⟨w.heap.size, 0, none⟩ = some (.int .i64 0) := Ba1.out.cell 0
  have ya1 : w1.cell? ⟨w.heap.size, 1, none⟩ = some (.bool true) := Ba1.out.cell 1
  have ya2 : w1.cell? ⟨w.heap.size, 2, none⟩ = some (.string ⟨#[]⟩) := Ba1.out.cell 2
  have ya3 : w1.cell? ⟨w.heap.size, 3, none⟩ = some (.int .i64 0) := Ba1.out.cell 3
  go_wp2
  go_ret2
  exact ⟨rfl, HB1.out⟩

set_option maxRecDepth 100000 in
set_option maxHeartbeats 1000000 in
theorem rPrint_zero_false (w : World) (h : MayD  0 false (bys ⟨#[]⟩) 0) : Calls Tryz.prog 17 #[.agg #[.int .i64 0, .bool false, .string ⟨#[]⟩, .int .i64 0]] w fun e w' => e = .returned (.tuple #[.string ⟨#[48]⟩, .int .i64 0]) ∧ Below w.heap.size w w' := by
  have MY := hide (fun W => rmay_yes  0 false ⟨#[]⟩ 0 W h)
  clear h
  have Ba0 := hide (Blk.newAt w (w.heap.size) (rfl) #[.int .i64 0, .bool false, .string ⟨#[]⟩, .int .i64 0] 23)
  have HB0 : Hid (Below w.heap.size w (w.alloc (.cells #[.int .i64 0, .bool false, .string ⟨#[]⟩, .int .i64 0] 23))) := ((Below.refl _ _).alloc (Nat.le_refl _) _)
  go_enter Tryz.func17, Tryz.ntmps17
  go_wp2_with fail
  refine (MY.out _).mono ?_
  rintro e w1 ⟨rfl, hb⟩
  have Ba1 := hide (Ba0.out.below hb Ba0.out.lt)
  have HB1 := hide (HB0.out.trans (hb.mono HB0.out.size))
  clear hb Ba0 HB0 
  have ya0 : w1.cell? ⟨w.heap.size, 0, none⟩ = some (.int .i64 0) := Ba1.out.cell 0
  have ya1 : w1.cell? ⟨w.heap.size, 1, none⟩ = some (.bool false) := Ba1.out.cell 1
  have ya2 : w1.cell? ⟨w.heap.size, 2, none⟩ = some (.string ⟨#[]⟩) := Ba1.out.cell 2
  have ya3 : w1.cell? ⟨w.heap.size, 3, none⟩ = some (.int .i64 0) := Ba1.out.cell 3
  go_wp2
  go_ret2
  exact ⟨rfl, HB1.out⟩

set_option maxRecDepth 100000 in
set_option maxHeartbeats 2000000 in
theorem rPrint_fin_true (ta : ByteArray) (ea : Int) (w : World) (h : MayD 0 true (bys ta) ea) (h0 : ta.size ≠ 0) : Calls Tryz.prog 17 #[dcV 0 true ta ea] w fun e w' => e = .returned (.tuple #[.string (⟨#[45]⟩ ++ ta ++ ⟨#[101]⟩ ++ ⟨(Lib.itoa ea).toArray⟩), .int .i64 0]) ∧ Below w.heap.size w w' := by
  have MY := hide (fun W => rmay_yes 0 true ta ea W h)
  have h2 := toList_ne h0
  obtain ⟨b1, b2, b3⟩ := may_bounds h
  have NB := hide (fun W => number_any ea W b2 b3)
  have hil := itoa_len b2 b3
  obtain ⟨I, hI⟩ : ∃ I : ByteArray, I = ⟨(Lib.itoa ea).toArray⟩ := ⟨_, rfl⟩
  have hIs : I.size ≤ 6 := by rw [hI, size_mk0]; exact hil
  rw [← hI] at NB ⊢
  have s0 : ¬ 9223372036854775807 < 1 + ta.size := by omega
  have s1 : ¬ 9223372036854775807 < ta.size + 1 := by omega
  have s2 : ¬ 9223372036854775807 < ta.size + 1 + I.size := by omega
  have s3 : (ta ++ ⟨#[101]⟩ : ByteArray).size = ta.size + 1 := by rw [ByteArray.size_append]; rfl
  have s4 : (⟨#[45]⟩ ++ ta : ByteArray).size = 1 + ta.size := by rw [ByteArray.size_append]; rfl
  have s5 : ¬ 9223372036854775807 < 1 + ta.size + 1 := by omega
  have s6 : (⟨#[45]⟩ ++ ta ++ ⟨#[101]⟩ : ByteArray).size = 1 + ta.size + 1 := by rw [ByteArray.size_append, ByteArray.size_append]; rfl
  have s7 : ¬ 9223372036854775807 < 1 + ta.size + 1 + I.size := by omega
  have s8 : Hid ((⟨#[]⟩ ++ ta : ByteArray) = ta) := by rw [← mk_bys (⟨#[]⟩ ++ ta), bys_append]; exact mk_bys ta
  have s9 : (⟨#[]⟩ ++ ta : ByteArray).size = ta.size := by rw [s8.out]
  have s10 : (⟨#[]⟩ ++ ta ++ ⟨#[101]⟩ : ByteArray).size = ta.size + 1 := by rw [s8.out]; exact s3
  have s11 : ¬ 9223372036854775807 < ta.size := by omega
  clear h h0 hil hI b1 b2 b3
  clear s8 s3 s1 s2 s9 s10 s11
  have Ba0 := hide (Blk.newAt w (w.heap.size) (rfl) #[.int .i64 0, .bool true, .string ta, .int .i64 ea] 23)
  have HB0 : Hid (Below w.heap.size w (w.alloc (.cells #[.int .i64 0, .bool true, .string ta, .int .i64 ea] 23))) := ((Below.refl _ _).alloc (Nat.le_refl _) _)
  go_enter Tryz.func17, Tryz.ntmps17
  go_wp2_with fail
  refine (MY.out _).mono ?_
  rintro e w1 ⟨rfl, hb⟩
  have Ba1 := hide (Ba0.out.below hb Ba0.out.lt)
  have HB1 := hide (HB0.out.trans (hb.mono HB0.out.size))
  clear hb Ba0 HB0 
  have ya0 : w1.cell? ⟨w.heap.size, 0, none⟩ = some (.int .i64 0) := Ba1.out.cell 0
  have ya1 : w1.cell? ⟨w.heap.size, 1, none⟩ = some (.bool true) := Ba1.out.cell 1
  have ya2 : w1.cell? ⟨w.heap.size, 2, none⟩ = some (.string ta) := Ba1.out.cell 2
  have ya3 : w1.cell? ⟨w.heap.size, 3, none⟩ = some (.int .i64 ea) := Ba1.out.cell 3
  have b0 : Hid (Below w1.heap.size w1 w1.drew) := bdrewD w1
  have C0 : Hid (∀ X, Hid (Below w1.heap.size w1 X) → Calls Tryz.prog 35 #[.int .i64 ea] X fun e w' => e = .returned (.string I) ∧ Hid (Below w1.heap.size w1 w') ∧ w'.cell? ⟨w.heap.size, 0, none⟩ = some (.int .i64 0) ∧ w'.cell? ⟨w.heap.size, 1, none⟩ = some (.bool true) ∧ w'.cell? ⟨w.heap.size, 2, none⟩ = some (.string ta) ∧ w'.cell? ⟨w.heap.size, 3, none⟩ = some (.int .i64 ea)) := by
    intro X bX
    refine (NB.out X).mono ?_
    rintro e w' ⟨rfl, hb⟩
    have bb := bX.out.trans (hb.mono bX.out.size)
    have Baq := Ba1.out.below bb Ba1.out.lt
    exact ⟨rfl, bb, Baq.cell 0, Baq.cell 1, Baq.cell 2, Baq.cell 3⟩
  go_wp2_with fail
  have mk0 : True := trivial
  go_region_held3 (fun w' => w'.cell? ⟨w.heap.size, 0, none⟩ = some (.int .i64 0) ∧ w'.cell? ⟨w.heap.size, 1, none⟩ = some (.bool true) ∧ w'.cell? ⟨w.heap.size, 2, none⟩ = some (.string ta) ∧ w'.cell? ⟨w.heap.size, 3, none⟩ = some (.int .i64 ea)) (go_keep) (first
    | (clear mk0; go_at_call 35; refine (C0.out _ b0).mono ?_; rintro e w2 ⟨rfl, b1, q0_0, q0_1, q0_2, q0_3⟩; have mk1 : True := trivial))
  have Ba2 := hide (Ba1.out.below b1.out Ba1.out.lt)
  have HB2 := hide (HB1.out.trans (b1.out.mono HB1.out.size))
  clear mk1 b0 b1 C0 q0_0 q0_1 q0_2 q0_3 Ba1 HB1 ya0 ya1 ya2 ya3
  have ya0 : w2.cell? ⟨w.heap.size, 0, none⟩ = some (.int .i64 0) := Ba2.out.cell 0
  have ya1 : w2.cell? ⟨w.heap.size, 1, none⟩ = some (.bool true) := Ba2.out.cell 1
  have ya2 : w2.cell? ⟨w.heap.size, 2, none⟩ = some (.string ta) := Ba2.out.cell 2
  have ya3 : w2.cell? ⟨w.heap.size, 3, none⟩ = some (.int .i64 ea) := Ba2.out.cell 3
  go_wp2
  go_ret2
  exact ⟨rfl, HB2.out⟩

set_option maxRecDepth 100000 in
set_option maxHeartbeats 2000000 in
theorem rPrint_fin_false (ta : ByteArray) (ea : Int) (w : World) (h : MayD 0 false (bys ta) ea) (h0 : ta.size ≠ 0) : Calls Tryz.prog 17 #[dcV 0 false ta ea] w fun e w' => e = .returned (.tuple #[.string (ta ++ ⟨#[101]⟩ ++ ⟨(Lib.itoa ea).toArray⟩), .int .i64 0]) ∧ Below w.heap.size w w' := by
  have MY := hide (fun W => rmay_yes 0 false ta ea W h)
  have h2 := toList_ne h0
  obtain ⟨b1, b2, b3⟩ := may_bounds h
  have NB := hide (fun W => number_any ea W b2 b3)
  have hil := itoa_len b2 b3
  obtain ⟨I, hI⟩ : ∃ I : ByteArray, I = ⟨(Lib.itoa ea).toArray⟩ := ⟨_, rfl⟩
  have hIs : I.size ≤ 6 := by rw [hI, size_mk0]; exact hil
  rw [← hI] at NB ⊢
  have s0 : ¬ 9223372036854775807 < 1 + ta.size := by omega
  have s1 : ¬ 9223372036854775807 < ta.size + 1 := by omega
  have s2 : ¬ 9223372036854775807 < ta.size + 1 + I.size := by omega
  have s3 : (ta ++ ⟨#[101]⟩ : ByteArray).size = ta.size + 1 := by rw [ByteArray.size_append]; rfl
  have s4 : (⟨#[45]⟩ ++ ta : ByteArray).size = 1 + ta.size := by rw [ByteArray.size_append]; rfl
  have s5 : ¬ 9223372036854775807 < 1 + ta.size + 1 := by omega
  have s6 : (⟨#[45]⟩ ++ ta ++ ⟨#[101]⟩ : ByteArray).size = 1 + ta.size + 1 := by rw [ByteArray.size_append, ByteArray.size_append]; rfl
  have s7 : ¬ 9223372036854775807 < 1 + ta.size + 1 + I.size := by omega
  have s8 : Hid ((⟨#[]⟩ ++ ta : ByteArray) = ta) := by rw [← mk_bys (⟨#[]⟩ ++ ta), bys_append]; exact mk_bys ta
  have s9 : (⟨#[]⟩ ++ ta : ByteArray).size = ta.size := by rw [s8.out]
  have s10 : (⟨#[]⟩ ++ ta ++ ⟨#[101]⟩ : ByteArray).size = ta.size + 1 := by rw [s8.out]; exact s3
  have s11 : ¬ 9223372036854775807 < ta.size := by omega
  clear h h0 hil hI b1 b2 b3
  clear s4 s6 s0 s5 s7
  have Ba0 := hide (Blk.newAt w (w.heap.size) (rfl) #[.int .i64 0, .bool false, .string ta, .int .i64 ea] 23)
  have HB0 : Hid (Below w.heap.size w (w.alloc (.cells #[.int .i64 0, .bool false, .string ta, .int .i64 ea] 23))) := ((Below.refl _ _).alloc (Nat.le_refl _) _)
  go_enter Tryz.func17, Tryz.ntmps17
  go_wp2_with fail
  refine (MY.out _).mono ?_
  rintro e w1 ⟨rfl, hb⟩
  have Ba1 := hide (Ba0.out.below hb Ba0.out.lt)
  have HB1 := hide (HB0.out.trans (hb.mono HB0.out.size))
  clear hb Ba0 HB0 
  have ya0 : w1.cell? ⟨w.heap.size, 0, none⟩ = some (.int .i64 0) := Ba1.out.cell 0
  have ya1 : w1.cell? ⟨w.heap.size, 1, none⟩ = some (.bool false) := Ba1.out.cell 1
  have ya2 : w1.cell? ⟨w.heap.size, 2, none⟩ = some (.string ta) := Ba1.out.cell 2
  have ya3 : w1.cell? ⟨w.heap.size, 3, none⟩ = some (.int .i64 ea) := Ba1.out.cell 3
  have b0 : Hid (Below w1.heap.size w1 w1.drew) := bdrewD w1
  have C0 : Hid (∀ X, Hid (Below w1.heap.size w1 X) → Calls Tryz.prog 35 #[.int .i64 ea] X fun e w' => e = .returned (.string I) ∧ Hid (Below w1.heap.size w1 w') ∧ w'.cell? ⟨w.heap.size, 0, none⟩ = some (.int .i64 0) ∧ w'.cell? ⟨w.heap.size, 1, none⟩ = some (.bool false) ∧ w'.cell? ⟨w.heap.size, 2, none⟩ = some (.string ta) ∧ w'.cell? ⟨w.heap.size, 3, none⟩ = some (.int .i64 ea)) := by
    intro X bX
    refine (NB.out X).mono ?_
    rintro e w' ⟨rfl, hb⟩
    have bb := bX.out.trans (hb.mono bX.out.size)
    have Baq := Ba1.out.below bb Ba1.out.lt
    exact ⟨rfl, bb, Baq.cell 0, Baq.cell 1, Baq.cell 2, Baq.cell 3⟩
  go_wp2_with fail
  have mk0 : True := trivial
  go_region_held3 (fun w' => w'.cell? ⟨w.heap.size, 0, none⟩ = some (.int .i64 0) ∧ w'.cell? ⟨w.heap.size, 1, none⟩ = some (.bool false) ∧ w'.cell? ⟨w.heap.size, 2, none⟩ = some (.string ta) ∧ w'.cell? ⟨w.heap.size, 3, none⟩ = some (.int .i64 ea)) (go_keep) (first
    | (clear mk0; go_at_call 35; refine (C0.out _ b0).mono ?_; rintro e w2 ⟨rfl, b1, q0_0, q0_1, q0_2, q0_3⟩; have mk1 : True := trivial))
  have Ba2 := hide (Ba1.out.below b1.out Ba1.out.lt)
  have HB2 := hide (HB1.out.trans (b1.out.mono HB1.out.size))
  clear mk1 b0 b1 C0 q0_0 q0_1 q0_2 q0_3 Ba1 HB1 ya0 ya1 ya2 ya3
  have ya0 : w2.cell? ⟨w.heap.size, 0, none⟩ = some (.int .i64 0) := Ba2.out.cell 0
  have ya1 : w2.cell? ⟨w.heap.size, 1, none⟩ = some (.bool false) := Ba2.out.cell 1
  have ya2 : w2.cell? ⟨w.heap.size, 2, none⟩ = some (.string ta) := Ba2.out.cell 2
  have ya3 : w2.cell? ⟨w.heap.size, 3, none⟩ = some (.int .i64 ea) := Ba2.out.cell 3
  go_wp2
  go_ret2
  exact ⟨by rw [← s8.out]; simp only [s8.out]; rfl, HB2.out⟩

theorem rPrint_d (d : DecT) (w : World) (h : May d) : Calls Tryz.prog 17 #[decVal d] w fun e w' => e = .returned (.tuple #[.string ⟨(printT d).toArray⟩, .int .i64 0]) ∧ Below w.heap.size w w' := by
  rcases may_cases h with ⟨n, rfl⟩ | f | ⟨n, rfl⟩ | rfl
  · cases n
    · exact rPrint_zero_false w h
    · exact rPrint_zero_true w h
  · have ha : amtT d.cls d.dig d.exp = d.dig ++ [101] ++ Lib.itoa d.exp := by
      unfold amtT
      rw [f.cls, if_neg (by omega), if_neg (by omega), if_neg f.ne]
    have hm : MayD 0 d.neg (bys ⟨d.dig.toArray⟩) d.exp := by have := h; unfold May at this; rw [f.cls] at this; rw [bys_mk]; exact this
    have h0 : (⟨d.dig.toArray⟩ : ByteArray).size ≠ 0 := by rw [size_mk0]; exact fun e => f.ne (List.length_eq_zero_iff.1 e)
    obtain ⟨c, n, l, e⟩ := d
    have hc := f.cls
    simp only at hc ha hm h0
    subst hc
    unfold printT
    simp only
    cases n
    · have e1 : (⟨(amtT 0 l e).toArray⟩ : ByteArray) = ⟨l.toArray⟩ ++ ⟨#[101]⟩ ++ ⟨(Lib.itoa e).toArray⟩ := by
        rw [← mk_bys (⟨l.toArray⟩ ++ ⟨#[101]⟩ ++ ⟨(Lib.itoa e).toArray⟩), bys_append, bys_append, bys_mk l, bys_mk (Lib.itoa e), ha]; rfl
      simp only [Bool.false_eq_true, if_false]
      rw [e1]
      exact rPrint_fin_false ⟨l.toArray⟩ e w hm h0
    · have e1 : (⟨(45 :: amtT 0 l e).toArray⟩ : ByteArray) = ⟨#[45]⟩ ++ ⟨l.toArray⟩ ++ ⟨#[101]⟩ ++ ⟨(Lib.itoa e).toArray⟩ := by
        rw [← mk_bys (⟨#[45]⟩ ++ ⟨l.toArray⟩ ++ ⟨#[101]⟩ ++ ⟨(Lib.itoa e).toArray⟩), bys_append, bys_append, bys_append, bys_mk l, bys_mk (Lib.itoa e), ha]; rfl
      simp only [if_true]
      rw [e1]
      exact rPrint_fin_true ⟨l.toArray⟩ e w hm h0
  · cases n
    · exact rPrint_inf_false w h
    · exact rPrint_inf_true w h
  · exact rPrint_nan w h

theorem dprints_walk (w : World) (htab : Tab w) (ca : Int) (na : Bool) (ta : ByteArray) (ea : Int) : Calls Tryz.prog 5 #[dcV ca na ta ea] w fun e w' => e = .returned (.bool true) ∧ Below w.heap.size w w' := by
  by_cases h : MayD ca na (bys ta) ea
  · have md := mayD_d h
    have ed := dcV_d ca na ta ea (mayD_nn h)
    have e1 := fun W hW => Print_d _ W md hW
    have e2 := fun W (_ : Tab W) => rPrint_d _ W md
    rw [← ed] at e1 e2
    exact decPrints_gen ca na ta ea _ 0 w htab e1 e2
  · exact decPrints_gen ca na ta ea ⟨#[]⟩ 52 w htab (fun W _ => Print_no ca na ta ea W h) (fun W _ => rPrint_no ca na ta ea W h)

end Go.Proofs.YtifpacgacbpalaaGreatDoor
