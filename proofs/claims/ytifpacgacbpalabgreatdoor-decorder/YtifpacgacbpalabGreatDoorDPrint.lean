/-
  What dec's amountText and Print do.
-/
import Derived.Test.YtifpacgacbpalabGreatDoorDSmall
import Derived.Test.YtifpacgacbpalabGreatDoorZQ15
import Derived.Test.YtifpacgacbpalabGreatDoorZQ4
import Derived.Deep.RegionHeld3
namespace Go.Proofs.YtifpacgacbpalabGreatDoor
open Go.RowKit

/-- The text of a number's amount. -/
def amtT (c : Nat) (l : List UInt8) (e : Int) : List UInt8 := if c = 2 then [110, 97, 110] else if c = 1 then [105, 110, 102] else if l = [] then [48] else l ++ [101] ++ Lib.itoa e
def printT (d : DecT) : List UInt8 := if d.neg then 45 :: amtT d.cls d.dig d.exp else amtT d.cls d.dig d.exp

theorem itoa_len {e : Int} (h1 : -10000 ≤ e) (h2 : e ≤ 10000) : (Lib.itoa e).length ≤ 6 := by
  have h : ∀ n : Nat, n ≤ 10000 → (Lib.decDigits n).length ≤ 5 := fun n hn => sizeN_le (Nat.lt_of_le_of_lt hn (by decide)) (by omega)
  unfold Lib.itoa
  split
  · have := h e.natAbs (by omega); simp only [List.length_cons]; omega
  · have := h e.toNat (by omega); omega

theorem itoa_any (e : Int) (w : World) (h1 : -10000 ≤ e) (h2 : e ≤ 10000) (htab : Tab w) : Calls Tryz.prog 29 #[.int .i64 e] w fun e' w' => e' = .returned (.string ⟨(Lib.itoa e).toArray⟩) ∧ Below w.heap.size w w' := by
  refine (Tryz.strconv_Itoa e (by omega) (by omega) w htab).mono ?_
  rintro e' w' ⟨rfl, k, os, rfl⟩
  exact ⟨rfl, below_grow w k os⟩

set_option maxHeartbeats 1000000 in
theorem amount_nan (w : World) : Calls Tryz.prog 17 #[.agg #[.int .i64 2, .bool false, .string ⟨#[]⟩, .int .i64 0]] w fun e w' => e = .returned (.string ⟨#[110, 97, 110]⟩) ∧ Below w.heap.size w w' := by
  have Ba0 := hide (Blk.newAt w (w.heap.size) (rfl) #[.int .i64 2, .bool false, .string ⟨#[]⟩, .int .i64 0] 23)
  have HB0 : Hid (Below w.heap.size w (w.alloc (.cells #[.int .i64 2, .bool false, .string ⟨#[]⟩, .int .i64 0] 23))) := ((Below.refl _ _).alloc (Nat.le_refl _) _)
  go_enter Tryz.func17, Tryz.ntmps17
  go_wp2
  go_ret
  exact ⟨rfl, HB0.out⟩

set_option maxHeartbeats 1000000 in
theorem amount_inf (na : Bool) (w : World) : Calls Tryz.prog 17 #[.agg #[.int .i64 1, .bool na, .string ⟨#[]⟩, .int .i64 0]] w fun e w' => e = .returned (.string ⟨#[105, 110, 102]⟩) ∧ Below w.heap.size w w' := by
  have Ba0 := hide (Blk.newAt w (w.heap.size) (rfl) #[.int .i64 1, .bool na, .string ⟨#[]⟩, .int .i64 0] 23)
  have HB0 : Hid (Below w.heap.size w (w.alloc (.cells #[.int .i64 1, .bool na, .string ⟨#[]⟩, .int .i64 0] 23))) := ((Below.refl _ _).alloc (Nat.le_refl _) _)
  go_enter Tryz.func17, Tryz.ntmps17
  go_wp2
  go_ret
  exact ⟨rfl, HB0.out⟩

set_option maxHeartbeats 1000000 in
theorem amount_zero (na : Bool) (w : World) : Calls Tryz.prog 17 #[.agg #[.int .i64 0, .bool na, .string ⟨#[]⟩, .int .i64 0]] w fun e w' => e = .returned (.string ⟨#[48]⟩) ∧ Below w.heap.size w w' := by
  have Ba0 := hide (Blk.newAt w (w.heap.size) (rfl) #[.int .i64 0, .bool na, .string ⟨#[]⟩, .int .i64 0] 23)
  have HB0 : Hid (Below w.heap.size w (w.alloc (.cells #[.int .i64 0, .bool na, .string ⟨#[]⟩, .int .i64 0] 23))) := ((Below.refl _ _).alloc (Nat.le_refl _) _)
  go_enter Tryz.func17, Tryz.ntmps17
  go_wp2
  go_ret
  exact ⟨rfl, HB0.out⟩

set_option maxHeartbeats 1000000 in
theorem amount_fin (na : Bool) (ta : ByteArray) (ea : Int) (w : World) (h : ta.size ≠ 0) (b1 : ta.size ≤ 10000) (b2 : -10000 ≤ ea) (b3 : ea ≤ 10000) (htab : Tab w) : Calls Tryz.prog 17 #[dcV 0 na ta ea] w fun e w' => e = .returned (.string (ta ++ ⟨#[101]⟩ ++ ⟨(Lib.itoa ea).toArray⟩)) ∧ Below w.heap.size w w' := by
  have h2 := toList_ne h
  have IT := hide (fun W (hW : Tab W) => itoa_any ea W b2 b3 hW)
  have hil := itoa_len b2 b3
  obtain ⟨I, hI⟩ : ∃ I : ByteArray, I = ⟨(Lib.itoa ea).toArray⟩ := ⟨_, rfl⟩
  have hIs : I.size ≤ 6 := by rw [hI, size_mk0]; exact hil
  rw [← hI] at IT
  have HI := hide hI
  have HT := hide htab
  have s1 : ¬ 9223372036854775807 < ta.size + 1 := by omega
  have s2 : ¬ 9223372036854775807 < ta.size + 1 + I.size := by omega
  have s3 : (ta ++ ⟨#[101]⟩ : ByteArray).size = ta.size + 1 := by rw [ByteArray.size_append]; rfl
  clear h hil hI htab
  have Ba0 := hide (Blk.newAt w (w.heap.size) (rfl) #[.int .i64 0, .bool na, .string ta, .int .i64 ea] 23)
  have HB0 : Hid (Below w.heap.size w (w.alloc (.cells #[.int .i64 0, .bool na, .string ta, .int .i64 ea] 23))) := ((Below.refl _ _).alloc (Nat.le_refl _) _)
  have HTW := hide (HT.out.below HB0.out)
  obtain ⟨W, hW⟩ : ∃ W, W = (w.alloc (.cells #[.int .i64 0, .bool na, .string ta, .int .i64 ea] 23)) := ⟨_, rfl⟩
  rw [← hW] at HB0 Ba0 HTW
  have HW := hide hW
  clear hW
  have ya0 : W.cell? ⟨w.heap.size, 0, none⟩ = some (.int .i64 0) := Ba0.out.cell 0
  have ya1 : W.cell? ⟨w.heap.size, 1, none⟩ = some (.bool na) := Ba0.out.cell 1
  have ya2 : W.cell? ⟨w.heap.size, 2, none⟩ = some (.string ta) := Ba0.out.cell 2
  have ya3 : W.cell? ⟨w.heap.size, 3, none⟩ = some (.int .i64 ea) := Ba0.out.cell 3
  clear HT
  go_enter Tryz.func17, Tryz.ntmps17
  have b0 : Hid (Below W.heap.size W W.drew) := bdrewD W
  have C0 : Hid (∀ X, Hid (Below W.heap.size W X) → Calls Tryz.prog 29 #[.int .i64 ea] X fun e w' => e = .returned (.string I) ∧ Hid (Below W.heap.size W w') ∧ w'.cell? ⟨w.heap.size, 0, none⟩ = some (.int .i64 0) ∧ w'.cell? ⟨w.heap.size, 1, none⟩ = some (.bool na) ∧ w'.cell? ⟨w.heap.size, 2, none⟩ = some (.string ta) ∧ w'.cell? ⟨w.heap.size, 3, none⟩ = some (.int .i64 ea)) := by
    intro X bX
    refine (IT.out X (HTW.out.below bX.out)).mono ?_
    rintro e w' ⟨rfl, hb⟩
    have bb := bX.out.trans (hb.mono bX.out.size)
    have Baq := Ba0.out.below bb Ba0.out.lt
    exact ⟨rfl, bb, Baq.cell 0, Baq.cell 1, Baq.cell 2, Baq.cell 3⟩
  go_wp2_with fail
  simp only [← HW.out]
  have mk0 : True := trivial
  go_region_held3 (fun w' => w'.cell? ⟨w.heap.size, 0, none⟩ = some (.int .i64 0) ∧ w'.cell? ⟨w.heap.size, 1, none⟩ = some (.bool na) ∧ w'.cell? ⟨w.heap.size, 2, none⟩ = some (.string ta) ∧ w'.cell? ⟨w.heap.size, 3, none⟩ = some (.int .i64 ea)) (go_keep) (first
    | (clear mk0; go_at_call 29; refine (C0.out _ b0).mono ?_; rintro e w1 ⟨rfl, b1, q0_0, q0_1, q0_2, q0_3⟩; have mk1 : True := trivial))
  have Ba1 := hide (Ba0.out.below b1.out Ba0.out.lt)
  have HB1 := hide (HB0.out.trans (b1.out.mono HB0.out.size))
  clear mk1 b0 b1 C0 q0_0 q0_1 q0_2 q0_3 Ba0 HB0 ya0 ya1 ya2 ya3
  have ya0 : w1.cell? ⟨w.heap.size, 0, none⟩ = some (.int .i64 0) := Ba1.out.cell 0
  have ya1 : w1.cell? ⟨w.heap.size, 1, none⟩ = some (.bool na) := Ba1.out.cell 1
  have ya2 : w1.cell? ⟨w.heap.size, 2, none⟩ = some (.string ta) := Ba1.out.cell 2
  have ya3 : w1.cell? ⟨w.heap.size, 3, none⟩ = some (.int .i64 ea) := Ba1.out.cell 3
  go_wp2
  go_ret
  refine ⟨?_, HB1.out⟩
  rw [HI.out]
  rfl

set_option maxHeartbeats 1000000 in
theorem Print_no (ca : Int) (na : Bool) (ta : ByteArray) (ea : Int) (w : World) (h : ¬ MayD ca na (bys ta) ea) : Calls Tryz.prog 7 #[dcV ca na ta ea] w fun e w' => e = .returned (.tuple #[.string ⟨#[]⟩, .int .i64 52]) ∧ Below w.heap.size w w' := by
  have MY := hide (fun W => dmay_no ca na ta ea W h)
  clear h
  have Ba0 := hide (Blk.newAt w (w.heap.size) (rfl) #[.int .i64 ca, .bool na, .string ta, .int .i64 ea] 23)
  have HB0 : Hid (Below w.heap.size w (w.alloc (.cells #[.int .i64 ca, .bool na, .string ta, .int .i64 ea] 23))) := ((Below.refl _ _).alloc (Nat.le_refl _) _)
  go_enter Tryz.func7, Tryz.ntmps7
  go_wp2_with fail
  refine (MY.out _).mono ?_
  rintro e w1 ⟨rfl, hb⟩
  have Ba1 := hide (Ba0.out.below hb Ba0.out.lt)
  have HB1 := hide (HB0.out.trans (hb.mono HB0.out.size))
  clear hb Ba0 HB0 
  have ya0 : w1.cell? ⟨w.heap.size, 0, none⟩ = some (.int .i64 ca) := Ba1.out.cell 0
  have ya1 : w1.cell? ⟨w.heap.size, 1, none⟩ = some (.bool na) := Ba1.out.cell 1
  have ya2 : w1.cell? ⟨w.heap.size, 2, none⟩ = some (.string ta) := Ba1.out.cell 2
  have ya3 : w1.cell? ⟨w.heap.size, 3, none⟩ = some (.int .i64 ea) := Ba1.out.cell 3
  go_wp2
  go_ret2
  exact ⟨rfl, HB1.out⟩

set_option maxHeartbeats 1000000 in
theorem Print_true (ca : Int) (ta : ByteArray) (ea : Int) (T : ByteArray) (w : World) (hT : T.size ≤ 100000) (h : MayD ca true (bys ta) ea) (htab : Tab w) (AM : ∀ W, Tab W → Calls Tryz.prog 17 #[dcV ca true ta ea] W fun e w' => e = .returned (.string T) ∧ Below W.heap.size W w') : Calls Tryz.prog 7 #[dcV ca true ta ea] w fun e w' => e = .returned (.tuple #[.string (⟨#[45]⟩ ++ T), .int .i64 0]) ∧ Below w.heap.size w w' := by
  have MY := hide (fun W => dmay_yes ca true ta ea W h)
  have A := hide AM
  have HT := hide htab
  have s1 : ¬ 9223372036854775807 < 1 + T.size := by omega
  clear h AM htab
  have Ba0 := hide (Blk.newAt w (w.heap.size) (rfl) #[.int .i64 ca, .bool true, .string ta, .int .i64 ea] 23)
  have HB0 : Hid (Below w.heap.size w (w.alloc (.cells #[.int .i64 ca, .bool true, .string ta, .int .i64 ea] 23))) := ((Below.refl _ _).alloc (Nat.le_refl _) _)
  go_enter Tryz.func7, Tryz.ntmps7
  go_wp2_with fail
  refine (MY.out _).mono ?_
  rintro e w1 ⟨rfl, hb⟩
  have Ba1 := hide (Ba0.out.below hb Ba0.out.lt)
  have HB1 := hide (HB0.out.trans (hb.mono HB0.out.size))
  clear hb Ba0 HB0 
  have ya0 : w1.cell? ⟨w.heap.size, 0, none⟩ = some (.int .i64 ca) := Ba1.out.cell 0
  have ya1 : w1.cell? ⟨w.heap.size, 1, none⟩ = some (.bool true) := Ba1.out.cell 1
  have ya2 : w1.cell? ⟨w.heap.size, 2, none⟩ = some (.string ta) := Ba1.out.cell 2
  have ya3 : w1.cell? ⟨w.heap.size, 3, none⟩ = some (.int .i64 ea) := Ba1.out.cell 3
  go_wp2_with fail
  refine (A.out _ (HT.out.below HB1.out)).mono ?_
  rintro e w2 ⟨rfl, hb⟩
  have Ba2 := hide (Ba1.out.below hb Ba1.out.lt)
  have HB2 := hide (HB1.out.trans (hb.mono HB1.out.size))
  clear hb Ba1 HB1 ya0 ya1 ya2 ya3
  have ya0 : w2.cell? ⟨w.heap.size, 0, none⟩ = some (.int .i64 ca) := Ba2.out.cell 0
  have ya1 : w2.cell? ⟨w.heap.size, 1, none⟩ = some (.bool true) := Ba2.out.cell 1
  have ya2 : w2.cell? ⟨w.heap.size, 2, none⟩ = some (.string ta) := Ba2.out.cell 2
  have ya3 : w2.cell? ⟨w.heap.size, 3, none⟩ = some (.int .i64 ea) := Ba2.out.cell 3
  go_wp2
  go_ret2
  exact ⟨rfl, HB2.out⟩

set_option maxHeartbeats 1000000 in
theorem Print_false (ca : Int) (ta : ByteArray) (ea : Int) (T : ByteArray) (w : World) (hT : T.size ≤ 100000) (h : MayD ca false (bys ta) ea) (htab : Tab w) (AM : ∀ W, Tab W → Calls Tryz.prog 17 #[dcV ca false ta ea] W fun e w' => e = .returned (.string T) ∧ Below W.heap.size W w') : Calls Tryz.prog 7 #[dcV ca false ta ea] w fun e w' => e = .returned (.tuple #[.string T, .int .i64 0]) ∧ Below w.heap.size w w' := by
  have MY := hide (fun W => dmay_yes ca false ta ea W h)
  have A := hide AM
  have HT := hide htab
  have s1 : ¬ 9223372036854775807 < 1 + T.size := by omega
  clear h AM htab
  have Ba0 := hide (Blk.newAt w (w.heap.size) (rfl) #[.int .i64 ca, .bool false, .string ta, .int .i64 ea] 23)
  have HB0 : Hid (Below w.heap.size w (w.alloc (.cells #[.int .i64 ca, .bool false, .string ta, .int .i64 ea] 23))) := ((Below.refl _ _).alloc (Nat.le_refl _) _)
  go_enter Tryz.func7, Tryz.ntmps7
  go_wp2_with fail
  refine (MY.out _).mono ?_
  rintro e w1 ⟨rfl, hb⟩
  have Ba1 := hide (Ba0.out.below hb Ba0.out.lt)
  have HB1 := hide (HB0.out.trans (hb.mono HB0.out.size))
  clear hb Ba0 HB0 
  have ya0 : w1.cell? ⟨w.heap.size, 0, none⟩ = some (.int .i64 ca) := Ba1.out.cell 0
  have ya1 : w1.cell? ⟨w.heap.size, 1, none⟩ = some (.bool false) := Ba1.out.cell 1
  have ya2 : w1.cell? ⟨w.heap.size, 2, none⟩ = some (.string ta) := Ba1.out.cell 2
  have ya3 : w1.cell? ⟨w.heap.size, 3, none⟩ = some (.int .i64 ea) := Ba1.out.cell 3
  go_wp2_with fail
  refine (A.out _ (HT.out.below HB1.out)).mono ?_
  rintro e w2 ⟨rfl, hb⟩
  have Ba2 := hide (Ba1.out.below hb Ba1.out.lt)
  have HB2 := hide (HB1.out.trans (hb.mono HB1.out.size))
  clear hb Ba1 HB1 ya0 ya1 ya2 ya3
  have ya0 : w2.cell? ⟨w.heap.size, 0, none⟩ = some (.int .i64 ca) := Ba2.out.cell 0
  have ya1 : w2.cell? ⟨w.heap.size, 1, none⟩ = some (.bool false) := Ba2.out.cell 1
  have ya2 : w2.cell? ⟨w.heap.size, 2, none⟩ = some (.string ta) := Ba2.out.cell 2
  have ya3 : w2.cell? ⟨w.heap.size, 3, none⟩ = some (.int .i64 ea) := Ba2.out.cell 3
  go_wp2
  go_ret2
  exact ⟨rfl, HB2.out⟩

theorem amount_d (d : DecT) (h : May d) : ∃ T : ByteArray, bys T = amtT d.cls d.dig d.exp ∧ T.size ≤ 100000 ∧ ∀ W, Tab W → Calls Tryz.prog 17 #[decVal d] W fun e w' => e = .returned (.string T) ∧ Below W.heap.size W w' := by
  rcases may_cases h with ⟨n, rfl⟩ | h | ⟨n, rfl⟩ | rfl
  · exact ⟨⟨#[48]⟩, rfl, by decide, fun W _ => amount_zero n W⟩
  · have h1 : (⟨d.dig.toArray⟩ : ByteArray).size = d.dig.length := size_mk0 _
    have h2 := List.length_pos_iff.2 h.ne
    have h3 := h.len
    have h4 := h.lo
    have h5 := h.hi
    have h6 := itoa_len (e := d.exp) (by omega) (by omega)
    refine ⟨⟨d.dig.toArray⟩ ++ ⟨#[101]⟩ ++ ⟨(Lib.itoa d.exp).toArray⟩, ?_, ?_, fun W hW => ?_⟩
    · rw [bys_append, bys_append, bys_mk, bys_mk]
      unfold amtT
      rw [h.cls, if_neg (by omega), if_neg (by omega), if_neg h.ne]
      rfl
    · have h7 : (⟨(Lib.itoa d.exp).toArray⟩ : ByteArray).size = (Lib.itoa d.exp).length := size_mk0 _
      have h8 : (⟨#[101]⟩ : ByteArray).size = 1 := rfl
      rw [ByteArray.size_append, ByteArray.size_append, h1, h7, h8]
      omega
    · have g := amount_fin d.neg ⟨d.dig.toArray⟩ d.exp W (by rw [h1]; omega) (by rw [h1]; omega) (by omega) (by omega) hW
      unfold decVal
      rw [h.cls]
      exact g
  · exact ⟨⟨#[105, 110, 102]⟩, rfl, by decide, fun W _ => amount_inf n W⟩
  · exact ⟨⟨#[110, 97, 110]⟩, rfl, by decide, fun W _ => amount_nan W⟩

theorem Print_d (d : DecT) (w : World) (h : May d) (htab : Tab w) : Calls Tryz.prog 7 #[decVal d] w fun e w' => e = .returned (.tuple #[.string ⟨(printT d).toArray⟩, .int .i64 0]) ∧ Below w.heap.size w w' := by
  obtain ⟨T, h1, h2, h3⟩ := amount_d d h
  have e1 : (⟨(amtT d.cls d.dig d.exp).toArray⟩ : ByteArray) = T := by rw [← h1, mk_bys]
  obtain ⟨c, n, l, e⟩ := d
  unfold printT
  have hm : MayD (c : Int) n (bys ⟨l.toArray⟩) e := by rw [bys_mk]; exact h
  simp only at e1 ⊢
  cases n
  · simp only [Bool.false_eq_true, if_false]
    rw [e1]
    exact Print_false (c : Int) ⟨l.toArray⟩ e T w h2 hm htab h3
  · simp only [if_true]
    have e2 : (⟨(45 :: amtT c l e).toArray⟩ : ByteArray) = ⟨#[45]⟩ ++ T := by
      rw [← mk_bys (⟨#[45]⟩ ++ T), bys_append, h1]; rfl
    rw [e2]
    exact Print_true (c : Int) ⟨l.toArray⟩ e T w h2 hm htab h3

theorem dcV_d (c : Int) (n : Bool) (t : ByteArray) (e : Int) (hc : 0 ≤ c) : dcV c n t e = decVal ⟨c.toNat, n, bys t, e⟩ := by
  unfold decVal
  simp only
  rw [mk_bys, Int.toNat_of_nonneg hc]

theorem mayD_nn {c : Int} {n : Bool} {l : List UInt8} {e : Int} (h : MayD c n l e) : 0 ≤ c := by
  rcases h with ⟨h, _⟩ | ⟨h, _⟩ | ⟨h, _⟩ <;> omega

theorem mayD_d {c : Int} {n : Bool} {l : List UInt8} {e : Int} (h : MayD c n l e) : May ⟨c.toNat, n, l, e⟩ := by
  unfold May
  simp only
  rw [Int.toNat_of_nonneg (mayD_nn h)]
  exact h

end Go.Proofs.YtifpacgacbpalabGreatDoor
