/-
  What decform's Of and dec's finite do.
  What dec's amountText and Print do.
  Plain mathematics: the texts of numbers, their parts, and what they say.
  What dec's cutDigits and unsigned do.
-/
import Derived.Test.YtifpacgacbpalaaGreatDoorDSmall
import Derived.Test.YtifpacgacbpalaaGreatDoorShelf
import Derived.Test.YtifpacgacbpalaaGreatDoorZQ16
import Derived.Deep.RegionHeld3
import Derived.Test.YtifpacgacbpalaaGreatDoorZQ23
import Derived.Lib.Strings
import Derived.Lib.Atoi
namespace Go.Proofs.YtifpacgacbpalaaGreatDoor
open Go.RowKit

theorem bys_mk (l : List UInt8) : bys ⟨l.toArray⟩ = l := by simp [bys]
theorem mk_bys (t : ByteArray) : (⟨(bys t).toArray⟩ : ByteArray) = t := by cases t; simp [bys]
theorem size_mk0 (l : List UInt8) : (⟨l.toArray⟩ : ByteArray).size = l.length := by simp [ByteArray.size]

theorem cut0_len (l : List UInt8) : (cut0 l).length ≤ l.length := by
  unfold cut0 Lib.trimRightB
  rw [List.length_reverse]
  have := (List.dropWhile_sublist (p := (· == (48 : UInt8))) (l := l.reverse)).length_le
  rw [List.length_reverse] at this
  exact this

set_option maxHeartbeats 1000000 in
theorem dof_nil (neg : Bool) (t : ByteArray) (ex : Int) (w : World) (hs : t.size ≤ 281474976710656) (h1 : -100000000000000000 ≤ ex) (h2 : ex ≤ 100000000000000000) (h : mid0 (bys t) = []) : Calls Tryz.prog 54 #[.bool neg, .string t, .int .i64 ex] w fun e w' => e = .returned (decVal (ofD neg (bys t) ex)) ∧ Below w.heap.size w w' := by
  have TR := hide (fun W => Tryz.strings_TrimRight_one t 48 (by decide) W (by omega))
  have TL := hide (fun W => Tryz.strings_TrimLeft_one ⟨(cut0 (bys t)).toArray⟩ 48 (by decide) W)
  have hl1 := cut0_len (bys t)
  rw [bys_len] at hl1
  have hsz : (⟨(cut0 (bys t)).toArray⟩ : ByteArray).size = (cut0 (bys t)).length := size_mk0 _
  have HM : Hid (mid0 (bys t) = Lib.trimLeftB (cut0 (bys t)) 48) := rfl
  obtain ⟨C, hC⟩ : ∃ C : ByteArray, C = ⟨(cut0 (bys t)).toArray⟩ := ⟨_, rfl⟩
  obtain ⟨m, hm⟩ : ∃ m, m = (cut0 (bys t)).length := ⟨_, rfl⟩
  have TR' : Hid (∀ W, Calls Tryz.prog 79 #[.string t, .string ⟨#[48]⟩] W fun e w' => e = .returned (.string C) ∧ w' = W) := by rw [hC]; exact TR.out
  have TL' : Hid (∀ W, Calls Tryz.prog 80 #[.string C, .string ⟨#[48]⟩] W fun e w' => e = .returned (.string ⟨(mid0 (bys t)).toArray⟩) ∧ w' = W) := by rw [hC]; exact TL.out
  rw [← hC, ← hm] at hsz
  rw [← hm] at hl1
  obtain ⟨D, hD⟩ : ∃ D : ByteArray, D = ⟨(mid0 (bys t)).toArray⟩ := ⟨_, rfl⟩
  rw [← hD] at TL'
  have hDs : D.size = (mid0 (bys t)).length := by rw [hD]; exact size_mk0 _
  have hD0 : D = ⟨#[]⟩ := by rw [hD, h]
  subst hD0
  clear TR TL HM hD hDs hC hm
  have Br0 := hide (Blk.newAt w (w.heap.size) (rfl) #[.int .i64 0, .bool false, .string ⟨#[]⟩, .int .i64 0] 23)
  have HB0 : Hid (Below w.heap.size w (w.alloc (.cells #[.int .i64 0, .bool false, .string ⟨#[]⟩, .int .i64 0] 23))) := ((Below.refl _ _).alloc (Nat.le_refl _) _)
  go_enter Tryz.func54, Tryz.ntmps54
  go_wp2_with fail
  refine (TR'.out _).mono ?_
  rintro e w1 ⟨rfl, rfl⟩
  go_wp2_with fail
  refine (TL'.out _).mono ?_
  rintro e w1 ⟨rfl, rfl⟩
  go_wp2
  refine bodyPost_ret (results_dec rfl _ _ _ _ _ _ _ rfl (Blk.new _ _ _)) rfl ?_
  exact ⟨by unfold ofD decVal; rw [if_pos h]; rfl, (Below.refl _ _).alloc (Nat.le_refl _) _⟩

set_option maxHeartbeats 1000000 in
theorem dof_some (neg : Bool) (t : ByteArray) (ex : Int) (w : World) (hs : t.size ≤ 281474976710656) (h1 : -100000000000000000 ≤ ex) (h2 : ex ≤ 100000000000000000) (h : mid0 (bys t) ≠ []) : Calls Tryz.prog 54 #[.bool neg, .string t, .int .i64 ex] w fun e w' => e = .returned (decVal (ofD neg (bys t) ex)) ∧ Below w.heap.size w w' := by
  have TR := hide (fun W => Tryz.strings_TrimRight_one t 48 (by decide) W (by omega))
  have TL := hide (fun W => Tryz.strings_TrimLeft_one ⟨(cut0 (bys t)).toArray⟩ 48 (by decide) W)
  have hl1 := cut0_len (bys t)
  rw [bys_len] at hl1
  have hsz : (⟨(cut0 (bys t)).toArray⟩ : ByteArray).size = (cut0 (bys t)).length := size_mk0 _
  have HM : Hid (mid0 (bys t) = Lib.trimLeftB (cut0 (bys t)) 48) := rfl
  obtain ⟨C, hC⟩ : ∃ C : ByteArray, C = ⟨(cut0 (bys t)).toArray⟩ := ⟨_, rfl⟩
  obtain ⟨m, hm⟩ : ∃ m, m = (cut0 (bys t)).length := ⟨_, rfl⟩
  have TR' : Hid (∀ W, Calls Tryz.prog 79 #[.string t, .string ⟨#[48]⟩] W fun e w' => e = .returned (.string C) ∧ w' = W) := by rw [hC]; exact TR.out
  have TL' : Hid (∀ W, Calls Tryz.prog 80 #[.string C, .string ⟨#[48]⟩] W fun e w' => e = .returned (.string ⟨(mid0 (bys t)).toArray⟩) ∧ w' = W) := by rw [hC]; exact TL.out
  rw [← hC, ← hm] at hsz
  rw [← hm] at hl1
  obtain ⟨D, hD⟩ : ∃ D : ByteArray, D = ⟨(mid0 (bys t)).toArray⟩ := ⟨_, rfl⟩
  rw [← hD] at TL'
  have hDs : D.size = (mid0 (bys t)).length := by rw [hD]; exact size_mk0 _
  have hD0 : D.size ≠ 0 := by rw [hDs]; exact fun e => h (List.length_eq_zero_iff.1 e)
  have hD1 := toList_ne hD0
  have HDD := hide hD
  have HMM := hide hm
  clear TR TL HM hD hDs hC hD0 hm
  have Br0 := hide (Blk.newAt w (w.heap.size) (rfl) #[.int .i64 0, .bool false, .string ⟨#[]⟩, .int .i64 0] 23)
  have HB0 : Hid (Below w.heap.size w (w.alloc (.cells #[.int .i64 0, .bool false, .string ⟨#[]⟩, .int .i64 0] 23))) := ((Below.refl _ _).alloc (Nat.le_refl _) _)
  go_enter Tryz.func54, Tryz.ntmps54
  go_wp2_with fail
  refine (TR'.out _).mono ?_
  rintro e w1 ⟨rfl, rfl⟩
  go_wp2_with fail
  refine (TL'.out _).mono ?_
  rintro e w1 ⟨rfl, rfl⟩
  go_wp2
  refine bodyPost_ret (results_dec rfl _ _ _ _ _ _ _ rfl (Blk.new _ _ _)) rfl ?_
  exact ⟨by unfold ofD decVal; rw [if_neg h, ← HMM.out, bys_len, HDD.out, show ex + ((t.size : Int) - (m : Int)) = ex + (t.size : Int) - (m : Int) by omega]; rfl, (Below.refl _ _).alloc (Nat.le_refl _) _⟩

theorem dof_any (neg : Bool) (t : ByteArray) (ex : Int) (w : World) (hs : t.size ≤ 281474976710656) (h1 : -100000000000000000 ≤ ex) (h2 : ex ≤ 100000000000000000) : Calls Tryz.prog 54 #[.bool neg, .string t, .int .i64 ex] w fun e w' => e = .returned (decVal (ofD neg (bys t) ex)) ∧ Below w.heap.size w w' := by
  by_cases h : mid0 (bys t) = []
  · exact dof_nil neg t ex w hs h1 h2 h
  · exact dof_some neg t ex w hs h1 h2 h

theorem dmay_d_yes (d : DecT) (w : World) (h : May d) : Calls Tryz.prog 10 #[decVal d] w fun e w' => e = .returned (.bool true) ∧ Below w.heap.size w w' :=
  dmay_yes (d.cls : Int) d.neg ⟨d.dig.toArray⟩ d.exp w (by rw [bys_mk]; exact h)
theorem dmay_d_no (d : DecT) (w : World) (h : ¬ May d) : Calls Tryz.prog 10 #[decVal d] w fun e w' => e = .returned (.bool false) ∧ Below w.heap.size w w' :=
  dmay_no (d.cls : Int) d.neg ⟨d.dig.toArray⟩ d.exp w (by rw [bys_mk]; exact h)

/-- A Dec and an error, as they are handed back. -/
def decErr (r : DecT × Int) : Value := .tuple #[decVal r.1, .int .i64 r.2]

set_option maxHeartbeats 1000000 in
theorem fin_yes (neg : Bool) (t : ByteArray) (ex : Int) (w : World) (hs : t.size ≤ 281474976710656) (h1 : -100000000000000000 ≤ ex) (h2 : ex ≤ 100000000000000000) (hd : DigB (bys t)) (h : May (finD neg (decV (bys t)) ex)) : Calls Tryz.prog 31 #[.bool neg, .string t, .int .i64 ex] w fun e w' => e = .returned (decErr (tellF neg (decV (bys t)) ex)) ∧ Below w.heap.size w w' := by
  have OF := hide (fun W => dof_any neg t ex W hs h1 h2)
  rw [ofD_fin neg _ ex hd] at OF
  obtain ⟨d, hdd⟩ : ∃ d, d = finD neg (decV (bys t)) ex := ⟨_, rfl⟩
  rw [← hdd] at OF h
  have MY := hide (fun W => dmay_d_yes d W h)
  have TF : Hid (tellF neg (decV (bys t)) ex = (d, 0)) := by rw [hdd] at h ⊢; exact tellF_yes h
  clear hdd h hs h1 h2 hd
  obtain ⟨c, n, l, e⟩ := d
  unfold decVal at OF MY
  simp only at OF MY
  have Br0 := hide (Blk.newAt w (w.heap.size) (rfl) #[.int .i64 0, .bool false, .string ⟨#[]⟩, .int .i64 0] 23)
  have HB0 : Hid (Below w.heap.size w (w.alloc (.cells #[.int .i64 0, .bool false, .string ⟨#[]⟩, .int .i64 0] 23))) := ((Below.refl _ _).alloc (Nat.le_refl _) _)
  go_enter Tryz.func31, Tryz.ntmps31
  go_wp2_with fail
  refine (OF.out _).mono ?_
  rintro e w1 ⟨rfl, hb⟩
  have Br1 := hide (Br0.out.below hb Br0.out.lt)
  have HB1 := hide (HB0.out.trans (hb.mono HB0.out.size))
  clear hb Br0 HB0 
  have yr0 : w1.cell? ⟨w.heap.size, 0, none⟩ = some (.int .i64 0) := Br1.out.cell 0
  have yr1 : w1.cell? ⟨w.heap.size, 1, none⟩ = some (.bool false) := Br1.out.cell 1
  have yr2 : w1.cell? ⟨w.heap.size, 2, none⟩ = some (.string ⟨#[]⟩) := Br1.out.cell 2
  have yr3 : w1.cell? ⟨w.heap.size, 3, none⟩ = some (.int .i64 0) := Br1.out.cell 3
  go_wp2_with fail
  refine (MY.out _).mono ?_
  rintro e w2 ⟨rfl, hb⟩
  have Br2 := hide ((Br1.out.alloc (.cells #[.int .i64 (c : Int), .bool n, .string ⟨l.toArray⟩, .int .i64 e] 23)).below hb (Br1.out.alloc (.cells #[.int .i64 (c : Int), .bool n, .string ⟨l.toArray⟩, .int .i64 e] 23)).lt)
  have Bd2 := hide ((Blk.newAt w1 (w1.heap.size) (rfl) #[.int .i64 (c : Int), .bool n, .string ⟨l.toArray⟩, .int .i64 e] 23).below hb (Blk.newAt w1 (w1.heap.size) (rfl) #[.int .i64 (c : Int), .bool n, .string ⟨l.toArray⟩, .int .i64 e] 23).lt)
  have HB2 := hide ((HB1.out.alloc HB1.out.size _).trans (hb.mono (HB1.out.alloc HB1.out.size _).size))
  clear hb Br1 HB1 yr0 yr1 yr2 yr3
  have yr0 : w2.cell? ⟨w.heap.size, 0, none⟩ = some (.int .i64 0) := Br2.out.cell 0
  have yr1 : w2.cell? ⟨w.heap.size, 1, none⟩ = some (.bool false) := Br2.out.cell 1
  have yr2 : w2.cell? ⟨w.heap.size, 2, none⟩ = some (.string ⟨#[]⟩) := Br2.out.cell 2
  have yr3 : w2.cell? ⟨w.heap.size, 3, none⟩ = some (.int .i64 0) := Br2.out.cell 3
  have yd0 : w2.cell? ⟨w1.heap.size, 0, none⟩ = some (.int .i64 (c : Int)) := Bd2.out.cell 0
  have yd1 : w2.cell? ⟨w1.heap.size, 1, none⟩ = some (.bool n) := Bd2.out.cell 1
  have yd2 : w2.cell? ⟨w1.heap.size, 2, none⟩ = some (.string ⟨l.toArray⟩) := Bd2.out.cell 2
  have yd3 : w2.cell? ⟨w1.heap.size, 3, none⟩ = some (.int .i64 e) := Bd2.out.cell 3
  have fr0 := Br2.out.free 0
  have fr1 := Br2.out.free 1
  have fr2 := Br2.out.free 2
  have fr3 := Br2.out.free 3
  go_wp2
  refine bodyPost_ret (results_dec2 rfl _ _ _ _ _ _ _ rfl (Br2.out.put4 _ _ _ _)) rfl ?_
  exact ⟨by rw [TF.out]; rfl, below_put4 (HB2.out) (by omega) _ _ _ _⟩

set_option maxHeartbeats 1000000 in
theorem fin_no (neg : Bool) (t : ByteArray) (ex : Int) (w : World) (hs : t.size ≤ 281474976710656) (h1 : -100000000000000000 ≤ ex) (h2 : ex ≤ 100000000000000000) (hd : DigB (bys t)) (h : ¬ May (finD neg (decV (bys t)) ex)) : Calls Tryz.prog 31 #[.bool neg, .string t, .int .i64 ex] w fun e w' => e = .returned (decErr (tellF neg (decV (bys t)) ex)) ∧ Below w.heap.size w w' := by
  have OF := hide (fun W => dof_any neg t ex W hs h1 h2)
  rw [ofD_fin neg _ ex hd] at OF
  obtain ⟨d, hdd⟩ : ∃ d, d = finD neg (decV (bys t)) ex := ⟨_, rfl⟩
  rw [← hdd] at OF h
  have MY := hide (fun W => dmay_d_no d W h)
  have TF : Hid (tellF neg (decV (bys t)) ex = (⟨0, false, [], 0⟩, 51)) := by rw [hdd] at h; exact tellF_no h
  clear hdd h hs h1 h2 hd
  obtain ⟨c, n, l, e⟩ := d
  unfold decVal at OF MY
  simp only at OF MY
  have Br0 := hide (Blk.newAt w (w.heap.size) (rfl) #[.int .i64 0, .bool false, .string ⟨#[]⟩, .int .i64 0] 23)
  have HB0 : Hid (Below w.heap.size w (w.alloc (.cells #[.int .i64 0, .bool false, .string ⟨#[]⟩, .int .i64 0] 23))) := ((Below.refl _ _).alloc (Nat.le_refl _) _)
  go_enter Tryz.func31, Tryz.ntmps31
  go_wp2_with fail
  refine (OF.out _).mono ?_
  rintro e w1 ⟨rfl, hb⟩
  have Br1 := hide (Br0.out.below hb Br0.out.lt)
  have HB1 := hide (HB0.out.trans (hb.mono HB0.out.size))
  clear hb Br0 HB0 
  have yr0 : w1.cell? ⟨w.heap.size, 0, none⟩ = some (.int .i64 0) := Br1.out.cell 0
  have yr1 : w1.cell? ⟨w.heap.size, 1, none⟩ = some (.bool false) := Br1.out.cell 1
  have yr2 : w1.cell? ⟨w.heap.size, 2, none⟩ = some (.string ⟨#[]⟩) := Br1.out.cell 2
  have yr3 : w1.cell? ⟨w.heap.size, 3, none⟩ = some (.int .i64 0) := Br1.out.cell 3
  go_wp2_with fail
  refine (MY.out _).mono ?_
  rintro e w2 ⟨rfl, hb⟩
  have Br2 := hide ((Br1.out.alloc (.cells #[.int .i64 (c : Int), .bool n, .string ⟨l.toArray⟩, .int .i64 e] 23)).below hb (Br1.out.alloc (.cells #[.int .i64 (c : Int), .bool n, .string ⟨l.toArray⟩, .int .i64 e] 23)).lt)
  have Bd2 := hide ((Blk.newAt w1 (w1.heap.size) (rfl) #[.int .i64 (c : Int), .bool n, .string ⟨l.toArray⟩, .int .i64 e] 23).below hb (Blk.newAt w1 (w1.heap.size) (rfl) #[.int .i64 (c : Int), .bool n, .string ⟨l.toArray⟩, .int .i64 e] 23).lt)
  have HB2 := hide ((HB1.out.alloc HB1.out.size _).trans (hb.mono (HB1.out.alloc HB1.out.size _).size))
  clear hb Br1 HB1 yr0 yr1 yr2 yr3
  have yr0 : w2.cell? ⟨w.heap.size, 0, none⟩ = some (.int .i64 0) := Br2.out.cell 0
  have yr1 : w2.cell? ⟨w.heap.size, 1, none⟩ = some (.bool false) := Br2.out.cell 1
  have yr2 : w2.cell? ⟨w.heap.size, 2, none⟩ = some (.string ⟨#[]⟩) := Br2.out.cell 2
  have yr3 : w2.cell? ⟨w.heap.size, 3, none⟩ = some (.int .i64 0) := Br2.out.cell 3
  have yd0 : w2.cell? ⟨w1.heap.size, 0, none⟩ = some (.int .i64 (c : Int)) := Bd2.out.cell 0
  have yd1 : w2.cell? ⟨w1.heap.size, 1, none⟩ = some (.bool n) := Bd2.out.cell 1
  have yd2 : w2.cell? ⟨w1.heap.size, 2, none⟩ = some (.string ⟨l.toArray⟩) := Bd2.out.cell 2
  have yd3 : w2.cell? ⟨w1.heap.size, 3, none⟩ = some (.int .i64 e) := Bd2.out.cell 3
  have fr0 := Br2.out.free 0
  have fr1 := Br2.out.free 1
  have fr2 := Br2.out.free 2
  have fr3 := Br2.out.free 3
  go_wp2
  refine bodyPost_ret (results_dec2 rfl _ _ _ _ _ _ _ rfl (Br2.out.put4 _ _ _ _)) rfl ?_
  exact ⟨by rw [TF.out]; rfl, below_put4 (HB2.out) (by omega) _ _ _ _⟩

theorem fin_any (neg : Bool) (t : ByteArray) (ex : Int) (w : World) (hs : t.size ≤ 281474976710656) (h1 : -100000000000000000 ≤ ex) (h2 : ex ≤ 100000000000000000) (hd : DigB (bys t)) : Calls Tryz.prog 31 #[.bool neg, .string t, .int .i64 ex] w fun e w' => e = .returned (decErr (tellF neg (decV (bys t)) ex)) ∧ Below w.heap.size w w' := by
  by_cases h : May (finD neg (decV (bys t)) ex)
  · exact fin_yes neg t ex w hs h1 h2 hd h
  · exact fin_no neg t ex w hs h1 h2 hd h

end Go.Proofs.YtifpacgacbpalaaGreatDoor

namespace Go.Proofs.YtifpacgacbpalaaGreatDoor
open Go.RowKit

/-- The text of a number's amount. -/
def amtT (c : Nat) (l : List UInt8) (e : Int) : List UInt8 := if c = 2 then [110, 97, 110] else if c = 1 then [105, 110, 102] else if l = [] then [48] else l ++ [101] ++ Lib.itoa e
def printT (d : DecT) : List UInt8 := if d.neg then 45 :: amtT d.cls d.dig d.exp else amtT d.cls d.dig d.exp

theorem itoa_len {e : Int} (h1 : -10000 ≤ e) (h2 : e ≤ 10000) : (Lib.itoa e).length ≤ 6 := by
  have h : ∀ n : Nat, n ≤ 10000 → (Lib.decDigits n).length ≤ 5 := fun n hn => sizeN_le (Nat.lt_of_le_of_lt hn (by decide)) (by omega)
  unfold Lib.itoa
  split
  · have := h e.natAbs (by omega); simp only [List.length_cons]; omega
  · have := h e.toNat (by omega); omega

theorem itoa_any (e : Int) (w : World) (h1 : -10000 ≤ e) (h2 : e ≤ 10000) (htab : Tab w) : Calls Tryz.prog 56 #[.int .i64 e] w fun e' w' => e' = .returned (.string ⟨(Lib.itoa e).toArray⟩) ∧ Below w.heap.size w w' := by
  refine (Tryz.strconv_Itoa e (by omega) (by omega) w htab).mono ?_
  rintro e' w' ⟨rfl, k, os, rfl⟩
  exact ⟨rfl, below_grow w k os⟩

set_option maxHeartbeats 1000000 in
theorem amount_nan (w : World) : Calls Tryz.prog 34 #[.agg #[.int .i64 2, .bool false, .string ⟨#[]⟩, .int .i64 0]] w fun e w' => e = .returned (.string ⟨#[110, 97, 110]⟩) ∧ Below w.heap.size w w' := by
  have Ba0 := hide (Blk.newAt w (w.heap.size) (rfl) #[.int .i64 2, .bool false, .string ⟨#[]⟩, .int .i64 0] 23)
  have HB0 : Hid (Below w.heap.size w (w.alloc (.cells #[.int .i64 2, .bool false, .string ⟨#[]⟩, .int .i64 0] 23))) := ((Below.refl _ _).alloc (Nat.le_refl _) _)
  go_enter Tryz.func34, Tryz.ntmps34
  go_wp2
  go_ret
  exact ⟨rfl, HB0.out⟩

set_option maxHeartbeats 1000000 in
theorem amount_inf (na : Bool) (w : World) : Calls Tryz.prog 34 #[.agg #[.int .i64 1, .bool na, .string ⟨#[]⟩, .int .i64 0]] w fun e w' => e = .returned (.string ⟨#[105, 110, 102]⟩) ∧ Below w.heap.size w w' := by
  have Ba0 := hide (Blk.newAt w (w.heap.size) (rfl) #[.int .i64 1, .bool na, .string ⟨#[]⟩, .int .i64 0] 23)
  have HB0 : Hid (Below w.heap.size w (w.alloc (.cells #[.int .i64 1, .bool na, .string ⟨#[]⟩, .int .i64 0] 23))) := ((Below.refl _ _).alloc (Nat.le_refl _) _)
  go_enter Tryz.func34, Tryz.ntmps34
  go_wp2
  go_ret
  exact ⟨rfl, HB0.out⟩

set_option maxHeartbeats 1000000 in
theorem amount_zero (na : Bool) (w : World) : Calls Tryz.prog 34 #[.agg #[.int .i64 0, .bool na, .string ⟨#[]⟩, .int .i64 0]] w fun e w' => e = .returned (.string ⟨#[48]⟩) ∧ Below w.heap.size w w' := by
  have Ba0 := hide (Blk.newAt w (w.heap.size) (rfl) #[.int .i64 0, .bool na, .string ⟨#[]⟩, .int .i64 0] 23)
  have HB0 : Hid (Below w.heap.size w (w.alloc (.cells #[.int .i64 0, .bool na, .string ⟨#[]⟩, .int .i64 0] 23))) := ((Below.refl _ _).alloc (Nat.le_refl _) _)
  go_enter Tryz.func34, Tryz.ntmps34
  go_wp2
  go_ret
  exact ⟨rfl, HB0.out⟩

set_option maxHeartbeats 1000000 in
theorem amount_fin (na : Bool) (ta : ByteArray) (ea : Int) (w : World) (h : ta.size ≠ 0) (b1 : ta.size ≤ 10000) (b2 : -10000 ≤ ea) (b3 : ea ≤ 10000) (htab : Tab w) : Calls Tryz.prog 34 #[dcV 0 na ta ea] w fun e w' => e = .returned (.string (ta ++ ⟨#[101]⟩ ++ ⟨(Lib.itoa ea).toArray⟩)) ∧ Below w.heap.size w w' := by
  have h2 := toList_ne h
  have IT := hide (fun W (hW : Tab W) => itoa_any ea W b2 b3 hW)
  have hil := itoa_len b2 b3
  obtain ⟨I, hI⟩ : ∃ I : ByteArray, I = ⟨(Lib.itoa ea).toArray⟩ := ⟨_, rfl⟩
  have hIs : I.size ≤ 6 := by rw [hI, size_mk0]; exact hil
  rw [← hI] at IT
  have HI := hide hI
  have HT := hide htab
  have s1 : ¬ 9223372036854775807 < ta.size + 1 := by omega
  have s2 : ¬ 9223372036854775807 < ta.size + 1 + I.size := by omega
  have s3 : (ta ++ ⟨#[101]⟩ : ByteArray).size = ta.size + 1 := by rw [ByteArray.size_append]; rfl
  clear h hil hI htab
  have Ba0 := hide (Blk.newAt w (w.heap.size) (rfl) #[.int .i64 0, .bool na, .string ta, .int .i64 ea] 23)
  have HB0 : Hid (Below w.heap.size w (w.alloc (.cells #[.int .i64 0, .bool na, .string ta, .int .i64 ea] 23))) := ((Below.refl _ _).alloc (Nat.le_refl _) _)
  have HTW := hide (HT.out.below HB0.out)
  obtain ⟨W, hW⟩ : ∃ W, W = (w.alloc (.cells #[.int .i64 0, .bool na, .string ta, .int .i64 ea] 23)) := ⟨_, rfl⟩
  rw [← hW] at HB0 Ba0 HTW
  have HW := hide hW
  clear hW
  have ya0 : W.cell? ⟨w.heap.size, 0, none⟩ = some (.int .i64 0) := Ba0.out.cell 0
  have ya1 : W.cell? ⟨w.heap.size, 1, none⟩ = some (.bool na) := Ba0.out.cell 1
  have ya2 : W.cell? ⟨w.heap.size, 2, none⟩ = some (.string ta) := Ba0.out.cell 2
  have ya3 : W.cell? ⟨w.heap.size, 3, none⟩ = some (.int .i64 ea) := Ba0.out.cell 3
  clear HT
  go_enter Tryz.func34, Tryz.ntmps34
  have b0 : Hid (Below W.heap.size W W.drew) := bdrewD W
  have C0 : Hid (∀ X, Hid (Below W.heap.size W X) → Calls Tryz.prog 56 #[.int .i64 ea] X fun e w' => e = .returned (.string I) ∧ Hid (Below W.heap.size W w') ∧ w'.cell? ⟨w.heap.size, 0, none⟩ = some (.int .i64 0) ∧ w'.cell? ⟨w.heap.size, 1, none⟩ = some (.bool na) ∧ w'.cell? ⟨w.heap.size, 2, none⟩ = some (.string ta) ∧ w'.cell? ⟨w.heap.size, 3, none⟩ = some (.int .i64 ea)) := by
    intro X bX
    refine (IT.out X (HTW.out.below bX.out)).mono ?_
    rintro e w' ⟨rfl, hb⟩
    have bb := bX.out.trans (hb.mono bX.out.size)
    have Baq := Ba0.out.below bb Ba0.out.lt
    exact ⟨rfl, bb, Baq.cell 0, Baq.cell 1, Baq.cell 2, Baq.cell 3⟩
  go_wp2_with fail
  simp only [← HW.out]
  have mk0 : True := trivial
  go_region_held3 (fun w' => w'.cell? ⟨w.heap.size, 0, none⟩ = some (.int .i64 0) ∧ w'.cell? ⟨w.heap.size, 1, none⟩ = some (.bool na) ∧ w'.cell? ⟨w.heap.size, 2, none⟩ = some (.string ta) ∧ w'.cell? ⟨w.heap.size, 3, none⟩ = some (.int .i64 ea)) (go_keep) (first
    | (clear mk0; go_at_call 56; refine (C0.out _ b0).mono ?_; rintro e w1 ⟨rfl, b1, q0_0, q0_1, q0_2, q0_3⟩; have mk1 : True := trivial))
  have Ba1 := hide (Ba0.out.below b1.out Ba0.out.lt)
  have HB1 := hide (HB0.out.trans (b1.out.mono HB0.out.size))
  clear mk1 b0 b1 C0 q0_0 q0_1 q0_2 q0_3 Ba0 HB0 ya0 ya1 ya2 ya3
  have ya0 : w1.cell? ⟨w.heap.size, 0, none⟩ = some (.int .i64 0) := Ba1.out.cell 0
  have ya1 : w1.cell? ⟨w.heap.size, 1, none⟩ = some (.bool na) := Ba1.out.cell 1
  have ya2 : w1.cell? ⟨w.heap.size, 2, none⟩ = some (.string ta) := Ba1.out.cell 2
  have ya3 : w1.cell? ⟨w.heap.size, 3, none⟩ = some (.int .i64 ea) := Ba1.out.cell 3
  go_wp2
  go_ret
  refine ⟨?_, HB1.out⟩
  rw [HI.out]
  rfl

set_option maxHeartbeats 1000000 in
theorem Print_no (ca : Int) (na : Bool) (ta : ByteArray) (ea : Int) (w : World) (h : ¬ MayD ca na (bys ta) ea) : Calls Tryz.prog 16 #[dcV ca na ta ea] w fun e w' => e = .returned (.tuple #[.string ⟨#[]⟩, .int .i64 52]) ∧ Below w.heap.size w w' := by
  have MY := hide (fun W => dmay_no ca na ta ea W h)
  clear h
  have Ba0 := hide (Blk.newAt w (w.heap.size) (rfl) #[.int .i64 ca, .bool na, .string ta, .int .i64 ea] 23)
  have HB0 : Hid (Below w.heap.size w (w.alloc (.cells #[.int .i64 ca, .bool na, .string ta, .int .i64 ea] 23))) := ((Below.refl _ _).alloc (Nat.le_refl _) _)
  go_enter Tryz.func16, Tryz.ntmps16
  go_wp2_with fail
  refine (MY.out _).mono ?_
  rintro e w1 ⟨rfl, hb⟩
  have Ba1 := hide (Ba0.out.below hb Ba0.out.lt)
  have HB1 := hide (HB0.out.trans (hb.mono HB0.out.size))
  clear hb Ba0 HB0 
  have ya0 : w1.cell? ⟨w.heap.size, 0, none⟩ = some (.int .i64 ca) := Ba1.out.cell 0
  have ya1 : w1.cell? ⟨w.heap.size, 1, none⟩ = some (.bool na) := Ba1.out.cell 1
  have ya2 : w1.cell? ⟨w.heap.size, 2, none⟩ = some (.string ta) := Ba1.out.cell 2
  have ya3 : w1.cell? ⟨w.heap.size, 3, none⟩ = some (.int .i64 ea) := Ba1.out.cell 3
  go_wp2
  go_ret2
  exact ⟨rfl, HB1.out⟩

set_option maxHeartbeats 1000000 in
theorem Print_true (ca : Int) (ta : ByteArray) (ea : Int) (T : ByteArray) (w : World) (hT : T.size ≤ 100000) (h : MayD ca true (bys ta) ea) (htab : Tab w) (AM : ∀ W, Tab W → Calls Tryz.prog 34 #[dcV ca true ta ea] W fun e w' => e = .returned (.string T) ∧ Below W.heap.size W w') : Calls Tryz.prog 16 #[dcV ca true ta ea] w fun e w' => e = .returned (.tuple #[.string (⟨#[45]⟩ ++ T), .int .i64 0]) ∧ Below w.heap.size w w' := by
  have MY := hide (fun W => dmay_yes ca true ta ea W h)
  have A := hide AM
  have HT := hide htab
  have s1 : ¬ 9223372036854775807 < 1 + T.size := by omega
  clear h AM htab
  have Ba0 := hide (Blk.newAt w (w.heap.size) (rfl) #[.int .i64 ca, .bool true, .string ta, .int .i64 ea] 23)
  have HB0 : Hid (Below w.heap.size w (w.alloc (.cells #[.int .i64 ca, .bool true, .string ta, .int .i64 ea] 23))) := ((Below.refl _ _).alloc (Nat.le_refl _) _)
  go_enter Tryz.func16, Tryz.ntmps16
  go_wp2_with fail
  refine (MY.out _).mono ?_
  rintro e w1 ⟨rfl, hb⟩
  have Ba1 := hide (Ba0.out.below hb Ba0.out.lt)
  have HB1 := hide (HB0.out.trans (hb.mono HB0.out.size))
  clear hb Ba0 HB0 
  have ya0 : w1.cell? ⟨w.heap.size, 0, none⟩ = some (.int .i64 ca) := Ba1.out.cell 0
  have ya1 : w1.cell? ⟨w.heap.size, 1, none⟩ = some (.bool true) := Ba1.out.cell 1
  have ya2 : w1.cell? ⟨w.heap.size, 2, none⟩ = some (.string ta) := Ba1.out.cell 2
  have ya3 : w1.cell? ⟨w.heap.size, 3, none⟩ = some (.int .i64 ea) := Ba1.out.cell 3
  go_wp2_with fail
  refine (A.out _ (HT.out.below HB1.out)).mono ?_
  rintro e w2 ⟨rfl, hb⟩
  have Ba2 := hide (Ba1.out.below hb Ba1.out.lt)
  have HB2 := hide (HB1.out.trans (hb.mono HB1.out.size))
  clear hb Ba1 HB1 ya0 ya1 ya2 ya3
  have ya0 : w2.cell? ⟨w.heap.size, 0, none⟩ = some (.int .i64 ca) := Ba2.out.cell 0
  have ya1 : w2.cell? ⟨w.heap.size, 1, none⟩ = some (.bool true) := Ba2.out.cell 1
  have ya2 : w2.cell? ⟨w.heap.size, 2, none⟩ = some (.string ta) := Ba2.out.cell 2
  have ya3 : w2.cell? ⟨w.heap.size, 3, none⟩ = some (.int .i64 ea) := Ba2.out.cell 3
  go_wp2
  go_ret2
  exact ⟨rfl, HB2.out⟩

set_option maxHeartbeats 1000000 in
theorem Print_false (ca : Int) (ta : ByteArray) (ea : Int) (T : ByteArray) (w : World) (hT : T.size ≤ 100000) (h : MayD ca false (bys ta) ea) (htab : Tab w) (AM : ∀ W, Tab W → Calls Tryz.prog 34 #[dcV ca false ta ea] W fun e w' => e = .returned (.string T) ∧ Below W.heap.size W w') : Calls Tryz.prog 16 #[dcV ca false ta ea] w fun e w' => e = .returned (.tuple #[.string T, .int .i64 0]) ∧ Below w.heap.size w w' := by
  have MY := hide (fun W => dmay_yes ca false ta ea W h)
  have A := hide AM
  have HT := hide htab
  have s1 : ¬ 9223372036854775807 < 1 + T.size := by omega
  clear h AM htab
  have Ba0 := hide (Blk.newAt w (w.heap.size) (rfl) #[.int .i64 ca, .bool false, .string ta, .int .i64 ea] 23)
  have HB0 : Hid (Below w.heap.size w (w.alloc (.cells #[.int .i64 ca, .bool false, .string ta, .int .i64 ea] 23))) := ((Below.refl _ _).alloc (Nat.le_refl _) _)
  go_enter Tryz.func16, Tryz.ntmps16
  go_wp2_with fail
  refine (MY.out _).mono ?_
  rintro e w1 ⟨rfl, hb⟩
  have Ba1 := hide (Ba0.out.below hb Ba0.out.lt)
  have HB1 := hide (HB0.out.trans (hb.mono HB0.out.size))
  clear hb Ba0 HB0 
  have ya0 : w1.cell? ⟨w.heap.size, 0, none⟩ = some (.int .i64 ca) := Ba1.out.cell 0
  have ya1 : w1.cell? ⟨w.heap.size, 1, none⟩ = some (.bool false) := Ba1.out.cell 1
  have ya2 : w1.cell? ⟨w.heap.size, 2, none⟩ = some (.string ta) := Ba1.out.cell 2
  have ya3 : w1.cell? ⟨w.heap.size, 3, none⟩ = some (.int .i64 ea) := Ba1.out.cell 3
  go_wp2_with fail
  refine (A.out _ (HT.out.below HB1.out)).mono ?_
  rintro e w2 ⟨rfl, hb⟩
  have Ba2 := hide (Ba1.out.below hb Ba1.out.lt)
  have HB2 := hide (HB1.out.trans (hb.mono HB1.out.size))
  clear hb Ba1 HB1 ya0 ya1 ya2 ya3
  have ya0 : w2.cell? ⟨w.heap.size, 0, none⟩ = some (.int .i64 ca) := Ba2.out.cell 0
  have ya1 : w2.cell? ⟨w.heap.size, 1, none⟩ = some (.bool false) := Ba2.out.cell 1
  have ya2 : w2.cell? ⟨w.heap.size, 2, none⟩ = some (.string ta) := Ba2.out.cell 2
  have ya3 : w2.cell? ⟨w.heap.size, 3, none⟩ = some (.int .i64 ea) := Ba2.out.cell 3
  go_wp2
  go_ret2
  exact ⟨rfl, HB2.out⟩

theorem amount_d (d : DecT) (h : May d) : ∃ T : ByteArray, bys T = amtT d.cls d.dig d.exp ∧ T.size ≤ 100000 ∧ ∀ W, Tab W → Calls Tryz.prog 34 #[decVal d] W fun e w' => e = .returned (.string T) ∧ Below W.heap.size W w' := by
  rcases may_cases h with ⟨n, rfl⟩ | h | ⟨n, rfl⟩ | rfl
  · exact ⟨⟨#[48]⟩, rfl, by decide, fun W _ => amount_zero n W⟩
  · have h1 : (⟨d.dig.toArray⟩ : ByteArray).size = d.dig.length := size_mk0 _
    have h2 := List.length_pos_iff.2 h.ne
    have h3 := h.len
    have h4 := h.lo
    have h5 := h.hi
    have h6 := itoa_len (e := d.exp) (by omega) (by omega)
    refine ⟨⟨d.dig.toArray⟩ ++ ⟨#[101]⟩ ++ ⟨(Lib.itoa d.exp).toArray⟩, ?_, ?_, fun W hW => ?_⟩
    · rw [bys_append, bys_append, bys_mk, bys_mk]
      unfold amtT
      rw [h.cls, if_neg (by omega), if_neg (by omega), if_neg h.ne]
      rfl
    · have h7 : (⟨(Lib.itoa d.exp).toArray⟩ : ByteArray).size = (Lib.itoa d.exp).length := size_mk0 _
      have h8 : (⟨#[101]⟩ : ByteArray).size = 1 := rfl
      rw [ByteArray.size_append, ByteArray.size_append, h1, h7, h8]
      omega
    · have g := amount_fin d.neg ⟨d.dig.toArray⟩ d.exp W (by rw [h1]; omega) (by rw [h1]; omega) (by omega) (by omega) hW
      unfold decVal
      rw [h.cls]
      exact g
  · exact ⟨⟨#[105, 110, 102]⟩, rfl, by decide, fun W _ => amount_inf n W⟩
  · exact ⟨⟨#[110, 97, 110]⟩, rfl, by decide, fun W _ => amount_nan W⟩

theorem Print_d (d : DecT) (w : World) (h : May d) (htab : Tab w) : Calls Tryz.prog 16 #[decVal d] w fun e w' => e = .returned (.tuple #[.string ⟨(printT d).toArray⟩, .int .i64 0]) ∧ Below w.heap.size w w' := by
  obtain ⟨T, h1, h2, h3⟩ := amount_d d h
  have e1 : (⟨(amtT d.cls d.dig d.exp).toArray⟩ : ByteArray) = T := by rw [← h1, mk_bys]
  obtain ⟨c, n, l, e⟩ := d
  unfold printT
  have hm : MayD (c : Int) n (bys ⟨l.toArray⟩) e := by rw [bys_mk]; exact h
  simp only at e1 ⊢
  cases n
  · simp only [Bool.false_eq_true, if_false]
    rw [e1]
    exact Print_false (c : Int) ⟨l.toArray⟩ e T w h2 hm htab h3
  · simp only [if_true]
    have e2 : (⟨(45 :: amtT c l e).toArray⟩ : ByteArray) = ⟨#[45]⟩ ++ T := by
      rw [← mk_bys (⟨#[45]⟩ ++ T), bys_append, h1]; rfl
    rw [e2]
    exact Print_true (c : Int) ⟨l.toArray⟩ e T w h2 hm htab h3

theorem dcV_d (c : Int) (n : Bool) (t : ByteArray) (e : Int) (hc : 0 ≤ c) : dcV c n t e = decVal ⟨c.toNat, n, bys t, e⟩ := by
  unfold decVal
  simp only
  rw [mk_bys, Int.toNat_of_nonneg hc]

theorem mayD_nn {c : Int} {n : Bool} {l : List UInt8} {e : Int} (h : MayD c n l e) : 0 ≤ c := by
  rcases h with ⟨h, _⟩ | ⟨h, _⟩ | ⟨h, _⟩ <;> omega

theorem mayD_d {c : Int} {n : Bool} {l : List UInt8} {e : Int} (h : MayD c n l e) : May ⟨c.toNat, n, l, e⟩ := by
  unfold May
  simp only
  rw [Int.toNat_of_nonneg (mayD_nn h)]
  exact h

end Go.Proofs.YtifpacgacbpalaaGreatDoor

namespace Go.Proofs.YtifpacgacbpalaaGreatDoor

def isDg (b : UInt8) : Bool := decide (48 ≤ b.toNat ∧ b.toNat ≤ 57)

/-- The digits that a text begins with, and what comes behind them. -/
def dgs (l : List UInt8) : List UInt8 := l.takeWhile isDg
def aft (l : List UInt8) : List UInt8 := l.dropWhile isDg

theorem dgs_aft (l : List UInt8) : dgs l ++ aft l = l := List.takeWhile_append_dropWhile
theorem dgs_len (l : List UInt8) : (dgs l).length ≤ l.length := by
  have := congrArg List.length (dgs_aft l)
  rw [List.length_append] at this; omega
theorem dgs_take (l : List UInt8) : l.take (dgs l).length = dgs l := by
  have h := congrArg (List.take (dgs l).length) (dgs_aft l)
  rw [List.take_left' rfl] at h; exact h.symm
theorem dgs_drop (l : List UInt8) : l.drop (dgs l).length = aft l := by
  have h := congrArg (List.drop (dgs l).length) (dgs_aft l)
  rw [List.drop_left' rfl] at h; exact h.symm

theorem dgs_digB : ∀ l : List UInt8, DigB (dgs l)
  | [] => fun k hk => by simp [dgs] at hk
  | b :: t => by
    unfold dgs
    by_cases h : isDg b = true
    · rw [List.takeWhile_cons_of_pos h]
      intro k hk
      rcases k with _ | k
      · rw [byt_cons0]; exact of_decide_eq_true h
      · rw [byt_consS]
        exact dgs_digB t k (by unfold dgs; simpa using hk)
    · rw [List.takeWhile_cons_of_neg h]
      intro k hk; simp at hk

/-- The byte behind the digits is none. -/
theorem dgs_stop : ∀ l : List UInt8, (dgs l).length < l.length → ¬ (48 ≤ byt l (dgs l).length ∧ byt l (dgs l).length ≤ 57)
  | [], h => by simp at h
  | b :: t, h => by
    unfold dgs at *
    by_cases hb : isDg b = true
    · rw [List.takeWhile_cons_of_pos hb] at *
      simp only [List.length_cons] at *
      rw [byt_consS]
      exact dgs_stop t (by unfold dgs; omega)
    · rw [List.takeWhile_cons_of_neg hb]
      simp only [List.length_nil]
      rw [byt_cons0]
      exact fun e => hb (decide_eq_true e)

theorem dgs_at (l : List UInt8) {k : Nat} (h : k < (dgs l).length) : 48 ≤ byt l k ∧ byt l k ≤ 57 := by
  have h1 := dgs_digB l k h
  have h2 := byt_append_left (dgs l) (aft l) h
  rw [dgs_aft] at h2
  rwa [h2]

theorem dgs_all {l : List UInt8} (h : DigB l) : dgs l = l ∧ aft l = [] := by
  have h1 : (dgs l).length = l.length := by
    rcases Nat.lt_or_ge (dgs l).length l.length with e | e
    · exact absurd (h _ e) (dgs_stop l e)
    · have := dgs_len l; omega
  have h2 := dgs_take l
  have h3 := dgs_drop l
  rw [h1, List.take_length] at h2
  rw [h1, List.drop_length] at h3
  exact ⟨h2.symm, h3.symm⟩

theorem dgs_append {a b : List UInt8} (ha : DigB a) (hb : b = [] ∨ ¬ (48 ≤ byt b 0 ∧ byt b 0 ≤ 57)) : dgs (a ++ b) = a ∧ aft (a ++ b) = b := by
  induction a with
  | nil =>
    rcases hb with rfl | hb
    · exact ⟨rfl, rfl⟩
    · cases b with
      | nil => exact ⟨rfl, rfl⟩
      | cons x t =>
        rw [byt_cons0] at hb
        have : ¬ isDg x = true := fun e => hb (of_decide_eq_true e)
        unfold dgs aft
        rw [List.nil_append, List.takeWhile_cons_of_neg this, List.dropWhile_cons_of_neg this]
        exact ⟨rfl, rfl⟩
  | cons x t ih =>
    have h1 : isDg x = true := decide_eq_true ha.head
    obtain ⟨i1, i2⟩ := ih ha.tail
    unfold dgs aft at *
    rw [List.cons_append, List.takeWhile_cons_of_pos h1, List.dropWhile_cons_of_pos h1, i1, i2]
    exact ⟨rfl, rfl⟩

/-- A text without a sign ahead. -/
def unsg : List UInt8 → List UInt8
  | [] => []
  | b :: t => if b = 45 ∨ b = 43 then t else b :: t

/-- What digits with a sign ahead say. -/
def powV (l : List UInt8) : Int := if l.head? = some 45 then -(decV (unsg l) : Int) else (decV (unsg l) : Int)

theorem decFrom_val : ∀ (l : List UInt8) (a : Nat), DigB l → Lib.decFrom a l = some (a * 10 ^ l.length + decV l)
  | [], a, _ => by simp [Lib.decFrom, decV]
  | b :: t, a, h => by
    have hb := h.head
    rw [Lib.decFrom, show Lib.digitVal b = some (b.toNat - 48) by unfold Lib.digitVal; rw [if_pos hb]]
    simp only
    rw [decFrom_val t _ h.tail, decV_cons, List.length_cons]
    congr 1
    rw [Nat.add_mul, Nat.mul_assoc, Nat.pow_succ]
    have : 10 * 10 ^ t.length = 10 ^ t.length * 10 := Nat.mul_comm _ _
    rw [this]; omega

theorem decNat_val {l : List UInt8} (h0 : l ≠ []) (h : DigB l) : Lib.decNat l = some (decV l) := by
  unfold Lib.decNat
  have : l.isEmpty = false := by simpa using h0
  rw [this, decFrom_val l 0 h]
  simp

theorem atoi_val {l : List UInt8} (h0 : dgs (unsg l) ≠ []) (h1 : aft (unsg l) = []) : Lib.atoi l = some (powV l) := by
  have h2 : dgs (unsg l) = unsg l := by have := dgs_aft (unsg l); rwa [h1, List.append_nil] at this
  have hd : DigB (unsg l) := by rw [← h2]; exact dgs_digB _
  rw [h2] at h0
  cases l with
  | nil => exact absurd rfl h0
  | cons b t =>
    by_cases e1 : b = 45
    · subst e1
      have e : unsg (45 :: t) = t := rfl
      rw [e] at h0 hd
      unfold powV Lib.atoi
      rw [e]
      simp [decNat_val h0 hd]
    · by_cases e2 : b = 43
      · subst e2
        have e : unsg (43 :: t) = t := rfl
        rw [e] at h0 hd
        unfold powV Lib.atoi
        rw [e]
        simp [decNat_val h0 hd]
      · have e : unsg (b :: t) = b :: t := by simp [unsg, e1, e2]
        rw [e] at h0 hd
        unfold powV Lib.atoi
        rw [e]
        simp [e1, e2, decNat_val h0 hd]

/-- What the parts of a text of a number say: the sign, the digits ahead of the point and behind it, the exponent; none: it is no text of a number. -/
structure Parts where
  neg : Bool
  ahead : List UInt8
  behind : List UInt8
  pow : Int

def p1 (s : List UInt8) : List UInt8 := Lib.trimPrefix s [45]
def p2 (s : List UInt8) : List UInt8 := aft (p1 s)
def pDot (s : List UInt8) : Bool := Lib.hasPrefix (p2 s) [46]
def pAhead (s : List UInt8) : List UInt8 := dgs (p1 s)
def pBehind (s : List UInt8) : List UInt8 := if pDot s then dgs (Lib.trimPrefix (p2 s) [46]) else []
def p3 (s : List UInt8) : List UInt8 := if pDot s then aft (Lib.trimPrefix (p2 s) [46]) else p2 s
def p4 (s : List UInt8) : List UInt8 := (p3 s).drop 1

def parseT (s : List UInt8) : Option Parts :=
  if pAhead s = [] ∧ pBehind s = [] then none
  else if p3 s = [] then some ⟨Lib.hasPrefix s [45], pAhead s, pBehind s, 0⟩
  else if ¬ (byt (p3 s) 0 = 101 ∨ byt (p3 s) 0 = 69) then none
  else if dgs (unsg (p4 s)) = [] ∨ 5 < (dgs (unsg (p4 s))).length ∨ aft (unsg (p4 s)) ≠ [] then none
  else some ⟨Lib.hasPrefix s [45], pAhead s, pBehind s, powV (p4 s)⟩

end Go.Proofs.YtifpacgacbpalaaGreatDoor

namespace Go.Proofs.YtifpacgacbpalaaGreatDoor
open Go.RowKit

theorem hp_one (l : List UInt8) (c : UInt8) : Lib.hasPrefix l [c] = decide (l.head? = some c) := by
  unfold Lib.hasPrefix
  cases l with
  | nil => rfl
  | cons b t =>
    by_cases h : b = c
    · subst h; simp
    · have h' : ¬ c = b := fun e => h e.symm
      show (c == b && List.isPrefixOf [] t) = _
      simp [h, h']

theorem head_pos {l : List UInt8} {c : UInt8} (h : l.head? = some c) : 0 < l.length := by
  cases l with
  | nil => simp at h
  | cons b t => simp

theorem unsg_drop {l : List UInt8} (h : l.head? = some 45 ∨ l.head? = some 43) : unsg l = l.drop 1 := by
  cases l with
  | nil => rfl
  | cons b t => simp at h; simp [unsg, h]

theorem unsg_same {l : List UInt8} (h1 : ¬ l.head? = some 45) (h2 : ¬ l.head? = some 43) : unsg l = l := by
  cases l with
  | nil => rfl
  | cons b t => simp at h1 h2; simp [unsg, h1, h2]

set_option maxHeartbeats 1000000 in
theorem dcut_any (s : ByteArray) (w : World) (hs : s.size ≤ 281474976710656) :
    Calls Tryz.prog 51 #[.string s] w fun e w' => e = .returned (.tuple #[.string ⟨(dgs (bys s)).toArray⟩, .string ⟨(aft (bys s)).toArray⟩]) ∧ Below w.heap.size w w' := by
  have H1 := hide (fun (k : Nat) (h : k < (dgs (bys s)).length) => dgs_at (bys s) h)
  have H2 := hide (dgs_stop (bys s))
  have H3 := hide (dgs_take (bys s))
  have H4 := hide (dgs_drop (bys s))
  have hle := dgs_len (bys s)
  rw [bys_len] at hle H2
  obtain ⟨n, hn⟩ : ∃ n, n = (dgs (bys s)).length := ⟨_, rfl⟩
  rw [← hn] at hle H1 H2 H3 H4
  obtain ⟨A, hA⟩ : ∃ A : ByteArray, A = ⟨(dgs (bys s)).toArray⟩ := ⟨_, rfl⟩
  obtain ⟨B, hB⟩ : ∃ B : ByteArray, B = ⟨(aft (bys s)).toArray⟩ := ⟨_, rfl⟩
  have HA : Hid (s.extract 0 n = A) := by rw [hA, ← H3.out, Lib.extract_upto]; rfl
  have HB : Hid (s.extract n s.size = B) := by rw [hB, ← H4.out, Lib.extract_from]; rfl
  rw [← hA, ← hB]
  clear hn hA hB H3 H4
  go_enter Tryz.func51, Tryz.ntmps51
  go_wp2
  go_loopw [4] (fun i wr => ∃ k : Nat, k ≤ n ∧ i = .int .i64 (k : Int) ∧ wr = w) (fun i _ => n - (intOf i).toNat)
  case atStart => exact ⟨0, Nat.zero_le _, rfl, rfl⟩
  case round =>
    obtain ⟨k, hk, rfl, rfl⟩ := hrel
    by_cases hlt : k < n
    · have hlt' : (k : Int) < (s.size : Int) := by omega
      have hks : k < s.size := by omega
      have hg : ∀ h : k < s.size, s[k].toNat = byt (bys s) k := fun h => byt_get s k h
      have hb := H1.out k hlt
      obtain ⟨b, hbb⟩ : ∃ b, b = byt (bys s) k := ⟨_, rfl⟩
      rw [← hbb] at hg hb
      have h1' : decide ((48 : Int) ≤ (b : Int)) = true := decide_eq_true (by omega)
      have h2' : decide ((b : Int) ≤ 57) = true := decide_eq_true (by omega)
      have h1'' : (48 : Int) ≤ (b : Int) := by omega
      have h2'' : (b : Int) ≤ 57 := by omega
      clear hbb
      go_wp2
      exact ⟨⟨k + 1, by omega, by go_num, trivial⟩, by simp [intOf]; omega⟩
    · have hkn : k = n := by omega
      by_cases hend : k < s.size
      · have hlt' : (k : Int) < (s.size : Int) := by omega
        have hg : ∀ h : k < s.size, s[k].toNat = byt (bys s) k := fun h => byt_get s k h
        have hb := H2.out (by omega)
        rw [← hkn] at hb
        obtain ⟨b, hbb⟩ : ∃ b, b = byt (bys s) k := ⟨_, rfl⟩
        rw [← hbb] at hg hb
        rw [← hkn] at HA HB
        clear hbb hkn hlt
        by_cases h1 : 48 ≤ b
        · have h1'' : (48 : Int) ≤ (b : Int) := by omega
          have h2'' : ¬ (b : Int) ≤ 57 := by omega
          go_wp2
          go_region
          go_wp2
          go_ret2
          rw [HA.out, HB.out]
          exact ⟨rfl, (Below.refl _ _).drew⟩
        · have h1'' : ¬ (48 : Int) ≤ (b : Int) := by omega
          go_wp2
          go_region
          go_wp2
          go_ret2
          rw [HA.out, HB.out]
          exact ⟨rfl, (Below.refl _ _).drew⟩
      · have hlt' : ¬ (k : Int) < (s.size : Int) := by omega
        rw [← hkn] at HA HB
        clear hkn hlt
        go_wp2
        go_region
        go_wp2
        go_ret2
        rw [HA.out, HB.out]
        exact ⟨rfl, (Below.refl _ _).drew⟩

set_option maxHeartbeats 1000000 in
theorem unsigned_any (s : ByteArray) (w : World) :
    Calls Tryz.prog 52 #[.string s] w fun e w' => e = .returned (.string ⟨(unsg (bys s)).toArray⟩) ∧ w = w' := by
  have P1 := hide (fun W => Tryz.strings_HasPrefix s ⟨#[45]⟩ W)
  have P2 := hide (fun W => Tryz.strings_HasPrefix s ⟨#[43]⟩ W)
  have hp1 : Lib.hasPrefix s.data.toList [45] = decide ((bys s).head? = some 45) := hp_one (bys s) 45
  have hp2 : Lib.hasPrefix s.data.toList [43] = decide ((bys s).head? = some 43) := hp_one (bys s) 43
  have e1 : (⟨#[45]⟩ : ByteArray).data.toList = [45] := rfl
  have e2 : (⟨#[43]⟩ : ByteArray).data.toList = [43] := rfl
  rw [e1, hp1] at P1
  rw [e2, hp2] at P2
  clear hp1 hp2 e1 e2
  by_cases h1 : (bys s).head? = some 45
  · rw [decide_eq_true h1] at P1
    have HU : Hid (s.extract 1 s.size = ⟨(unsg (bys s)).toArray⟩) := by rw [Lib.extract_from]; rw [unsg_drop (.inl h1)]; rfl
    have hs : (1 : Int) ≤ (s.size : Int) := by have := head_pos h1; rw [bys_len] at this; omega
    clear h1 P2
    go_enter Tryz.func52, Tryz.ntmps52
    go_wp2_with fail
    refine (P1.out _).mono ?_
    rintro e w' ⟨rfl, rfl⟩
    go_wp2
    go_ret
    rw [HU.out]
    exact ⟨rfl, rfl⟩
  · rw [decide_eq_false h1] at P1
    by_cases h2 : (bys s).head? = some 43
    · rw [decide_eq_true h2] at P2
      have HU : Hid (s.extract 1 s.size = ⟨(unsg (bys s)).toArray⟩) := by rw [Lib.extract_from]; rw [unsg_drop (.inr h2)]; rfl
      have hs : (1 : Int) ≤ (s.size : Int) := by have := head_pos h2; rw [bys_len] at this; omega
      clear h1 h2
      go_enter Tryz.func52, Tryz.ntmps52
      go_wp2_with fail
      refine (P1.out _).mono ?_
      rintro e w' ⟨rfl, rfl⟩
      go_wp2_with fail
      refine (P2.out _).mono ?_
      rintro e w' ⟨rfl, rfl⟩
      go_wp2
      go_ret
      rw [HU.out]
      exact ⟨rfl, rfl⟩
    · rw [decide_eq_false h2] at P2
      have HU : Hid (s = ⟨(unsg (bys s)).toArray⟩) := by rw [unsg_same h1 h2]; exact (mk_bys s).symm
      clear h1 h2
      go_enter Tryz.func52, Tryz.ntmps52
      go_wp2_with fail
      refine (P1.out _).mono ?_
      rintro e w' ⟨rfl, rfl⟩
      go_wp2_with fail
      refine (P2.out _).mono ?_
      rintro e w' ⟨rfl, rfl⟩
      go_wp2
      go_ret
      rw [← HU.out]
      exact ⟨rfl, rfl⟩

end Go.Proofs.YtifpacgacbpalaaGreatDoor
