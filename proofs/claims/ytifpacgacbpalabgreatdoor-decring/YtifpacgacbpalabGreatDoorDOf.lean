/-
  What decform's Of and dec's finite do.
-/
import Derived.Test.YtifpacgacbpalabGreatDoorDSmall
import Derived.Test.YtifpacgacbpalabGreatDoorShelf
namespace Go.Proofs.YtifpacgacbpalabGreatDoor
open Go.RowKit

theorem bys_mk (l : List UInt8) : bys ⟨l.toArray⟩ = l := by simp [bys]
theorem mk_bys (t : ByteArray) : (⟨(bys t).toArray⟩ : ByteArray) = t := by cases t; simp [bys]
theorem size_mk0 (l : List UInt8) : (⟨l.toArray⟩ : ByteArray).size = l.length := by simp [ByteArray.size]

theorem cut0_len (l : List UInt8) : (cut0 l).length ≤ l.length := by
  unfold cut0 Lib.trimRightB
  rw [List.length_reverse]
  have := (List.dropWhile_sublist (p := (· == (48 : UInt8))) (l := l.reverse)).length_le
  rw [List.length_reverse] at this
  exact this

set_option maxHeartbeats 1000000 in
theorem dof_nil (neg : Bool) (t : ByteArray) (ex : Int) (w : World) (hs : t.size ≤ 281474976710656) (h1 : -100000000000000000 ≤ ex) (h2 : ex ≤ 100000000000000000) (h : mid0 (bys t) = []) : Calls Tryz.prog 36 #[.bool neg, .string t, .int .i64 ex] w fun e w' => e = .returned (decVal (ofD neg (bys t) ex)) ∧ Below w.heap.size w w' := by
  have TR := hide (fun W => Tryz.strings_TrimRight_one t 48 (by decide) W (by omega))
  have TL := hide (fun W => Tryz.strings_TrimLeft_one ⟨(cut0 (bys t)).toArray⟩ 48 (by decide) W)
  have hl1 := cut0_len (bys t)
  rw [bys_len] at hl1
  have hsz : (⟨(cut0 (bys t)).toArray⟩ : ByteArray).size = (cut0 (bys t)).length := size_mk0 _
  have HM : Hid (mid0 (bys t) = Lib.trimLeftB (cut0 (bys t)) 48) := rfl
  obtain ⟨C, hC⟩ : ∃ C : ByteArray, C = ⟨(cut0 (bys t)).toArray⟩ := ⟨_, rfl⟩
  obtain ⟨m, hm⟩ : ∃ m, m = (cut0 (bys t)).length := ⟨_, rfl⟩
  have TR' : Hid (∀ W, Calls Tryz.prog 52 #[.string t, .string ⟨#[48]⟩] W fun e w' => e = .returned (.string C) ∧ w' = W) := by rw [hC]; exact TR.out
  have TL' : Hid (∀ W, Calls Tryz.prog 53 #[.string C, .string ⟨#[48]⟩] W fun e w' => e = .returned (.string ⟨(mid0 (bys t)).toArray⟩) ∧ w' = W) := by rw [hC]; exact TL.out
  rw [← hC, ← hm] at hsz
  rw [← hm] at hl1
  obtain ⟨D, hD⟩ : ∃ D : ByteArray, D = ⟨(mid0 (bys t)).toArray⟩ := ⟨_, rfl⟩
  rw [← hD] at TL'
  have hDs : D.size = (mid0 (bys t)).length := by rw [hD]; exact size_mk0 _
  have hD0 : D = ⟨#[]⟩ := by rw [hD, h]
  subst hD0
  clear TR TL HM hD hDs hC hm
  have Br0 := hide (Blk.newAt w (w.heap.size) (rfl) #[.int .i64 0, .bool false, .string ⟨#[]⟩, .int .i64 0] 23)
  have HB0 : Hid (Below w.heap.size w (w.alloc (.cells #[.int .i64 0, .bool false, .string ⟨#[]⟩, .int .i64 0] 23))) := ((Below.refl _ _).alloc (Nat.le_refl _) _)
  go_enter Tryz.func36, Tryz.ntmps36
  go_wp2_with fail
  refine (TR'.out _).mono ?_
  rintro e w1 ⟨rfl, rfl⟩
  go_wp2_with fail
  refine (TL'.out _).mono ?_
  rintro e w1 ⟨rfl, rfl⟩
  go_wp2
  refine bodyPost_ret (results_dec rfl _ _ _ _ _ _ _ rfl (Blk.new _ _ _)) rfl ?_
  exact ⟨by unfold ofD decVal; rw [if_pos h]; rfl, (Below.refl _ _).alloc (Nat.le_refl _) _⟩

set_option maxHeartbeats 1000000 in
theorem dof_some (neg : Bool) (t : ByteArray) (ex : Int) (w : World) (hs : t.size ≤ 281474976710656) (h1 : -100000000000000000 ≤ ex) (h2 : ex ≤ 100000000000000000) (h : mid0 (bys t) ≠ []) : Calls Tryz.prog 36 #[.bool neg, .string t, .int .i64 ex] w fun e w' => e = .returned (decVal (ofD neg (bys t) ex)) ∧ Below w.heap.size w w' := by
  have TR := hide (fun W => Tryz.strings_TrimRight_one t 48 (by decide) W (by omega))
  have TL := hide (fun W => Tryz.strings_TrimLeft_one ⟨(cut0 (bys t)).toArray⟩ 48 (by decide) W)
  have hl1 := cut0_len (bys t)
  rw [bys_len] at hl1
  have hsz : (⟨(cut0 (bys t)).toArray⟩ : ByteArray).size = (cut0 (bys t)).length := size_mk0 _
  have HM : Hid (mid0 (bys t) = Lib.trimLeftB (cut0 (bys t)) 48) := rfl
  obtain ⟨C, hC⟩ : ∃ C : ByteArray, C = ⟨(cut0 (bys t)).toArray⟩ := ⟨_, rfl⟩
  obtain ⟨m, hm⟩ : ∃ m, m = (cut0 (bys t)).length := ⟨_, rfl⟩
  have TR' : Hid (∀ W, Calls Tryz.prog 52 #[.string t, .string ⟨#[48]⟩] W fun e w' => e = .returned (.string C) ∧ w' = W) := by rw [hC]; exact TR.out
  have TL' : Hid (∀ W, Calls Tryz.prog 53 #[.string C, .string ⟨#[48]⟩] W fun e w' => e = .returned (.string ⟨(mid0 (bys t)).toArray⟩) ∧ w' = W) := by rw [hC]; exact TL.out
  rw [← hC, ← hm] at hsz
  rw [← hm] at hl1
  obtain ⟨D, hD⟩ : ∃ D : ByteArray, D = ⟨(mid0 (bys t)).toArray⟩ := ⟨_, rfl⟩
  rw [← hD] at TL'
  have hDs : D.size = (mid0 (bys t)).length := by rw [hD]; exact size_mk0 _
  have hD0 : D.size ≠ 0 := by rw [hDs]; exact fun e => h (List.length_eq_zero_iff.1 e)
  have hD1 := toList_ne hD0
  have HDD := hide hD
  have HMM := hide hm
  clear TR TL HM hD hDs hC hD0 hm
  have Br0 := hide (Blk.newAt w (w.heap.size) (rfl) #[.int .i64 0, .bool false, .string ⟨#[]⟩, .int .i64 0] 23)
  have HB0 : Hid (Below w.heap.size w (w.alloc (.cells #[.int .i64 0, .bool false, .string ⟨#[]⟩, .int .i64 0] 23))) := ((Below.refl _ _).alloc (Nat.le_refl _) _)
  go_enter Tryz.func36, Tryz.ntmps36
  go_wp2_with fail
  refine (TR'.out _).mono ?_
  rintro e w1 ⟨rfl, rfl⟩
  go_wp2_with fail
  refine (TL'.out _).mono ?_
  rintro e w1 ⟨rfl, rfl⟩
  go_wp2
  refine bodyPost_ret (results_dec rfl _ _ _ _ _ _ _ rfl (Blk.new _ _ _)) rfl ?_
  exact ⟨by unfold ofD decVal; rw [if_neg h, ← HMM.out, bys_len, HDD.out, show ex + ((t.size : Int) - (m : Int)) = ex + (t.size : Int) - (m : Int) by omega]; rfl, (Below.refl _ _).alloc (Nat.le_refl _) _⟩

theorem dof_any (neg : Bool) (t : ByteArray) (ex : Int) (w : World) (hs : t.size ≤ 281474976710656) (h1 : -100000000000000000 ≤ ex) (h2 : ex ≤ 100000000000000000) : Calls Tryz.prog 36 #[.bool neg, .string t, .int .i64 ex] w fun e w' => e = .returned (decVal (ofD neg (bys t) ex)) ∧ Below w.heap.size w w' := by
  by_cases h : mid0 (bys t) = []
  · exact dof_nil neg t ex w hs h1 h2 h
  · exact dof_some neg t ex w hs h1 h2 h

theorem dmay_d_yes (d : DecT) (w : World) (h : May d) : Calls Tryz.prog 9 #[decVal d] w fun e w' => e = .returned (.bool true) ∧ Below w.heap.size w w' :=
  dmay_yes (d.cls : Int) d.neg ⟨d.dig.toArray⟩ d.exp w (by rw [bys_mk]; exact h)
theorem dmay_d_no (d : DecT) (w : World) (h : ¬ May d) : Calls Tryz.prog 9 #[decVal d] w fun e w' => e = .returned (.bool false) ∧ Below w.heap.size w w' :=
  dmay_no (d.cls : Int) d.neg ⟨d.dig.toArray⟩ d.exp w (by rw [bys_mk]; exact h)

/-- A Dec and an error, as they are handed back. -/
def decErr (r : DecT × Int) : Value := .tuple #[decVal r.1, .int .i64 r.2]

set_option maxHeartbeats 1000000 in
theorem fin_yes (neg : Bool) (t : ByteArray) (ex : Int) (w : World) (hs : t.size ≤ 281474976710656) (h1 : -100000000000000000 ≤ ex) (h2 : ex ≤ 100000000000000000) (hd : DigB (bys t)) (h : May (finD neg (decV (bys t)) ex)) : Calls Tryz.prog 20 #[.bool neg, .string t, .int .i64 ex] w fun e w' => e = .returned (decErr (tellF neg (decV (bys t)) ex)) ∧ Below w.heap.size w w' := by
  have OF := hide (fun W => dof_any neg t ex W hs h1 h2)
  rw [ofD_fin neg _ ex hd] at OF
  obtain ⟨d, hdd⟩ : ∃ d, d = finD neg (decV (bys t)) ex := ⟨_, rfl⟩
  rw [← hdd] at OF h
  have MY := hide (fun W => dmay_d_yes d W h)
  have TF : Hid (tellF neg (decV (bys t)) ex = (d, 0)) := by rw [hdd] at h ⊢; exact tellF_yes h
  clear hdd h hs h1 h2 hd
  obtain ⟨c, n, l, e⟩ := d
  unfold decVal at OF MY
  simp only at OF MY
  have Br0 := hide (Blk.newAt w (w.heap.size) (rfl) #[.int .i64 0, .bool false, .string ⟨#[]⟩, .int .i64 0] 23)
  have HB0 : Hid (Below w.heap.size w (w.alloc (.cells #[.int .i64 0, .bool false, .string ⟨#[]⟩, .int .i64 0] 23))) := ((Below.refl _ _).alloc (Nat.le_refl _) _)
  go_enter Tryz.func20, Tryz.ntmps20
  go_wp2_with fail
  refine (OF.out _).mono ?_
  rintro e w1 ⟨rfl, hb⟩
  have Br1 := hide (Br0.out.below hb Br0.out.lt)
  have HB1 := hide (HB0.out.trans (hb.mono HB0.out.size))
  clear hb Br0 HB0 
  have yr0 : w1.cell? ⟨w.heap.size, 0, none⟩ = some (.int .i64 0) := Br1.out.cell 0
  have yr1 : w1.cell? ⟨w.heap.size, 1, none⟩ = some (.bool false) := Br1.out.cell 1
  have yr2 : w1.cell? ⟨w.heap.size, 2, none⟩ = some (.string ⟨#[]⟩) := Br1.out.cell 2
  have yr3 : w1.cell? ⟨w.heap.size, 3, none⟩ = some (.int .i64 0) := Br1.out.cell 3
  go_wp2_with fail
  refine (MY.out _).mono ?_
  rintro e w2 ⟨rfl, hb⟩
  have Br2 := hide ((Br1.out.alloc (.cells #[.int .i64 (c : Int), .bool n, .string ⟨l.toArray⟩, .int .i64 e] 23)).below hb (Br1.out.alloc (.cells #[.int .i64 (c : Int), .bool n, .string ⟨l.toArray⟩, .int .i64 e] 23)).lt)
  have Bd2 := hide ((Blk.newAt w1 (w1.heap.size) (rfl) #[.int .i64 (c : Int), .bool n, .string ⟨l.toArray⟩, .int .i64 e] 23).below hb (Blk.newAt w1 (w1.heap.size) (rfl) #[.int .i64 (c : Int), .bool n, .string ⟨l.toArray⟩, .int .i64 e] 23).lt)
  have HB2 := hide ((HB1.out.alloc HB1.out.size _).trans (hb.mono (HB1.out.alloc HB1.out.size _).size))
  clear hb Br1 HB1 yr0 yr1 yr2 yr3
  have yr0 : w2.cell? ⟨w.heap.size, 0, none⟩ = some (.int .i64 0) := Br2.out.cell 0
  have yr1 : w2.cell? ⟨w.heap.size, 1, none⟩ = some (.bool false) := Br2.out.cell 1
  have yr2 : w2.cell? ⟨w.heap.size, 2, none⟩ = some (.string ⟨#[]⟩) := Br2.out.cell 2
  have yr3 : w2.cell? ⟨w.heap.size, 3, none⟩ = some (.int .i64 0) := Br2.out.cell 3
  have yd0 : w2.cell? ⟨w1.heap.size, 0, none⟩ = some (.int .i64 (c : Int)) := Bd2.out.cell 0
  have yd1 : w2.cell? ⟨w1.heap.size, 1, none⟩ = some (.bool n) := Bd2.out.cell 1
  have yd2 : w2.cell? ⟨w1.heap.size, 2, none⟩ = some (.string ⟨l.toArray⟩) := Bd2.out.cell 2
  have yd3 : w2.cell? ⟨w1.heap.size, 3, none⟩ = some (.int .i64 e) := Bd2.out.cell 3
  have fr0 := Br2.out.free 0
  have fr1 := Br2.out.free 1
  have fr2 := Br2.out.free 2
  have fr3 := Br2.out.free 3
  go_wp2
  refine bodyPost_ret (results_dec2 rfl _ _ _ _ _ _ _ rfl (Br2.out.put4 _ _ _ _)) rfl ?_
  exact ⟨by rw [TF.out]; rfl, below_put4 (HB2.out) (by omega) _ _ _ _⟩

set_option maxHeartbeats 1000000 in
theorem fin_no (neg : Bool) (t : ByteArray) (ex : Int) (w : World) (hs : t.size ≤ 281474976710656) (h1 : -100000000000000000 ≤ ex) (h2 : ex ≤ 100000000000000000) (hd : DigB (bys t)) (h : ¬ May (finD neg (decV (bys t)) ex)) : Calls Tryz.prog 20 #[.bool neg, .string t, .int .i64 ex] w fun e w' => e = .returned (decErr (tellF neg (decV (bys t)) ex)) ∧ Below w.heap.size w w' := by
  have OF := hide (fun W => dof_any neg t ex W hs h1 h2)
  rw [ofD_fin neg _ ex hd] at OF
  obtain ⟨d, hdd⟩ : ∃ d, d = finD neg (decV (bys t)) ex := ⟨_, rfl⟩
  rw [← hdd] at OF h
  have MY := hide (fun W => dmay_d_no d W h)
  have TF : Hid (tellF neg (decV (bys t)) ex = (⟨0, false, [], 0⟩, 51)) := by rw [hdd] at h; exact tellF_no h
  clear hdd h hs h1 h2 hd
  obtain ⟨c, n, l, e⟩ := d
  unfold decVal at OF MY
  simp only at OF MY
  have Br0 := hide (Blk.newAt w (w.heap.size) (rfl) #[.int .i64 0, .bool false, .string ⟨#[]⟩, .int .i64 0] 23)
  have HB0 : Hid (Below w.heap.size w (w.alloc (.cells #[.int .i64 0, .bool false, .string ⟨#[]⟩, .int .i64 0] 23))) := ((Below.refl _ _).alloc (Nat.le_refl _) _)
  go_enter Tryz.func20, Tryz.ntmps20
  go_wp2_with fail
  refine (OF.out _).mono ?_
  rintro e w1 ⟨rfl, hb⟩
  have Br1 := hide (Br0.out.below hb Br0.out.lt)
  have HB1 := hide (HB0.out.trans (hb.mono HB0.out.size))
  clear hb Br0 HB0 
  have yr0 : w1.cell? ⟨w.heap.size, 0, none⟩ = some (.int .i64 0) := Br1.out.cell 0
  have yr1 : w1.cell? ⟨w.heap.size, 1, none⟩ = some (.bool false) := Br1.out.cell 1
  have yr2 : w1.cell? ⟨w.heap.size, 2, none⟩ = some (.string ⟨#[]⟩) := Br1.out.cell 2
  have yr3 : w1.cell? ⟨w.heap.size, 3, none⟩ = some (.int .i64 0) := Br1.out.cell 3
  go_wp2_with fail
  refine (MY.out _).mono ?_
  rintro e w2 ⟨rfl, hb⟩
  have Br2 := hide ((Br1.out.alloc (.cells #[.int .i64 (c : Int), .bool n, .string ⟨l.toArray⟩, .int .i64 e] 23)).below hb (Br1.out.alloc (.cells #[.int .i64 (c : Int), .bool n, .string ⟨l.toArray⟩, .int .i64 e] 23)).lt)
  have Bd2 := hide ((Blk.newAt w1 (w1.heap.size) (rfl) #[.int .i64 (c : Int), .bool n, .string ⟨l.toArray⟩, .int .i64 e] 23).below hb (Blk.newAt w1 (w1.heap.size) (rfl) #[.int .i64 (c : Int), .bool n, .string ⟨l.toArray⟩, .int .i64 e] 23).lt)
  have HB2 := hide ((HB1.out.alloc HB1.out.size _).trans (hb.mono (HB1.out.alloc HB1.out.size _).size))
  clear hb Br1 HB1 yr0 yr1 yr2 yr3
  have yr0 : w2.cell? ⟨w.heap.size, 0, none⟩ = some (.int .i64 0) := Br2.out.cell 0
  have yr1 : w2.cell? ⟨w.heap.size, 1, none⟩ = some (.bool false) := Br2.out.cell 1
  have yr2 : w2.cell? ⟨w.heap.size, 2, none⟩ = some (.string ⟨#[]⟩) := Br2.out.cell 2
  have yr3 : w2.cell? ⟨w.heap.size, 3, none⟩ = some (.int .i64 0) := Br2.out.cell 3
  have yd0 : w2.cell? ⟨w1.heap.size, 0, none⟩ = some (.int .i64 (c : Int)) := Bd2.out.cell 0
  have yd1 : w2.cell? ⟨w1.heap.size, 1, none⟩ = some (.bool n) := Bd2.out.cell 1
  have yd2 : w2.cell? ⟨w1.heap.size, 2, none⟩ = some (.string ⟨l.toArray⟩) := Bd2.out.cell 2
  have yd3 : w2.cell? ⟨w1.heap.size, 3, none⟩ = some (.int .i64 e) := Bd2.out.cell 3
  have fr0 := Br2.out.free 0
  have fr1 := Br2.out.free 1
  have fr2 := Br2.out.free 2
  have fr3 := Br2.out.free 3
  go_wp2
  refine bodyPost_ret (results_dec2 rfl _ _ _ _ _ _ _ rfl (Br2.out.put4 _ _ _ _)) rfl ?_
  exact ⟨by rw [TF.out]; rfl, below_put4 (HB2.out) (by omega) _ _ _ _⟩

theorem fin_any (neg : Bool) (t : ByteArray) (ex : Int) (w : World) (hs : t.size ≤ 281474976710656) (h1 : -100000000000000000 ≤ ex) (h2 : ex ≤ 100000000000000000) (hd : DigB (bys t)) : Calls Tryz.prog 20 #[.bool neg, .string t, .int .i64 ex] w fun e w' => e = .returned (decErr (tellF neg (decV (bys t)) ex)) ∧ Below w.heap.size w w' := by
  by_cases h : May (finD neg (decV (bys t)) ex)
  · exact fin_yes neg t ex w hs h1 h2 hd h
  · exact fin_no neg t ex w hs h1 h2 hd h

end Go.Proofs.YtifpacgacbpalabGreatDoor
