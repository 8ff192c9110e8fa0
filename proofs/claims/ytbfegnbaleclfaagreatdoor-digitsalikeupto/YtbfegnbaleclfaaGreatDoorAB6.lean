/-
  What dec's May, place, Place, Neg, Scale, isZero, signed and rank do.
  What decform's Of and dec's finite do.
  strconv.FormatUint to the base 10 at this dump: the number's decimal digits.
  What dec's amountText and Print do.
-/
import Derived.Test.YtbfegnbaleclfaaGreatDoorAB2
import Derived.Test.YtbfegnbaleclfaaGreatDoorAB5
import Derived.Test.YtbfegnbaleclfaaGreatDoorAShelf
import Derived.Test.YtbfegnbaleclfaaGreatDoorAOwn
import Derived.Lib.AppendIntMem
import Derived.Laws.IdiomStrings
import Derived.Deep.RegionHeld3
namespace Go.Proofs.YtbfegnbaleclfaaGreatDoor
open Go.RowKit

end Go.Proofs.YtbfegnbaleclfaaGreatDoor

namespace Go.Proofs.YtbfegnbaleclfaaGreatDoor
open Go.RowKit

theorem bys_mk (l : List UInt8) : bys ⟨l.toArray⟩ = l := by simp [bys]
theorem mk_bys (t : ByteArray) : (⟨(bys t).toArray⟩ : ByteArray) = t := by cases t; simp [bys]
theorem size_mk0 (l : List UInt8) : (⟨l.toArray⟩ : ByteArray).size = l.length := by simp [ByteArray.size]

theorem cut0_len (l : List UInt8) : (cut0 l).length ≤ l.length := by
  unfold cut0 Lib.trimRightB
  rw [List.length_reverse]
  have := (List.dropWhile_sublist (p := (· == (48 : UInt8))) (l := l.reverse)).length_le
  rw [List.length_reverse] at this
  exact this

set_option maxHeartbeats 1000000 in
theorem dof_nil (neg : Bool) (t : ByteArray) (ex : Int) (w : World) (hs : t.size ≤ 281474976710656) (h1 : -100000000000000000 ≤ ex) (h2 : ex ≤ 100000000000000000) (h : mid0 (bys t) = []) : Calls Tryz.prog 47 #[.bool neg, .string t, .int .i64 ex] w fun e w' => e = .returned (decVal (ofD neg (bys t) ex)) ∧ Below w.heap.size w w' := by
  have TR := hide (fun W => Tryz.strings_TrimRight_one t 48 (by decide) W (by omega))
  have TL := hide (fun W => Tryz.strings_TrimLeft_one ⟨(cut0 (bys t)).toArray⟩ 48 (by decide) W)
  have hl1 := cut0_len (bys t)
  rw [bys_len] at hl1
  have hsz : (⟨(cut0 (bys t)).toArray⟩ : ByteArray).size = (cut0 (bys t)).length := size_mk0 _
  have HM : Hid (mid0 (bys t) = Lib.trimLeftB (cut0 (bys t)) 48) := rfl
  obtain ⟨C, hC⟩ : ∃ C : ByteArray, C = ⟨(cut0 (bys t)).toArray⟩ := ⟨_, rfl⟩
  obtain ⟨m, hm⟩ : ∃ m, m = (cut0 (bys t)).length := ⟨_, rfl⟩
  have TR' : Hid (∀ W, Calls Tryz.prog 69 #[.string t, .string ⟨#[48]⟩] W fun e w' => e = .returned (.string C) ∧ w' = W) := by rw [hC]; exact TR.out
  have TL' : Hid (∀ W, Calls Tryz.prog 70 #[.string C, .string ⟨#[48]⟩] W fun e w' => e = .returned (.string ⟨(mid0 (bys t)).toArray⟩) ∧ w' = W) := by rw [hC]; exact TL.out
  rw [← hC, ← hm] at hsz
  rw [← hm] at hl1
  obtain ⟨D, hD⟩ : ∃ D : ByteArray, D = ⟨(mid0 (bys t)).toArray⟩ := ⟨_, rfl⟩
  rw [← hD] at TL'
  have hDs : D.size = (mid0 (bys t)).length := by rw [hD]; exact size_mk0 _
  have hD0 : D = ⟨#[]⟩ := by rw [hD, h]
  subst hD0
  clear TR TL HM hD hDs hC hm
  have Br0 := hide (Blk.newAt w (w.heap.size) (rfl) #[.int .i64 0, .bool false, .string ⟨#[]⟩, .int .i64 0] 43)
  have HB0 : Hid (Below w.heap.size w (w.alloc (.cells #[.int .i64 0, .bool false, .string ⟨#[]⟩, .int .i64 0] 43))) := ((Below.refl _ _).alloc (Nat.le_refl _) _)
  go_enter Tryz.func47, Tryz.ntmps47
  go_wp2_with fail
  refine (TR'.out _).mono ?_
  rintro e w1 ⟨rfl, rfl⟩
  go_wp2_with fail
  refine (TL'.out _).mono ?_
  rintro e w1 ⟨rfl, rfl⟩
  go_wp2
  refine bodyPost_ret (results_dec rfl _ _ _ _ _ _ _ rfl (Blk.new _ _ _)) rfl ?_
  exact ⟨by unfold ofD decVal; rw [if_pos h]; rfl, (Below.refl _ _).alloc (Nat.le_refl _) _⟩

set_option maxHeartbeats 1000000 in
theorem dof_some (neg : Bool) (t : ByteArray) (ex : Int) (w : World) (hs : t.size ≤ 281474976710656) (h1 : -100000000000000000 ≤ ex) (h2 : ex ≤ 100000000000000000) (h : mid0 (bys t) ≠ []) : Calls Tryz.prog 47 #[.bool neg, .string t, .int .i64 ex] w fun e w' => e = .returned (decVal (ofD neg (bys t) ex)) ∧ Below w.heap.size w w' := by
  have TR := hide (fun W => Tryz.strings_TrimRight_one t 48 (by decide) W (by omega))
  have TL := hide (fun W => Tryz.strings_TrimLeft_one ⟨(cut0 (bys t)).toArray⟩ 48 (by decide) W)
  have hl1 := cut0_len (bys t)
  rw [bys_len] at hl1
  have hsz : (⟨(cut0 (bys t)).toArray⟩ : ByteArray).size = (cut0 (bys t)).length := size_mk0 _
  have HM : Hid (mid0 (bys t) = Lib.trimLeftB (cut0 (bys t)) 48) := rfl
  obtain ⟨C, hC⟩ : ∃ C : ByteArray, C = ⟨(cut0 (bys t)).toArray⟩ := ⟨_, rfl⟩
  obtain ⟨m, hm⟩ : ∃ m, m = (cut0 (bys t)).length := ⟨_, rfl⟩
  have TR' : Hid (∀ W, Calls Tryz.prog 69 #[.string t, .string ⟨#[48]⟩] W fun e w' => e = .returned (.string C) ∧ w' = W) := by rw [hC]; exact TR.out
  have TL' : Hid (∀ W, Calls Tryz.prog 70 #[.string C, .string ⟨#[48]⟩] W fun e w' => e = .returned (.string ⟨(mid0 (bys t)).toArray⟩) ∧ w' = W) := by rw [hC]; exact TL.out
  rw [← hC, ← hm] at hsz
  rw [← hm] at hl1
  obtain ⟨D, hD⟩ : ∃ D : ByteArray, D = ⟨(mid0 (bys t)).toArray⟩ := ⟨_, rfl⟩
  rw [← hD] at TL'
  have hDs : D.size = (mid0 (bys t)).length := by rw [hD]; exact size_mk0 _
  have hD0 : D.size ≠ 0 := by rw [hDs]; exact fun e => h (List.length_eq_zero_iff.1 e)
  have hD1 := toList_ne hD0
  have HDD := hide hD
  have HMM := hide hm
  clear TR TL HM hD hDs hC hD0 hm
  have Br0 := hide (Blk.newAt w (w.heap.size) (rfl) #[.int .i64 0, .bool false, .string ⟨#[]⟩, .int .i64 0] 43)
  have HB0 : Hid (Below w.heap.size w (w.alloc (.cells #[.int .i64 0, .bool false, .string ⟨#[]⟩, .int .i64 0] 43))) := ((Below.refl _ _).alloc (Nat.le_refl _) _)
  go_enter Tryz.func47, Tryz.ntmps47
  go_wp2_with fail
  refine (TR'.out _).mono ?_
  rintro e w1 ⟨rfl, rfl⟩
  go_wp2_with fail
  refine (TL'.out _).mono ?_
  rintro e w1 ⟨rfl, rfl⟩
  go_wp2
  refine bodyPost_ret (results_dec rfl _ _ _ _ _ _ _ rfl (Blk.new _ _ _)) rfl ?_
  exact ⟨by unfold ofD decVal; rw [if_neg h, ← HMM.out, bys_len, HDD.out, show ex + ((t.size : Int) - (m : Int)) = ex + (t.size : Int) - (m : Int) by omega]; rfl, (Below.refl _ _).alloc (Nat.le_refl _) _⟩

theorem dof_any (neg : Bool) (t : ByteArray) (ex : Int) (w : World) (hs : t.size ≤ 281474976710656) (h1 : -100000000000000000 ≤ ex) (h2 : ex ≤ 100000000000000000) : Calls Tryz.prog 47 #[.bool neg, .string t, .int .i64 ex] w fun e w' => e = .returned (decVal (ofD neg (bys t) ex)) ∧ Below w.heap.size w w' := by
  by_cases h : mid0 (bys t) = []
  · exact dof_nil neg t ex w hs h1 h2 h
  · exact dof_some neg t ex w hs h1 h2 h

theorem fmay_d_yes (d : DecT) (w : World) (h : May d) : Calls Tryz.prog 48 #[decVal d] w fun e w' => e = .returned (.bool true) ∧ Below w.heap.size w w' :=
  may_yes (d.cls : Int) d.neg ⟨d.dig.toArray⟩ d.exp w (by rw [bys_mk]; exact h)
theorem fmay_d_no (d : DecT) (w : World) (h : ¬ May d) : Calls Tryz.prog 48 #[decVal d] w fun e w' => e = .returned (.bool false) ∧ Below w.heap.size w w' :=
  may_no (d.cls : Int) d.neg ⟨d.dig.toArray⟩ d.exp w (by rw [bys_mk]; exact h)

def decErr (r : DecT × Int) : Value := .tuple #[decVal r.1, .int .i64 r.2]

set_option maxHeartbeats 1000000 in
theorem fin_yes (neg : Bool) (t : ByteArray) (ex : Int) (w : World) (hs : t.size ≤ 281474976710656) (h1 : -100000000000000000 ≤ ex) (h2 : ex ≤ 100000000000000000) (hd : DigB (bys t)) (h : May (finD neg (decV (bys t)) ex)) : Calls Tryz.prog 31 #[.bool neg, .string t, .int .i64 ex] w fun e w' => e = .returned (decErr (tellF neg (decV (bys t)) ex)) ∧ Below w.heap.size w w' := by
  have OF := hide (fun W => dof_any neg t ex W hs h1 h2)
  rw [ofD_fin neg _ ex hd] at OF
  obtain ⟨d, hdd⟩ : ∃ d, d = finD neg (decV (bys t)) ex := ⟨_, rfl⟩
  rw [← hdd] at OF h
  have MY := hide (fun W => fmay_d_yes d W h)
  have TF : Hid (tellF neg (decV (bys t)) ex = (d, 0)) := by rw [hdd] at h ⊢; exact tellF_yes h
  clear hdd h hs h1 h2 hd
  obtain ⟨c, n, l, e⟩ := d
  unfold decVal at OF MY
  simp only at OF MY
  have Br0 := hide (Blk.newAt w (w.heap.size) (rfl) #[.int .i64 0, .bool false, .string ⟨#[]⟩, .int .i64 0] 43)
  have HB0 : Hid (Below w.heap.size w (w.alloc (.cells #[.int .i64 0, .bool false, .string ⟨#[]⟩, .int .i64 0] 43))) := ((Below.refl _ _).alloc (Nat.le_refl _) _)
  go_enter Tryz.func31, Tryz.ntmps31
  go_wp2_with fail
  refine (OF.out _).mono ?_
  rintro e w1 ⟨rfl, hb⟩
  have Br1 := hide (Br0.out.below hb Br0.out.lt)
  have HB1 := hide (HB0.out.trans (hb.mono HB0.out.size))
  clear hb Br0 HB0 
  obtain ⟨yr0, yr1, yr2, yr3⟩ := Br1.out.four
  go_wp2_with fail
  refine (MY.out _).mono ?_
  rintro e w2 ⟨rfl, hb⟩
  have Br2 := hide ((Br1.out.alloc (.cells #[.int .i64 (c : Int), .bool n, .string ⟨l.toArray⟩, .int .i64 e] 43)).below hb (Br1.out.alloc (.cells #[.int .i64 (c : Int), .bool n, .string ⟨l.toArray⟩, .int .i64 e] 43)).lt)
  have Bd2 := hide ((Blk.newAt w1 (w1.heap.size) (rfl) #[.int .i64 (c : Int), .bool n, .string ⟨l.toArray⟩, .int .i64 e] 43).below hb (Blk.newAt w1 (w1.heap.size) (rfl) #[.int .i64 (c : Int), .bool n, .string ⟨l.toArray⟩, .int .i64 e] 43).lt)
  have HB2 := hide ((HB1.out.alloc HB1.out.size _).trans (hb.mono (HB1.out.alloc HB1.out.size _).size))
  clear hb Br1 HB1 yr0 yr1 yr2 yr3
  obtain ⟨yr0, yr1, yr2, yr3⟩ := Br2.out.four
  obtain ⟨yd0, yd1, yd2, yd3⟩ := Bd2.out.four
  have fr0 := Br2.out.free 0
  have fr1 := Br2.out.free 1
  have fr2 := Br2.out.free 2
  have fr3 := Br2.out.free 3
  go_wp2
  refine bodyPost_ret (results_dec2 rfl _ _ _ _ _ _ _ rfl (Br2.out.put4 _ _ _ _)) rfl ?_
  exact ⟨by rw [TF.out]; rfl, below_put4 (HB2.out) (by omega) _ _ _ _⟩

set_option maxHeartbeats 1000000 in
theorem fin_no (neg : Bool) (t : ByteArray) (ex : Int) (w : World) (hs : t.size ≤ 281474976710656) (h1 : -100000000000000000 ≤ ex) (h2 : ex ≤ 100000000000000000) (hd : DigB (bys t)) (h : ¬ May (finD neg (decV (bys t)) ex)) : Calls Tryz.prog 31 #[.bool neg, .string t, .int .i64 ex] w fun e w' => e = .returned (decErr (tellF neg (decV (bys t)) ex)) ∧ Below w.heap.size w w' := by
  have OF := hide (fun W => dof_any neg t ex W hs h1 h2)
  rw [ofD_fin neg _ ex hd] at OF
  obtain ⟨d, hdd⟩ : ∃ d, d = finD neg (decV (bys t)) ex := ⟨_, rfl⟩
  rw [← hdd] at OF h
  have MY := hide (fun W => fmay_d_no d W h)
  have TF : Hid (tellF neg (decV (bys t)) ex = (⟨0, false, [], 0⟩, 51)) := by rw [hdd] at h; exact tellF_no h
  clear hdd h hs h1 h2 hd
  obtain ⟨c, n, l, e⟩ := d
  unfold decVal at OF MY
  simp only at OF MY
  have Br0 := hide (Blk.newAt w (w.heap.size) (rfl) #[.int .i64 0, .bool false, .string ⟨#[]⟩, .int .i64 0] 43)
  have HB0 : Hid (Below w.heap.size w (w.alloc (.cells #[.int .i64 0, .bool false, .string ⟨#[]⟩, .int .i64 0] 43))) := ((Below.refl _ _).alloc (Nat.le_refl _) _)
  go_enter Tryz.func31, Tryz.ntmps31
  go_wp2_with fail
  refine (OF.out _).mono ?_
  rintro e w1 ⟨rfl, hb⟩
  have Br1 := hide (Br0.out.below hb Br0.out.lt)
  have HB1 := hide (HB0.out.trans (hb.mono HB0.out.size))
  clear hb Br0 HB0 
  obtain ⟨yr0, yr1, yr2, yr3⟩ := Br1.out.four
  go_wp2_with fail
  refine (MY.out _).mono ?_
  rintro e w2 ⟨rfl, hb⟩
  have Br2 := hide ((Br1.out.alloc (.cells #[.int .i64 (c : Int), .bool n, .string ⟨l.toArray⟩, .int .i64 e] 43)).below hb (Br1.out.alloc (.cells #[.int .i64 (c : Int), .bool n, .string ⟨l.toArray⟩, .int .i64 e] 43)).lt)
  have Bd2 := hide ((Blk.newAt w1 (w1.heap.size) (rfl) #[.int .i64 (c : Int), .bool n, .string ⟨l.toArray⟩, .int .i64 e] 43).below hb (Blk.newAt w1 (w1.heap.size) (rfl) #[.int .i64 (c : Int), .bool n, .string ⟨l.toArray⟩, .int .i64 e] 43).lt)
  have HB2 := hide ((HB1.out.alloc HB1.out.size _).trans (hb.mono (HB1.out.alloc HB1.out.size _).size))
  clear hb Br1 HB1 yr0 yr1 yr2 yr3
  obtain ⟨yr0, yr1, yr2, yr3⟩ := Br2.out.four
  obtain ⟨yd0, yd1, yd2, yd3⟩ := Bd2.out.four
  have fr0 := Br2.out.free 0
  have fr1 := Br2.out.free 1
  have fr2 := Br2.out.free 2
  have fr3 := Br2.out.free 3
  go_wp2
  refine bodyPost_ret (results_dec2 rfl _ _ _ _ _ _ _ rfl (Br2.out.put4 _ _ _ _)) rfl ?_
  exact ⟨by rw [TF.out]; rfl, below_put4 (HB2.out) (by omega) _ _ _ _⟩

theorem fin_any (neg : Bool) (t : ByteArray) (ex : Int) (w : World) (hs : t.size ≤ 281474976710656) (h1 : -100000000000000000 ≤ ex) (h2 : ex ≤ 100000000000000000) (hd : DigB (bys t)) : Calls Tryz.prog 31 #[.bool neg, .string t, .int .i64 ex] w fun e w' => e = .returned (decErr (tellF neg (decV (bys t)) ex)) ∧ Below w.heap.size w w' := by
  by_cases h : May (finD neg (decV (bys t)) ex)
  · exact fin_yes neg t ex w hs h1 h2 hd h
  · exact fin_no neg t ex w hs h1 h2 hd h

end Go.Proofs.YtbfegnbaleclfaaGreatDoor

namespace Go.Proofs.YtbfegnbaleclfaaGreatDoor
open Go.RowKit Go.Sort Go.Lib

def Tab (w : World) : Prop := Lib.TabIs Tryz.prog w "internal/strconv.uint64pow10" .u64 Lib.pow10Tab

theorem tab_some : (Tryz.prog.globalNamed "internal/strconv.uint64pow10").isSome = true := by kernel_rfl
theorem tab_glob : ∃ g, Tryz.prog.globalNamed "internal/strconv.uint64pow10" = some g := Option.isSome_iff_exists.1 tab_some

theorem Tab.below {w w' : World} (h : Tab w) (hb : Below w.heap.size w w') : Tab w' := by
  obtain ⟨g, hg⟩ := tab_glob
  unfold Tab Lib.TabIs World.var? at *
  rw [hg] at h ⊢
  simp only [Option.bind_some] at h ⊢
  have hlt : g < w.heap.size := by
    rcases Nat.lt_or_ge g w.heap.size with h' | h'
    · exact h'
    · rw [Array.getElem?_eq_none h'] at h; cases h
  rw [hb.block g hlt]
  exact h

theorem Tab.alloc {w : World} (h : Tab w) (o : Obj) : Tab (w.alloc o) := h.below ((Below.refl _ _).alloc (Nat.le_refl _) o)

theorem below_grow (w : World) (n : Nat) (os : Array Obj) : Below w.heap.size w (grow (w.drewN n) os) := by
  refine ⟨rfl, rfl, rfl, ?_, fun k hk => ?_⟩
  · show w.heap.size ≤ (w.heap ++ os).size
    rw [Array.size_append]; omega
  · show (w.heap ++ os)[k]? = w.heap[k]?
    rw [Array.getElem?_append_left hk]

theorem arr24 : Tryz.prog.arrayLen 100 = 24 := by simp [Program.arrayLen, Tryz.underlying100]

set_option maxRecDepth 100000 in
set_option maxHeartbeats 2000000 in
theorem ifmt_big (u : Nat) (h1 : 100 ≤ u) (hu : u < 18446744073709551616) (w : World) (htab : Tab w) :
    Calls Tryz.prog 37 #[.int .u64 (u : Int), .int .i64 10] w fun e w' => e = .returned (.string ⟨(Lib.decDigits u).toArray⟩) ∧ Below w.heap.size w w' := by
  have hnd : Lib.nDigits u ≤ 20 := by have := Lib.numDigits_eq u (by omega) hu; split at this <;> omega
  have hH0 := Lib.holds_zero0 w 100 (Lib.nDigits u) (by omega)
  have hfmt := Tryz.internal_strconv_formatBase10 w.heap.size 0 24 u (Array.replicate (Lib.nDigits u) 0) (w.alloc (.cells Lib.zeros24 100)) hH0 (by rw [Array.size_replicate]; exact Lib.lt_pow_nDigits u) hu (by rw [Array.size_replicate]; omega)
  rw [Array.size_replicate] at hfmt
  have nd := Tryz.internal_strconv_numDigits u (by omega) hu (w.alloc (.cells Lib.zeros24 100)) (htab.alloc _)
  have hsl : ∀ W, (Instr.sliceAt 100 (.pointer (some ⟨w.heap.size, 0, none⟩)) none (some (.int .i64 (Lib.nDigits u : Int))) none).run Tryz.prog W = .ok (.slice (some ⟨w.heap.size, 0, none⟩) (Lib.nDigits u) 24) W := fun W => by
    rw [run_sliceAt_array_h W 100 ⟨w.heap.size, 0, none⟩ (by simp [Program.arrayLen, Program.elem, Tryz.underlying100]) .i64 (Lib.nDigits u : Int) (by omega) (by rw [arr24]; omega)]
    go_simp
  have hlt : ¬ (u : Int) < 100 := by omega
  have HH : Hid (Holds (fun (b : UInt8) => Value.int .u8 (b.toNat : Int)) (w.alloc (.cells Lib.zeros24 100)) w.heap.size 0 (Array.replicate (Lib.nDigits u) (0 : UInt8))) := hH0
  have HF : Hid (Calls Tryz.prog 54 #[.slice (some ⟨w.heap.size, 0, none⟩) (Lib.nDigits u) 24, .int .u64 (u : Int)] (w.alloc (.cells Lib.zeros24 100)) fun e w' =>
      e = .returned (.tuple #[]) ∧ ∃ (n v' : Nat) (dk : Array UInt8), w' = (putRow (fun (b : UInt8) => Value.int .u8 (b.toNat : Int)) (w.alloc (.cells Lib.zeros24 100)) w.heap.size 0 dk).drewN n ∧ Lib.FmtInv (Lib.nDigits u) u 0 v' dk) := hfmt
  have HN : Hid (Calls Tryz.prog 53 #[.int .u64 (u : Int)] (w.alloc (.cells Lib.zeros24 100)) fun e w' => e = .returned (.int .i64 (Lib.nDigits u)) ∧ w' = (w.alloc (.cells Lib.zeros24 100))) := nd
  clear hH0 hfmt nd htab
  go_enter Tryz.func37, Tryz.ntmps37
  go_wp2_with fail
  refine HN.out.mono ?_
  rintro e w' ⟨rfl, rfl⟩
  go_wp2_with fail
  refine HF.out.mono ?_
  rintro e w' ⟨rfl, n, v', dk, rfl, hF⟩
  have hcv : (convert 40 9 (.slice (some ⟨w.heap.size, 0, none⟩) (Lib.nDigits u) 24)).run Tryz.prog ((putRow (fun (b : UInt8) => Value.int .u8 (b.toNat : Int)) (w.alloc (.cells Lib.zeros24 100)) w.heap.size 0 dk).drewN n) = .ok (.string ⟨(Lib.decDigits u).toArray⟩) ((putRow (fun (b : UInt8) => Value.int .u8 (b.toNat : Int)) (w.alloc (.cells Lib.zeros24 100)) w.heap.size 0 dk).drewN n) := by
    have h := run_convert_bytes_back (P := Tryz.prog) ((putRow (fun (b : UInt8) => Value.int .u8 (b.toNat : Int)) (w.alloc (.cells Lib.zeros24 100)) w.heap.size 0 dk).drewN n) 40 9 5 ⟨w.heap.size, 0, none⟩ 24 (Lib.decDigits u) Tryz.underlying40 Tryz.underlying5 Tryz.underlying9 (fun j hj => by
      rw [Lib.row_is_numeral hF j hj, Lib.add_plain, World.cell?_drewN]
      exact cell?_putRow (fun (b : UInt8) => Value.int .u8 (b.toNat : Int)) _ w.heap.size 0 _ dk HH.out (by rw [hF.size, Array.size_replicate]) j (by rw [hF.size]; rw [Lib.decDigits_length] at hj; exact hj))
    rw [Lib.decDigits_length] at h
    exact h
  obtain ⟨os, he⟩ : ∃ os, (putRow (fun (b : UInt8) => Value.int .u8 (b.toNat : Int)) (w.alloc (.cells Lib.zeros24 100)) w.heap.size 0 dk).drewN n = grow (w.drewN n) os := by
    rw [alloc_eq_grow]
    obtain ⟨os', _, e⟩ := putRow_grow_new (fun (b : UInt8) => Value.int .u8 (b.toNat : Int)) w #[.cells Lib.zeros24 100] w.heap.size 0 dk (Nat.le_refl _)
    exact ⟨os', by rw [e]; rfl⟩
  have HE := @id (Hid _) he
  clear he
  go_wp2
  go_ret
  refine ⟨rfl, ?_⟩
  rw [show (putRow (fun (b : UInt8) => Value.int .u8 (b.toNat : Int)) (w.alloc (.cells Lib.zeros24 100)) w.heap.size 0 dk).drewN n = grow (w.drewN n) os from HE]
  exact below_grow w n os

set_option maxRecDepth 100000 in
set_option maxHeartbeats 400000 in
theorem ifmt_small (u : Nat) (h1 : u < 100) (w : World) :
    Calls Tryz.prog 37 #[.int .u64 (u : Int), .int .i64 10] w fun e w' => e = .returned (.string ⟨(Lib.decDigits u).toArray⟩) ∧ Below w.heap.size w w' := by
  have hlt : (u : Int) < 100 := by omega
  have S := Tryz.internal_strconv_small u h1
  go_enter Tryz.func37, Tryz.ntmps37
  go_wp2_with fail
  refine (S _).mono ?_
  rintro e w' ⟨rfl, rfl⟩
  go_wp2
  go_ret
  exact ⟨rfl, Below.refl _ _⟩

theorem fmtUint_any (u : Nat) (hu : u < 18446744073709551616) (w : World) (htab : Tab w) :
    Calls Tryz.prog 25 #[.int .u64 (u : Int), .int .i64 10] w fun e w' => e = .returned (.string ⟨(Lib.decDigits u).toArray⟩) ∧ Below w.heap.size w w' := by
  have I : Calls Tryz.prog 37 #[.int .u64 (u : Int), .int .i64 10] w fun e w' => e = .returned (.string ⟨(Lib.decDigits u).toArray⟩) ∧ Below w.heap.size w w' := by
    by_cases h : u < 100
    · exact ifmt_small u h w
    · exact ifmt_big u (by omega) hu w htab
  go_enter Tryz.func25, Tryz.ntmps25
  go_wp2_with fail
  refine I.mono ?_
  rintro e w' ⟨rfl, hb⟩
  go_wp2
  go_ret
  exact ⟨rfl, hb⟩

end Go.Proofs.YtbfegnbaleclfaaGreatDoor

namespace Go.Proofs.YtbfegnbaleclfaaGreatDoor
open Go.RowKit

theorem itoa_len {e : Int} (h1 : -10000 ≤ e) (h2 : e ≤ 10000) : (Lib.itoa e).length ≤ 6 := by
  have h : ∀ n : Nat, n ≤ 10000 → (Lib.decDigits n).length ≤ 5 := fun n hn => sizeN_le (Nat.lt_of_le_of_lt hn (by decide)) (by omega)
  unfold Lib.itoa
  split
  · have := h e.natAbs (by omega); simp only [List.length_cons]; omega
  · have := h e.toNat (by omega); omega

theorem itoa_any (e : Int) (w : World) (h1 : -10000 ≤ e) (h2 : e ≤ 10000) (htab : Tab w) : Calls Tryz.prog 21 #[.int .i64 e] w fun e' w' => e' = .returned (.string ⟨(Lib.itoa e).toArray⟩) ∧ Below w.heap.size w w' := by
  refine (Tryz.strconv_Itoa e (by omega) (by omega) w htab).mono ?_
  rintro e' w' ⟨rfl, k, os, rfl⟩
  exact ⟨rfl, below_grow w k os⟩

end Go.Proofs.YtbfegnbaleclfaaGreatDoor
