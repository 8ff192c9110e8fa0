/-
  What operand's May does.
  What rule's isLetter, isDigit, rowSize and partSize do.
  What rule's partSize does.
  What rule's parts hands on, part by part.
  What rule's parts, gather and between make.
  What rule's between hands on: the rows of parts between separators.
  Lists that a call owns: what keeps them.
-/
import Derived.Test.YtkbciljfjijclaaGreatDoorAB14
import Derived.Test.YtkbciljfjijclaaGreatDoorAB11
import Derived.Test.YtkbciljfjijclaaGreatDoorAShelf
import Derived.Test.YtkbciljfjijclaaGreatDoorAB12
import Derived.Shelf.Abstract
import Derived.OwnWalkIn
import Derived.TacticsInMore
import Derived.LoopNIn
import Derived.LoopIn
import Derived.RangeFuncBox
import Derived.Maps.AppendAt
namespace Go.Proofs.YtkbciljfjijclaaGreatDoor
open Go.RowKit

theorem ne_text {f g : ByteArray} (h : bys f ≠ bys g) : (f.toList == g.toList) = false := by
  rw [ByteArray.toList_eq, ByteArray.toList_eq]
  exact beq_eq_false_iff_ne.2 h

set_option maxHeartbeats 2000000 in
theorem omay_0 (i : ByteArray) (v z : Int) (f t : ByteArray) (e : Int) (w : World) (h0 : ¬ (NumT (bys i) 8192))  : Calls Tryz.prog 46 #[opV i v z f t e] w fun e w' => e = .returned (.bool false) ∧ Below w.heap.size w w' := by
  have K0 := hide (fun W => isNum_F i W h0)
  clear h0
  have Bs0 := hide (Blk.newAt w (w.heap.size) (rfl) #[.string i, .int .i64 v, .int .i64 z, .string f, .string t, .int .i64 e] 37)
  have HB0 : Hid (Below w.heap.size w (w.alloc (.cells #[.string i, .int .i64 v, .int .i64 z, .string f, .string t, .int .i64 e] 37))) := ((Below.refl _ _).alloc (Nat.le_refl _) _)
  go_enter Tryz.func46, Tryz.ntmps46
  go_wp2_with fail
  refine (K0.out _).mono ?_
  rintro e w1 ⟨rfl, hb⟩
  have Bs1 := Blk.on Bs0 hb
  have HB1 := hide (HB0.out.trans (hb.mono HB0.out.size))
  clear hb Bs0 HB0 
  obtain ⟨ys0, ys1, ys2, ys3, ys4, ys5⟩ := Bs1.out.six
  go_wp2
  go_ret
  exact ⟨rfl, HB1.out⟩

set_option maxHeartbeats 2000000 in
theorem omay_1 (i : ByteArray) (v z : Int) (f t : ByteArray) (e : Int) (w : World) (h0 : NumT (bys i) 8192) (h1 : ¬ (NumT (bys t) 8192))  : Calls Tryz.prog 46 #[opV i v z f t e] w fun e w' => e = .returned (.bool false) ∧ Below w.heap.size w w' := by
  have K0 := hide (fun W => isNum_T i W h0)
  have K1 := hide (fun W => isNum_F t W h1)
  clear h0 h1
  have Bs0 := hide (Blk.newAt w (w.heap.size) (rfl) #[.string i, .int .i64 v, .int .i64 z, .string f, .string t, .int .i64 e] 37)
  have HB0 : Hid (Below w.heap.size w (w.alloc (.cells #[.string i, .int .i64 v, .int .i64 z, .string f, .string t, .int .i64 e] 37))) := ((Below.refl _ _).alloc (Nat.le_refl _) _)
  go_enter Tryz.func46, Tryz.ntmps46
  go_wp2_with fail
  refine (K0.out _).mono ?_
  rintro e w1 ⟨rfl, hb⟩
  have Bs1 := Blk.on Bs0 hb
  have HB1 := hide (HB0.out.trans (hb.mono HB0.out.size))
  clear hb Bs0 HB0 
  obtain ⟨ys0, ys1, ys2, ys3, ys4, ys5⟩ := Bs1.out.six
  go_wp2_with fail
  refine (K1.out _).mono ?_
  rintro e w2 ⟨rfl, hb⟩
  have Bs2 := Blk.on Bs1 hb
  have HB2 := hide (HB1.out.trans (hb.mono HB1.out.size))
  clear hb Bs1 HB1 ys0 ys1 ys2 ys3 ys4 ys5
  obtain ⟨ys0, ys1, ys2, ys3, ys4, ys5⟩ := Bs2.out.six
  go_wp2
  go_ret
  exact ⟨rfl, HB2.out⟩

set_option maxHeartbeats 2000000 in
theorem omay_2 (i : ByteArray) (v z : Int) (f t : ByteArray) (e : Int) (w : World) (h0 : NumT (bys i) 8192) (h1 : NumT (bys t) 8192) (h2 : ¬ (0 ≤ v ∧ v ≤ 8192))  : Calls Tryz.prog 46 #[opV i v z f t e] w fun e w' => e = .returned (.bool false) ∧ Below w.heap.size w w' := by
  have K0 := hide (fun W => isNum_T i W h0)
  have K1 := hide (fun W => isNum_T t W h1)
  have K2 := hide (fun W => isCount_f v W h2)
  clear h0 h1 h2
  have Bs0 := hide (Blk.newAt w (w.heap.size) (rfl) #[.string i, .int .i64 v, .int .i64 z, .string f, .string t, .int .i64 e] 37)
  have HB0 : Hid (Below w.heap.size w (w.alloc (.cells #[.string i, .int .i64 v, .int .i64 z, .string f, .string t, .int .i64 e] 37))) := ((Below.refl _ _).alloc (Nat.le_refl _) _)
  go_enter Tryz.func46, Tryz.ntmps46
  go_wp2_with fail
  refine (K0.out _).mono ?_
  rintro e w1 ⟨rfl, hb⟩
  have Bs1 := Blk.on Bs0 hb
  have HB1 := hide (HB0.out.trans (hb.mono HB0.out.size))
  clear hb Bs0 HB0 
  obtain ⟨ys0, ys1, ys2, ys3, ys4, ys5⟩ := Bs1.out.six
  go_wp2_with fail
  refine (K1.out _).mono ?_
  rintro e w2 ⟨rfl, hb⟩
  have Bs2 := Blk.on Bs1 hb
  have HB2 := hide (HB1.out.trans (hb.mono HB1.out.size))
  clear hb Bs1 HB1 ys0 ys1 ys2 ys3 ys4 ys5
  obtain ⟨ys0, ys1, ys2, ys3, ys4, ys5⟩ := Bs2.out.six
  go_wp2_with fail
  refine (K2.out _).mono ?_
  rintro e w3 ⟨rfl, hb⟩
  have Bs3 := Blk.on Bs2 hb
  have HB3 := hide (HB2.out.trans (hb.mono HB2.out.size))
  clear hb Bs2 HB2 ys0 ys1 ys2 ys3 ys4 ys5
  obtain ⟨ys0, ys1, ys2, ys3, ys4, ys5⟩ := Bs3.out.six
  go_wp2
  go_ret
  exact ⟨rfl, HB3.out⟩

set_option maxHeartbeats 2000000 in
theorem omay_3 (i : ByteArray) (v z : Int) (f t : ByteArray) (e : Int) (w : World) (h0 : NumT (bys i) 8192) (h1 : NumT (bys t) 8192) (h2 : 0 ≤ v ∧ v ≤ 8192) (h3 : ¬ (0 ≤ z ∧ z ≤ 8192))  : Calls Tryz.prog 46 #[opV i v z f t e] w fun e w' => e = .returned (.bool false) ∧ Below w.heap.size w w' := by
  have K0 := hide (fun W => isNum_T i W h0)
  have K1 := hide (fun W => isNum_T t W h1)
  have K2 := hide (fun W => isCount_t v W h2.1 h2.2)
  have K3 := hide (fun W => isCount_f z W h3)
  clear h0 h1 h2 h3
  have Bs0 := hide (Blk.newAt w (w.heap.size) (rfl) #[.string i, .int .i64 v, .int .i64 z, .string f, .string t, .int .i64 e] 37)
  have HB0 : Hid (Below w.heap.size w (w.alloc (.cells #[.string i, .int .i64 v, .int .i64 z, .string f, .string t, .int .i64 e] 37))) := ((Below.refl _ _).alloc (Nat.le_refl _) _)
  go_enter Tryz.func46, Tryz.ntmps46
  go_wp2_with fail
  refine (K0.out _).mono ?_
  rintro e w1 ⟨rfl, hb⟩
  have Bs1 := Blk.on Bs0 hb
  have HB1 := hide (HB0.out.trans (hb.mono HB0.out.size))
  clear hb Bs0 HB0 
  obtain ⟨ys0, ys1, ys2, ys3, ys4, ys5⟩ := Bs1.out.six
  go_wp2_with fail
  refine (K1.out _).mono ?_
  rintro e w2 ⟨rfl, hb⟩
  have Bs2 := Blk.on Bs1 hb
  have HB2 := hide (HB1.out.trans (hb.mono HB1.out.size))
  clear hb Bs1 HB1 ys0 ys1 ys2 ys3 ys4 ys5
  obtain ⟨ys0, ys1, ys2, ys3, ys4, ys5⟩ := Bs2.out.six
  go_wp2_with fail
  refine (K2.out _).mono ?_
  rintro e w3 ⟨rfl, hb⟩
  have Bs3 := Blk.on Bs2 hb
  have HB3 := hide (HB2.out.trans (hb.mono HB2.out.size))
  clear hb Bs2 HB2 ys0 ys1 ys2 ys3 ys4 ys5
  obtain ⟨ys0, ys1, ys2, ys3, ys4, ys5⟩ := Bs3.out.six
  go_wp2_with fail
  refine (K3.out _).mono ?_
  rintro e w4 ⟨rfl, hb⟩
  have Bs4 := Blk.on Bs3 hb
  have HB4 := hide (HB3.out.trans (hb.mono HB3.out.size))
  clear hb Bs3 HB3 ys0 ys1 ys2 ys3 ys4 ys5
  obtain ⟨ys0, ys1, ys2, ys3, ys4, ys5⟩ := Bs4.out.six
  go_wp2
  go_ret
  exact ⟨rfl, HB4.out⟩

set_option maxHeartbeats 2000000 in
theorem omay_4 (i : ByteArray) (v z : Int) (f t : ByteArray) (e : Int) (w : World) (h0 : NumT (bys i) 8192) (h1 : NumT (bys t) 8192) (h2 : 0 ≤ v ∧ v ≤ 8192) (h3 : 0 ≤ z ∧ z ≤ 8192) (h4 : ¬ (0 ≤ e ∧ e ≤ 8192))  : Calls Tryz.prog 46 #[opV i v z f t e] w fun e w' => e = .returned (.bool false) ∧ Below w.heap.size w w' := by
  have K0 := hide (fun W => isNum_T i W h0)
  have K1 := hide (fun W => isNum_T t W h1)
  have K2 := hide (fun W => isCount_t v W h2.1 h2.2)
  have K3 := hide (fun W => isCount_t z W h3.1 h3.2)
  have K4 := hide (fun W => isCount_f e W h4)
  clear h0 h1 h2 h3 h4
  have Bs0 := hide (Blk.newAt w (w.heap.size) (rfl) #[.string i, .int .i64 v, .int .i64 z, .string f, .string t, .int .i64 e] 37)
  have HB0 : Hid (Below w.heap.size w (w.alloc (.cells #[.string i, .int .i64 v, .int .i64 z, .string f, .string t, .int .i64 e] 37))) := ((Below.refl _ _).alloc (Nat.le_refl _) _)
  go_enter Tryz.func46, Tryz.ntmps46
  go_wp2_with fail
  refine (K0.out _).mono ?_
  rintro e w1 ⟨rfl, hb⟩
  have Bs1 := Blk.on Bs0 hb
  have HB1 := hide (HB0.out.trans (hb.mono HB0.out.size))
  clear hb Bs0 HB0 
  obtain ⟨ys0, ys1, ys2, ys3, ys4, ys5⟩ := Bs1.out.six
  go_wp2_with fail
  refine (K1.out _).mono ?_
  rintro e w2 ⟨rfl, hb⟩
  have Bs2 := Blk.on Bs1 hb
  have HB2 := hide (HB1.out.trans (hb.mono HB1.out.size))
  clear hb Bs1 HB1 ys0 ys1 ys2 ys3 ys4 ys5
  obtain ⟨ys0, ys1, ys2, ys3, ys4, ys5⟩ := Bs2.out.six
  go_wp2_with fail
  refine (K2.out _).mono ?_
  rintro e w3 ⟨rfl, hb⟩
  have Bs3 := Blk.on Bs2 hb
  have HB3 := hide (HB2.out.trans (hb.mono HB2.out.size))
  clear hb Bs2 HB2 ys0 ys1 ys2 ys3 ys4 ys5
  obtain ⟨ys0, ys1, ys2, ys3, ys4, ys5⟩ := Bs3.out.six
  go_wp2_with fail
  refine (K3.out _).mono ?_
  rintro e w4 ⟨rfl, hb⟩
  have Bs4 := Blk.on Bs3 hb
  have HB4 := hide (HB3.out.trans (hb.mono HB3.out.size))
  clear hb Bs3 HB3 ys0 ys1 ys2 ys3 ys4 ys5
  obtain ⟨ys0, ys1, ys2, ys3, ys4, ys5⟩ := Bs4.out.six
  go_wp2_with fail
  refine (K4.out _).mono ?_
  rintro e w5 ⟨rfl, hb⟩
  have Bs5 := Blk.on Bs4 hb
  have HB5 := hide (HB4.out.trans (hb.mono HB4.out.size))
  clear hb Bs4 HB4 ys0 ys1 ys2 ys3 ys4 ys5
  obtain ⟨ys0, ys1, ys2, ys3, ys4, ys5⟩ := Bs5.out.six
  go_wp2
  go_ret
  exact ⟨rfl, HB5.out⟩

set_option maxHeartbeats 2000000 in
theorem omay_5 (i : ByteArray) (v z : Int) (f t : ByteArray) (e : Int) (w : World) (h0 : NumT (bys i) 8192) (h1 : NumT (bys t) 8192) (h2 : 0 ≤ v ∧ v ≤ 8192) (h3 : 0 ≤ z ∧ z ≤ 8192) (h4 : 0 ≤ e ∧ e ≤ 8192) (h5 : v < z) : Calls Tryz.prog 46 #[opV i v z f t e] w fun e w' => e = .returned (.bool false) ∧ Below w.heap.size w w' := by
  have K0 := hide (fun W => isNum_T i W h0)
  have K1 := hide (fun W => isNum_T t W h1)
  have K2 := hide (fun W => isCount_t v W h2.1 h2.2)
  have K3 := hide (fun W => isCount_t z W h3.1 h3.2)
  have K4 := hide (fun W => isCount_t e W h4.1 h4.2)
  have g5 : decide (v < z) = true := decide_eq_true h5
  clear h0 h1 h2 h3 h4
  have Bs0 := hide (Blk.newAt w (w.heap.size) (rfl) #[.string i, .int .i64 v, .int .i64 z, .string f, .string t, .int .i64 e] 37)
  have HB0 : Hid (Below w.heap.size w (w.alloc (.cells #[.string i, .int .i64 v, .int .i64 z, .string f, .string t, .int .i64 e] 37))) := ((Below.refl _ _).alloc (Nat.le_refl _) _)
  go_enter Tryz.func46, Tryz.ntmps46
  go_wp2_with fail
  refine (K0.out _).mono ?_
  rintro e w1 ⟨rfl, hb⟩
  have Bs1 := Blk.on Bs0 hb
  have HB1 := hide (HB0.out.trans (hb.mono HB0.out.size))
  clear hb Bs0 HB0 
  obtain ⟨ys0, ys1, ys2, ys3, ys4, ys5⟩ := Bs1.out.six
  go_wp2_with fail
  refine (K1.out _).mono ?_
  rintro e w2 ⟨rfl, hb⟩
  have Bs2 := Blk.on Bs1 hb
  have HB2 := hide (HB1.out.trans (hb.mono HB1.out.size))
  clear hb Bs1 HB1 ys0 ys1 ys2 ys3 ys4 ys5
  obtain ⟨ys0, ys1, ys2, ys3, ys4, ys5⟩ := Bs2.out.six
  go_wp2_with fail
  refine (K2.out _).mono ?_
  rintro e w3 ⟨rfl, hb⟩
  have Bs3 := Blk.on Bs2 hb
  have HB3 := hide (HB2.out.trans (hb.mono HB2.out.size))
  clear hb Bs2 HB2 ys0 ys1 ys2 ys3 ys4 ys5
  obtain ⟨ys0, ys1, ys2, ys3, ys4, ys5⟩ := Bs3.out.six
  go_wp2_with fail
  refine (K3.out _).mono ?_
  rintro e w4 ⟨rfl, hb⟩
  have Bs4 := Blk.on Bs3 hb
  have HB4 := hide (HB3.out.trans (hb.mono HB3.out.size))
  clear hb Bs3 HB3 ys0 ys1 ys2 ys3 ys4 ys5
  obtain ⟨ys0, ys1, ys2, ys3, ys4, ys5⟩ := Bs4.out.six
  go_wp2_with fail
  refine (K4.out _).mono ?_
  rintro e w5 ⟨rfl, hb⟩
  have Bs5 := Blk.on Bs4 hb
  have HB5 := hide (HB4.out.trans (hb.mono HB4.out.size))
  clear hb Bs4 HB4 ys0 ys1 ys2 ys3 ys4 ys5
  obtain ⟨ys0, ys1, ys2, ys3, ys4, ys5⟩ := Bs5.out.six
  go_wp2
  go_ret
  exact ⟨rfl, HB5.out⟩

set_option maxHeartbeats 2000000 in
theorem omay_zt (i : ByteArray) (v z e : Int) (w : World) (h0 : NumT (bys i) 8192) (h2 : 0 ≤ v ∧ v ≤ 8192) (h3 : 0 ≤ z ∧ z ≤ 8192) (h4 : 0 ≤ e ∧ e ≤ 8192) (h5 : z ≤ v)  : Calls Tryz.prog 46 #[opV i v z ⟨#[48]⟩ ⟨#[48]⟩ e] w fun e w' => e = .returned (.bool true) ∧ Below w.heap.size w w' := by
  have K0 := hide (fun W => isNum_T i W h0)
  have K1 := hide (fun W => isNum_0 W)
  have K2 := hide (fun W => isCount_t v W h2.1 h2.2)
  have K3 := hide (fun W => isCount_t z W h3.1 h3.2)
  have K4 := hide (fun W => isCount_t e W h4.1 h4.2)
  have g5 : decide (v < z) = false := decide_eq_false (by omega)
  clear h5
  clear h0 h2 h3 h4
  have Bs0 := hide (Blk.newAt w (w.heap.size) (rfl) #[.string i, .int .i64 v, .int .i64 z, .string ⟨#[48]⟩, .string ⟨#[48]⟩, .int .i64 e] 37)
  have HB0 : Hid (Below w.heap.size w (w.alloc (.cells #[.string i, .int .i64 v, .int .i64 z, .string ⟨#[48]⟩, .string ⟨#[48]⟩, .int .i64 e] 37))) := ((Below.refl _ _).alloc (Nat.le_refl _) _)
  go_enter Tryz.func46, Tryz.ntmps46
  go_wp2_with fail
  refine (K0.out _).mono ?_
  rintro e w1 ⟨rfl, hb⟩
  have Bs1 := Blk.on Bs0 hb
  have HB1 := hide (HB0.out.trans (hb.mono HB0.out.size))
  clear hb Bs0 HB0 
  obtain ⟨ys0, ys1, ys2, ys3, ys4, ys5⟩ := Bs1.out.six
  go_wp2_with fail
  refine (K1.out _).mono ?_
  rintro e w2 ⟨rfl, hb⟩
  have Bs2 := Blk.on Bs1 hb
  have HB2 := hide (HB1.out.trans (hb.mono HB1.out.size))
  clear hb Bs1 HB1 ys0 ys1 ys2 ys3 ys4 ys5
  obtain ⟨ys0, ys1, ys2, ys3, ys4, ys5⟩ := Bs2.out.six
  go_wp2_with fail
  refine (K2.out _).mono ?_
  rintro e w3 ⟨rfl, hb⟩
  have Bs3 := Blk.on Bs2 hb
  have HB3 := hide (HB2.out.trans (hb.mono HB2.out.size))
  clear hb Bs2 HB2 ys0 ys1 ys2 ys3 ys4 ys5
  obtain ⟨ys0, ys1, ys2, ys3, ys4, ys5⟩ := Bs3.out.six
  go_wp2_with fail
  refine (K3.out _).mono ?_
  rintro e w4 ⟨rfl, hb⟩
  have Bs4 := Blk.on Bs3 hb
  have HB4 := hide (HB3.out.trans (hb.mono HB3.out.size))
  clear hb Bs3 HB3 ys0 ys1 ys2 ys3 ys4 ys5
  obtain ⟨ys0, ys1, ys2, ys3, ys4, ys5⟩ := Bs4.out.six
  go_wp2_with fail
  refine (K4.out _).mono ?_
  rintro e w5 ⟨rfl, hb⟩
  have Bs5 := Blk.on Bs4 hb
  have HB5 := hide (HB4.out.trans (hb.mono HB4.out.size))
  clear hb Bs4 HB4 ys0 ys1 ys2 ys3 ys4 ys5
  obtain ⟨ys0, ys1, ys2, ys3, ys4, ys5⟩ := Bs5.out.six
  go_wp2
  go_ret
  exact ⟨rfl, HB5.out⟩

set_option maxHeartbeats 2000000 in
theorem omay_zf (i : ByteArray) (v z : Int) (f : ByteArray) (e : Int) (w : World) (h0 : NumT (bys i) 8192) (h2 : 0 ≤ v ∧ v ≤ 8192) (h3 : 0 ≤ z ∧ z ≤ 8192) (h4 : 0 ≤ e ∧ e ≤ 8192) (h5 : z ≤ v) (h6 : bys f ≠ [48]) : Calls Tryz.prog 46 #[opV i v z f ⟨#[48]⟩ e] w fun e w' => e = .returned (.bool false) ∧ Below w.heap.size w w' := by
  have K0 := hide (fun W => isNum_T i W h0)
  have K1 := hide (fun W => isNum_0 W)
  have K2 := hide (fun W => isCount_t v W h2.1 h2.2)
  have K3 := hide (fun W => isCount_t z W h3.1 h3.2)
  have K4 := hide (fun W => isCount_t e W h4.1 h4.2)
  have g5 : decide (v < z) = false := decide_eq_false (by omega)
  have hq := ne_nought h6
  clear h5 h6
  clear h0 h2 h3 h4
  have Bs0 := hide (Blk.newAt w (w.heap.size) (rfl) #[.string i, .int .i64 v, .int .i64 z, .string f, .string ⟨#[48]⟩, .int .i64 e] 37)
  have HB0 : Hid (Below w.heap.size w (w.alloc (.cells #[.string i, .int .i64 v, .int .i64 z, .string f, .string ⟨#[48]⟩, .int .i64 e] 37))) := ((Below.refl _ _).alloc (Nat.le_refl _) _)
  go_enter Tryz.func46, Tryz.ntmps46
  go_wp2_with fail
  refine (K0.out _).mono ?_
  rintro e w1 ⟨rfl, hb⟩
  have Bs1 := Blk.on Bs0 hb
  have HB1 := hide (HB0.out.trans (hb.mono HB0.out.size))
  clear hb Bs0 HB0 
  obtain ⟨ys0, ys1, ys2, ys3, ys4, ys5⟩ := Bs1.out.six
  go_wp2_with fail
  refine (K1.out _).mono ?_
  rintro e w2 ⟨rfl, hb⟩
  have Bs2 := Blk.on Bs1 hb
  have HB2 := hide (HB1.out.trans (hb.mono HB1.out.size))
  clear hb Bs1 HB1 ys0 ys1 ys2 ys3 ys4 ys5
  obtain ⟨ys0, ys1, ys2, ys3, ys4, ys5⟩ := Bs2.out.six
  go_wp2_with fail
  refine (K2.out _).mono ?_
  rintro e w3 ⟨rfl, hb⟩
  have Bs3 := Blk.on Bs2 hb
  have HB3 := hide (HB2.out.trans (hb.mono HB2.out.size))
  clear hb Bs2 HB2 ys0 ys1 ys2 ys3 ys4 ys5
  obtain ⟨ys0, ys1, ys2, ys3, ys4, ys5⟩ := Bs3.out.six
  go_wp2_with fail
  refine (K3.out _).mono ?_
  rintro e w4 ⟨rfl, hb⟩
  have Bs4 := Blk.on Bs3 hb
  have HB4 := hide (HB3.out.trans (hb.mono HB3.out.size))
  clear hb Bs3 HB3 ys0 ys1 ys2 ys3 ys4 ys5
  obtain ⟨ys0, ys1, ys2, ys3, ys4, ys5⟩ := Bs4.out.six
  go_wp2_with fail
  refine (K4.out _).mono ?_
  rintro e w5 ⟨rfl, hb⟩
  have Bs5 := Blk.on Bs4 hb
  have HB5 := hide (HB4.out.trans (hb.mono HB4.out.size))
  clear hb Bs4 HB4 ys0 ys1 ys2 ys3 ys4 ys5
  obtain ⟨ys0, ys1, ys2, ys3, ys4, ys5⟩ := Bs5.out.six
  go_wp2
  go_ret
  exact ⟨rfl, HB5.out⟩

set_option maxHeartbeats 2000000 in
theorem omay_l (i : ByteArray) (v z : Int) (f t : ByteArray) (e : Int) (w : World) (h0 : NumT (bys i) 8192) (h1 : NumT (bys t) 8192) (h2 : 0 ≤ v ∧ v ≤ 8192) (h3 : 0 ≤ z ∧ z ≤ 8192) (h4 : 0 ≤ e ∧ e ≤ 8192) (h5 : z ≤ v) (h6 : bys t ≠ [48]) (h7 : ¬ (t.size : Int) ≤ z) : Calls Tryz.prog 46 #[opV i v z f t e] w fun e w' => e = .returned (.bool false) ∧ Below w.heap.size w w' := by
  have K0 := hide (fun W => isNum_T i W h0)
  have K1 := hide (fun W => isNum_T t W h1)
  have K2 := hide (fun W => isCount_t v W h2.1 h2.2)
  have K3 := hide (fun W => isCount_t z W h3.1 h3.2)
  have K4 := hide (fun W => isCount_t e W h4.1 h4.2)
  have g5 : decide (v < z) = false := decide_eq_false (by omega)
  have hq := ne_nought h6
  have h8 : decide ((t.size : Int) ≤ z) = false := decide_eq_false h7
  clear h5 h6 h7
  clear h0 h1 h2 h3 h4
  have Bs0 := hide (Blk.newAt w (w.heap.size) (rfl) #[.string i, .int .i64 v, .int .i64 z, .string f, .string t, .int .i64 e] 37)
  have HB0 : Hid (Below w.heap.size w (w.alloc (.cells #[.string i, .int .i64 v, .int .i64 z, .string f, .string t, .int .i64 e] 37))) := ((Below.refl _ _).alloc (Nat.le_refl _) _)
  go_enter Tryz.func46, Tryz.ntmps46
  go_wp2_with fail
  refine (K0.out _).mono ?_
  rintro e w1 ⟨rfl, hb⟩
  have Bs1 := Blk.on Bs0 hb
  have HB1 := hide (HB0.out.trans (hb.mono HB0.out.size))
  clear hb Bs0 HB0 
  obtain ⟨ys0, ys1, ys2, ys3, ys4, ys5⟩ := Bs1.out.six
  go_wp2_with fail
  refine (K1.out _).mono ?_
  rintro e w2 ⟨rfl, hb⟩
  have Bs2 := Blk.on Bs1 hb
  have HB2 := hide (HB1.out.trans (hb.mono HB1.out.size))
  clear hb Bs1 HB1 ys0 ys1 ys2 ys3 ys4 ys5
  obtain ⟨ys0, ys1, ys2, ys3, ys4, ys5⟩ := Bs2.out.six
  go_wp2_with fail
  refine (K2.out _).mono ?_
  rintro e w3 ⟨rfl, hb⟩
  have Bs3 := Blk.on Bs2 hb
  have HB3 := hide (HB2.out.trans (hb.mono HB2.out.size))
  clear hb Bs2 HB2 ys0 ys1 ys2 ys3 ys4 ys5
  obtain ⟨ys0, ys1, ys2, ys3, ys4, ys5⟩ := Bs3.out.six
  go_wp2_with fail
  refine (K3.out _).mono ?_
  rintro e w4 ⟨rfl, hb⟩
  have Bs4 := Blk.on Bs3 hb
  have HB4 := hide (HB3.out.trans (hb.mono HB3.out.size))
  clear hb Bs3 HB3 ys0 ys1 ys2 ys3 ys4 ys5
  obtain ⟨ys0, ys1, ys2, ys3, ys4, ys5⟩ := Bs4.out.six
  go_wp2_with fail
  refine (K4.out _).mono ?_
  rintro e w5 ⟨rfl, hb⟩
  have Bs5 := Blk.on Bs4 hb
  have HB5 := hide (HB4.out.trans (hb.mono HB4.out.size))
  clear hb Bs4 HB4 ys0 ys1 ys2 ys3 ys4 ys5
  obtain ⟨ys0, ys1, ys2, ys3, ys4, ys5⟩ := Bs5.out.six
  go_wp2_with fail
  refine wp_region_held_drew (S := (fun w' => w'.cell? ⟨w.heap.size, 2, none⟩ = some (.int .i64 z) ∧ w'.cell? ⟨w.heap.size, 4, none⟩ = some (.string t))) (by kernel_rfl) ?_ (fun hHeld => ?_)
  · (try dsimp only)
    go_keep
  refine wpAnyH_take (i := 0) (oi := Oper.mk (some 44) _ _ _ _ _) (v := .pointer (some ⟨w.heap.size, 4, none⟩)) rfl (by kernel_rfl) (by kernel_rfl) (by kernel_rfl) (fun _ _ _ h => h) (Or.inl ⟨by rfl, ?_⟩) (by assumption) ?_
  · intro wX hSw
    (try dsimp only at hSw)
    go_simp
  simp only [Act.put, List.setIfInBounds_toArray, List.set_cons_succ, List.set_cons_zero]
  refine wpAnyH_take (i := 1) (oi := Oper.mk (some 45) _ _ _ _ _) (v := .string t) rfl (by kernel_rfl) (by kernel_rfl) (by kernel_rfl) (fun _ _ _ h => h) (Or.inl ⟨by rfl, ?_⟩) (by assumption) ?_
  · intro wX hSw
    (try dsimp only at hSw)
    go_simp
  simp only [Act.put, List.setIfInBounds_toArray, List.set_cons_succ, List.set_cons_zero]
  refine wpAnyH_take (i := 2) (oi := Oper.mk (some 46) _ _ _ _ _) (v := .int .i64 (t.size : Int)) rfl (by kernel_rfl) (by kernel_rfl) (by kernel_rfl) (fun _ _ _ h => h) (Or.inl ⟨by rfl, ?_⟩) (by assumption) ?_
  · intro wX hSw
    (try dsimp only at hSw)
    go_simp
  simp only [Act.put, List.setIfInBounds_toArray, List.set_cons_succ, List.set_cons_zero]
  refine wpAnyH_take (i := 3) (oi := Oper.mk (some 47) _ _ _ _ _) (v := .pointer (some ⟨w.heap.size, 2, none⟩)) rfl (by kernel_rfl) (by kernel_rfl) (by kernel_rfl) (fun _ _ _ h => h) (Or.inl ⟨by rfl, ?_⟩) (by assumption) ?_
  · intro wX hSw
    (try dsimp only at hSw)
    go_simp
  simp only [Act.put, List.setIfInBounds_toArray, List.set_cons_succ, List.set_cons_zero]
  refine wpAnyH_take (i := 4) (oi := Oper.mk (some 48) _ _ _ _ _) (v := .int .i64 z) rfl (by kernel_rfl) (by kernel_rfl) (by kernel_rfl) (fun _ _ _ h => h) (Or.inl ⟨by rfl, ?_⟩) (by assumption) ?_
  · intro wX hSw
    (try dsimp only at hSw)
    go_simp
  simp only [Act.put, List.setIfInBounds_toArray, List.set_cons_succ, List.set_cons_zero]
  refine wpAnyH_take (i := 5) (oi := Oper.mk (some 49) _ _ _ _ _) (v := .bool false) rfl (by kernel_rfl) (by kernel_rfl) (by kernel_rfl) (fun _ _ _ h => h) (Or.inl ⟨by rfl, ?_⟩) (by assumption) ?_
  · intro wX hSw
    (try dsimp only at hSw)
    go_simp
  simp only [Act.put, List.setIfInBounds_toArray, List.set_cons_succ, List.set_cons_zero]
  refine wpAnyH_take (i := 6) (oi := Oper.mk (some 50) _ _ _ _ _) (v := .bool false) rfl (by kernel_rfl) (by kernel_rfl) (by kernel_rfl) (fun _ _ _ h => h) (Or.inl ⟨by rfl, ?_⟩) (by assumption) ?_
  · intro wX hSw
    (try dsimp only at hSw)
    go_simp
  simp only [Act.put, List.setIfInBounds_toArray, List.set_cons_succ, List.set_cons_zero]
  refine wpAnyH_take (i := 7) (oi := Oper.mk (some 51) _ _ _ _ _) (v := undef) rfl (by kernel_rfl) (by kernel_rfl) (by kernel_rfl) (fun _ _ _ h => h) (Or.inr ⟨by rfl, rfl⟩) (by assumption) ?_
  simp only [Act.put, List.setIfInBounds_toArray, List.set_cons_succ, List.set_cons_zero]
  refine wpAnyH_take (i := 8) (oi := Oper.mk (some 52) _ _ _ _ _) (v := undef) rfl (by kernel_rfl) (by kernel_rfl) (by kernel_rfl) (fun _ _ _ h => h) (Or.inr ⟨by rfl, rfl⟩) (by assumption) ?_
  simp only [Act.put, List.setIfInBounds_toArray, List.set_cons_succ, List.set_cons_zero]
  refine wpAnyH_take (i := 9) (oi := Oper.mk (some 53) _ _ _ _ _) (v := undef) rfl (by kernel_rfl) (by kernel_rfl) (by kernel_rfl) (fun _ _ _ h => h) (Or.inr ⟨by rfl, rfl⟩) (by assumption) ?_
  simp only [Act.put, List.setIfInBounds_toArray, List.set_cons_succ, List.set_cons_zero]
  refine wpAnyH_take (i := 10) (oi := Oper.mk (some 54) _ _ _ _ _) (v := undef) rfl (by kernel_rfl) (by kernel_rfl) (by kernel_rfl) (fun _ _ _ h => h) (Or.inr ⟨by rfl, rfl⟩) (by assumption) ?_
  simp only [Act.put, List.setIfInBounds_toArray, List.set_cons_succ, List.set_cons_zero]
  refine wpAnyH_take (i := 11) (oi := Oper.mk (some 55) _ _ _ _ _) (v := undef) rfl (by kernel_rfl) (by kernel_rfl) (by kernel_rfl) (fun _ _ _ h => h) (Or.inr ⟨by rfl, rfl⟩) (by assumption) ?_
  simp only [Act.put, List.setIfInBounds_toArray, List.set_cons_succ, List.set_cons_zero]
  refine wpAnyH_take (i := 12) (oi := Oper.mk (some 56) _ _ _ _ _) (v := undef) rfl (by kernel_rfl) (by kernel_rfl) (by kernel_rfl) (fun _ _ _ h => h) (Or.inr ⟨by rfl, rfl⟩) (by assumption) ?_
  simp only [Act.put, List.setIfInBounds_toArray, List.set_cons_succ, List.set_cons_zero]
  refine wpAnyH_take (i := 13) (oi := Oper.mk (some 57) _ _ _ _ _) (v := undef) rfl (by kernel_rfl) (by kernel_rfl) (by kernel_rfl) (fun _ _ _ h => h) (Or.inr ⟨by rfl, rfl⟩) (by assumption) ?_
  simp only [Act.put, List.setIfInBounds_toArray, List.set_cons_succ, List.set_cons_zero]
  refine wpAnyH_take (i := 14) (oi := Oper.mk (some 58) _ _ _ _ _) (v := undef) rfl (by kernel_rfl) (by kernel_rfl) (by kernel_rfl) (fun _ _ _ h => h) (Or.inr ⟨by rfl, rfl⟩) (by assumption) ?_
  simp only [Act.put, List.setIfInBounds_toArray, List.set_cons_succ, List.set_cons_zero]
  refine wpAnyH_take (i := 15) (oi := Oper.mk (some 59) _ _ _ _ _) (v := undef) rfl (by kernel_rfl) (by kernel_rfl) (by kernel_rfl) (fun _ _ _ h => h) (Or.inr ⟨by rfl, rfl⟩) (by assumption) ?_
  simp only [Act.put, List.setIfInBounds_toArray, List.set_cons_succ, List.set_cons_zero]
  refine wpAnyH_take (i := 16) (oi := Oper.mk (some 60) _ _ _ _ _) (v := undef) rfl (by kernel_rfl) (by kernel_rfl) (by kernel_rfl) (fun _ _ _ h => h) (Or.inr ⟨by rfl, rfl⟩) (by assumption) ?_
  simp only [Act.put, List.setIfInBounds_toArray, List.set_cons_succ, List.set_cons_zero]
  refine wpAnyH_take (i := 17) (oi := Oper.mk (some 61) _ _ _ _ _) (v := undef) rfl (by kernel_rfl) (by kernel_rfl) (by kernel_rfl) (fun _ _ _ h => h) (Or.inr ⟨by rfl, rfl⟩) (by assumption) ?_
  simp only [Act.put, List.setIfInBounds_toArray, List.set_cons_succ, List.set_cons_zero]
  refine wpAnyH_take (i := 18) (oi := Oper.mk (some 62) _ _ _ _ _) (v := undef) rfl (by kernel_rfl) (by kernel_rfl) (by kernel_rfl) (fun _ _ _ h => h) (Or.inr ⟨by rfl, rfl⟩) (by assumption) ?_
  simp only [Act.put, List.setIfInBounds_toArray, List.set_cons_succ, List.set_cons_zero]
  refine wpAnyH_take (i := 19) (oi := Oper.mk (some 63) _ _ _ _ _) (v := .bool false) rfl (by kernel_rfl) (by kernel_rfl) (by kernel_rfl) (fun _ _ _ h => h) (Or.inl ⟨by rfl, ?_⟩) (by assumption) ?_
  · intro wX hSw
    (try dsimp only at hSw)
    go_simp
  simp only [Act.put, List.setIfInBounds_toArray, List.set_cons_succ, List.set_cons_zero]
  refine wpAnyH_take (i := 20) (oi := Oper.mk (some 2) _ _ _ _ _) (v := .bool false) rfl (by kernel_rfl) (by kernel_rfl) (by kernel_rfl) (fun _ _ _ h => h) (Or.inl ⟨by rfl, ?_⟩) (by assumption) ?_
  · intro wX hSw
    (try dsimp only at hSw)
    go_simp
  simp only [Act.put, List.setIfInBounds_toArray, List.set_cons_succ, List.set_cons_zero]
  refine wpAnyH_done (by kernel_rfl) ?_ _
  have HBE := hide HB5.out.drew
  go_wp2
  go_ret
  exact ⟨rfl, HBE.out⟩

set_option maxHeartbeats 2000000 in
theorem omay_n (i : ByteArray) (v z : Int) (f t : ByteArray) (e : Int) (w : World) (h0 : NumT (bys i) 8192) (h1 : NumT (bys t) 8192) (h2 : 0 ≤ v ∧ v ≤ 8192) (h3 : 0 ≤ z ∧ z ≤ 8192) (h4 : 0 ≤ e ∧ e ≤ 8192) (h5 : z ≤ v) (h6 : bys t ≠ [48]) (h7 : (t.size : Int) ≤ z) (N : ByteArray) (hN : ∀ W, Calls Tryz.prog 102 #[.int .i64 (v - z)] W fun e w' => e = .returned (.string N) ∧ Below W.heap.size W w') (hn : N.size ≤ 10000) (ht : t.size ≤ 10000) (h9 : bys f ≠ bys t ++ bys N) : Calls Tryz.prog 46 #[opV i v z f t e] w fun e w' => e = .returned (.bool false) ∧ Below w.heap.size w w' := by
  have K0 := hide (fun W => isNum_T i W h0)
  have K1 := hide (fun W => isNum_T t W h1)
  have K2 := hide (fun W => isCount_t v W h2.1 h2.2)
  have K3 := hide (fun W => isCount_t z W h3.1 h3.2)
  have K4 := hide (fun W => isCount_t e W h4.1 h4.2)
  have g5 : decide (v < z) = false := decide_eq_false (by omega)
  have hq := ne_nought h6
  have hf := ne_text (f := f) (g := t ++ N) (by rw [bys_append]; exact h9)
  clear h9
  have HN := hide hN
  have hw : IntKind.i64.wrap (v - z) = v - z := by rw [IntKind.wrap_i64]; omega
  have hs : ¬ 9223372036854775807 < t.size + N.size := by omega
  have h8 : decide ((t.size : Int) ≤ z) = true := decide_eq_true h7
  clear h5 h6 h7 hN hn ht
  clear h0 h1 h2 h3 h4
  have Bs0 := hide (Blk.newAt w (w.heap.size) (rfl) #[.string i, .int .i64 v, .int .i64 z, .string f, .string t, .int .i64 e] 37)
  have HB0 : Hid (Below w.heap.size w (w.alloc (.cells #[.string i, .int .i64 v, .int .i64 z, .string f, .string t, .int .i64 e] 37))) := ((Below.refl _ _).alloc (Nat.le_refl _) _)
  go_enter Tryz.func46, Tryz.ntmps46
  go_wp2_with fail
  refine (K0.out _).mono ?_
  rintro e w1 ⟨rfl, hb⟩
  have Bs1 := Blk.on Bs0 hb
  have HB1 := hide (HB0.out.trans (hb.mono HB0.out.size))
  clear hb Bs0 HB0 
  obtain ⟨ys0, ys1, ys2, ys3, ys4, ys5⟩ := Bs1.out.six
  go_wp2_with fail
  refine (K1.out _).mono ?_
  rintro e w2 ⟨rfl, hb⟩
  have Bs2 := Blk.on Bs1 hb
  have HB2 := hide (HB1.out.trans (hb.mono HB1.out.size))
  clear hb Bs1 HB1 ys0 ys1 ys2 ys3 ys4 ys5
  obtain ⟨ys0, ys1, ys2, ys3, ys4, ys5⟩ := Bs2.out.six
  go_wp2_with fail
  refine (K2.out _).mono ?_
  rintro e w3 ⟨rfl, hb⟩
  have Bs3 := Blk.on Bs2 hb
  have HB3 := hide (HB2.out.trans (hb.mono HB2.out.size))
  clear hb Bs2 HB2 ys0 ys1 ys2 ys3 ys4 ys5
  obtain ⟨ys0, ys1, ys2, ys3, ys4, ys5⟩ := Bs3.out.six
  go_wp2_with fail
  refine (K3.out _).mono ?_
  rintro e w4 ⟨rfl, hb⟩
  have Bs4 := Blk.on Bs3 hb
  have HB4 := hide (HB3.out.trans (hb.mono HB3.out.size))
  clear hb Bs3 HB3 ys0 ys1 ys2 ys3 ys4 ys5
  obtain ⟨ys0, ys1, ys2, ys3, ys4, ys5⟩ := Bs4.out.six
  go_wp2_with fail
  refine (K4.out _).mono ?_
  rintro e w5 ⟨rfl, hb⟩
  have Bs5 := Blk.on Bs4 hb
  have HB5 := hide (HB4.out.trans (hb.mono HB4.out.size))
  clear hb Bs4 HB4 ys0 ys1 ys2 ys3 ys4 ys5
  obtain ⟨ys0, ys1, ys2, ys3, ys4, ys5⟩ := Bs5.out.six
  have b0 : Hid (Below w5.heap.size w5 w5.drew) := bdrewD w5
  have C0 : Hid (∀ X, Hid (Below w5.heap.size w5 X) → Calls Tryz.prog 102 #[.int .i64 (v - z)] X fun e w' => e = .returned (.string N) ∧ Hid (Below w5.heap.size w5 w') ∧ w'.cell? ⟨w.heap.size, 1, none⟩ = some (.int .i64 v) ∧ w'.cell? ⟨w.heap.size, 2, none⟩ = some (.int .i64 z) ∧ w'.cell? ⟨w.heap.size, 3, none⟩ = some (.string f) ∧ w'.cell? ⟨w.heap.size, 4, none⟩ = some (.string t)) := by
    intro X bX
    refine (HN.out X).mono ?_
    rintro e w' ⟨rfl, hb⟩
    have bb := bX.out.trans (hb.mono bX.out.size)
    have Bsq := Bs5.out.below bb Bs5.out.lt
    exact ⟨rfl, bb, Bsq.cell 1, Bsq.cell 2, Bsq.cell 3, Bsq.cell 4⟩
  go_wp2_with fail
  have mk0 : True := trivial
  go_region_held3 (fun w' => w'.cell? ⟨w.heap.size, 1, none⟩ = some (.int .i64 v) ∧ w'.cell? ⟨w.heap.size, 2, none⟩ = some (.int .i64 z) ∧ w'.cell? ⟨w.heap.size, 3, none⟩ = some (.string f) ∧ w'.cell? ⟨w.heap.size, 4, none⟩ = some (.string t)) (go_keep) (first
    | (clear mk0; go_at_call 102; refine (C0.out _ b0).mono ?_; rintro e w6 ⟨rfl, b1, q0_0, q0_1, q0_2, q0_3⟩; have mk1 : True := trivial))
  have Bs6 := hide (Bs5.out.below b1.out Bs5.out.lt)
  have HB6 := hide (HB5.out.trans (b1.out.mono HB5.out.size))
  clear mk1 b0 b1 C0 q0_0 q0_1 q0_2 q0_3 Bs5 HB5 ys0 ys1 ys2 ys3 ys4 ys5
  obtain ⟨ys0, ys1, ys2, ys3, ys4, ys5⟩ := Bs6.out.six
  go_wp2
  go_ret
  exact ⟨rfl, HB6.out⟩

set_option maxHeartbeats 2000000 in
theorem omay_y (i : ByteArray) (v z : Int) (t : ByteArray) (e : Int) (N : ByteArray) (w : World) (h0 : NumT (bys i) 8192) (h1 : NumT (bys t) 8192) (h2 : 0 ≤ v ∧ v ≤ 8192) (h3 : 0 ≤ z ∧ z ≤ 8192) (h4 : 0 ≤ e ∧ e ≤ 8192) (h5 : z ≤ v) (h6 : bys t ≠ [48]) (h7 : (t.size : Int) ≤ z) (hN : ∀ W, Calls Tryz.prog 102 #[.int .i64 (v - z)] W fun e w' => e = .returned (.string N) ∧ Below W.heap.size W w') (hn : N.size ≤ 10000) (ht : t.size ≤ 10000) : Calls Tryz.prog 46 #[opV i v z (t ++ N) t e] w fun e w' => e = .returned (.bool true) ∧ Below w.heap.size w w' := by
  have K0 := hide (fun W => isNum_T i W h0)
  have K1 := hide (fun W => isNum_T t W h1)
  have K2 := hide (fun W => isCount_t v W h2.1 h2.2)
  have K3 := hide (fun W => isCount_t z W h3.1 h3.2)
  have K4 := hide (fun W => isCount_t e W h4.1 h4.2)
  have g5 : decide (v < z) = false := decide_eq_false (by omega)
  have hq := ne_nought h6
  have HN := hide hN
  have hw : IntKind.i64.wrap (v - z) = v - z := by rw [IntKind.wrap_i64]; omega
  have hs : ¬ 9223372036854775807 < t.size + N.size := by omega
  have h8 : decide ((t.size : Int) ≤ z) = true := decide_eq_true h7
  clear h5 h6 h7 hN hn ht
  clear h0 h1 h2 h3 h4
  have Bs0 := hide (Blk.newAt w (w.heap.size) (rfl) #[.string i, .int .i64 v, .int .i64 z, .string (t ++ N), .string t, .int .i64 e] 37)
  have HB0 : Hid (Below w.heap.size w (w.alloc (.cells #[.string i, .int .i64 v, .int .i64 z, .string (t ++ N), .string t, .int .i64 e] 37))) := ((Below.refl _ _).alloc (Nat.le_refl _) _)
  go_enter Tryz.func46, Tryz.ntmps46
  go_wp2_with fail
  refine (K0.out _).mono ?_
  rintro e w1 ⟨rfl, hb⟩
  have Bs1 := Blk.on Bs0 hb
  have HB1 := hide (HB0.out.trans (hb.mono HB0.out.size))
  clear hb Bs0 HB0 
  obtain ⟨ys0, ys1, ys2, ys3, ys4, ys5⟩ := Bs1.out.six
  go_wp2_with fail
  refine (K1.out _).mono ?_
  rintro e w2 ⟨rfl, hb⟩
  have Bs2 := Blk.on Bs1 hb
  have HB2 := hide (HB1.out.trans (hb.mono HB1.out.size))
  clear hb Bs1 HB1 ys0 ys1 ys2 ys3 ys4 ys5
  obtain ⟨ys0, ys1, ys2, ys3, ys4, ys5⟩ := Bs2.out.six
  go_wp2_with fail
  refine (K2.out _).mono ?_
  rintro e w3 ⟨rfl, hb⟩
  have Bs3 := Blk.on Bs2 hb
  have HB3 := hide (HB2.out.trans (hb.mono HB2.out.size))
  clear hb Bs2 HB2 ys0 ys1 ys2 ys3 ys4 ys5
  obtain ⟨ys0, ys1, ys2, ys3, ys4, ys5⟩ := Bs3.out.six
  go_wp2_with fail
  refine (K3.out _).mono ?_
  rintro e w4 ⟨rfl, hb⟩
  have Bs4 := Blk.on Bs3 hb
  have HB4 := hide (HB3.out.trans (hb.mono HB3.out.size))
  clear hb Bs3 HB3 ys0 ys1 ys2 ys3 ys4 ys5
  obtain ⟨ys0, ys1, ys2, ys3, ys4, ys5⟩ := Bs4.out.six
  go_wp2_with fail
  refine (K4.out _).mono ?_
  rintro e w5 ⟨rfl, hb⟩
  have Bs5 := Blk.on Bs4 hb
  have HB5 := hide (HB4.out.trans (hb.mono HB4.out.size))
  clear hb Bs4 HB4 ys0 ys1 ys2 ys3 ys4 ys5
  obtain ⟨ys0, ys1, ys2, ys3, ys4, ys5⟩ := Bs5.out.six
  have b0 : Hid (Below w5.heap.size w5 w5.drew) := bdrewD w5
  have C0 : Hid (∀ X, Hid (Below w5.heap.size w5 X) → Calls Tryz.prog 102 #[.int .i64 (v - z)] X fun e w' => e = .returned (.string N) ∧ Hid (Below w5.heap.size w5 w') ∧ w'.cell? ⟨w.heap.size, 1, none⟩ = some (.int .i64 v) ∧ w'.cell? ⟨w.heap.size, 2, none⟩ = some (.int .i64 z) ∧ w'.cell? ⟨w.heap.size, 3, none⟩ = some (.string (t ++ N)) ∧ w'.cell? ⟨w.heap.size, 4, none⟩ = some (.string t)) := by
    intro X bX
    refine (HN.out X).mono ?_
    rintro e w' ⟨rfl, hb⟩
    have bb := bX.out.trans (hb.mono bX.out.size)
    have Bsq := Bs5.out.below bb Bs5.out.lt
    exact ⟨rfl, bb, Bsq.cell 1, Bsq.cell 2, Bsq.cell 3, Bsq.cell 4⟩
  go_wp2_with fail
  have mk0 : True := trivial
  go_region_held3 (fun w' => w'.cell? ⟨w.heap.size, 1, none⟩ = some (.int .i64 v) ∧ w'.cell? ⟨w.heap.size, 2, none⟩ = some (.int .i64 z) ∧ w'.cell? ⟨w.heap.size, 3, none⟩ = some (.string (t ++ N)) ∧ w'.cell? ⟨w.heap.size, 4, none⟩ = some (.string t)) (go_keep) (first
    | (clear mk0; go_at_call 102; refine (C0.out _ b0).mono ?_; rintro e w6 ⟨rfl, b1, q0_0, q0_1, q0_2, q0_3⟩; have mk1 : True := trivial))
  have Bs6 := hide (Bs5.out.below b1.out Bs5.out.lt)
  have HB6 := hide (HB5.out.trans (b1.out.mono HB5.out.size))
  clear mk1 b0 b1 C0 q0_0 q0_1 q0_2 q0_3 Bs5 HB5 ys0 ys1 ys2 ys3 ys4 ys5
  obtain ⟨ys0, ys1, ys2, ys3, ys4, ys5⟩ := Bs6.out.six
  go_wp2
  go_ret
  exact ⟨rfl, HB6.out⟩

theorem bys_inj {f g : ByteArray} (h : bys f = bys g) : f = g := (mk_bys f).symm.trans ((congrArg (fun l : List UInt8 => (⟨l.toArray⟩ : ByteArray)) h).trans (mk_bys g))

theorem NumT.up {l : List UInt8} {m m' : Int} (h : NumT l m) (hm : m ≤ m') : NumT l m' := by
  rcases h with h | ⟨h1, h2, h3⟩
  · exact .inl h
  · exact .inr ⟨h1, by omega, h3⟩

theorem mayO_iff (x : OperT) : MayO x ↔ NumT x.i 8192 ∧ NumT x.t 8192 ∧ (0 ≤ x.v ∧ x.v ≤ 8192) ∧ (0 ≤ x.w ∧ x.w ≤ 8192) ∧ (0 ≤ x.e ∧ x.e ≤ 8192) ∧ x.w ≤ x.v ∧ ((x.t = [48] ∧ x.f = [48]) ∨ (x.t ≠ [48] ∧ (x.t.length : Int) ≤ x.w ∧ x.f = x.t ++ List.replicate (x.v - x.w).toNat 48)) := by
  constructor
  · rintro ⟨⟨v1, v2⟩, ⟨w1, w2⟩, ⟨e1, e2⟩, hi, hf, ht, h1, h2⟩
    refine ⟨hi, ht.up (by omega), ⟨v1, v2⟩, ⟨w1, by omega⟩, ⟨e1, e2⟩, w2, ?_⟩
    by_cases h : x.t = [48]
    · exact .inl ⟨h, h1 h⟩
    · exact .inr ⟨h, (ht.resolve_left h).2.1, h2 h⟩
  · rintro ⟨hi, ht, ⟨v1, v2⟩, ⟨w1, w2⟩, ⟨e1, e2⟩, hw, h⟩
    rcases h with ⟨h1, h2⟩ | ⟨h1, h2, h3⟩
    · exact ⟨⟨v1, v2⟩, ⟨w1, hw⟩, ⟨e1, e2⟩, hi, .inl h2, .inl h1, fun _ => h2, fun g => absurd h1 g⟩
    · obtain ⟨a1, a2, a3, a4⟩ := ht.resolve_left h1
      refine ⟨⟨v1, v2⟩, ⟨w1, hw⟩, ⟨e1, e2⟩, hi, .inr ⟨?_, ?_, ?_, ?_⟩, .inr ⟨a1, h2, a3, a4⟩, fun g => absurd g h1, fun _ => h3⟩
      · rw [h3]; intro g; exact a1 (List.append_eq_nil_iff.1 g).1
      · rw [h3, List.length_append, List.length_replicate]; omega
      · rw [h3, byt_append_left _ _ (List.length_pos_iff.2 a1)]; exact a3
      · rw [h3]; exact a4.append (digB_rep _)

theorem May_T (i : ByteArray) (v z : Int) (f t : ByteArray) (e : Int) (w : World) (h : MayO ⟨bys i, v, z, bys f, bys t, e⟩) : Calls Tryz.prog 46 #[opV i v z f t e] w fun e w' => e = .returned (.bool true) ∧ Below w.heap.size w w' := by
  obtain ⟨h0, h1, h2, h3, h4, h5, h⟩ := (mayO_iff _).1 h
  simp only at h0 h1 h2 h3 h4 h5 h
  rcases h with ⟨g1, g2⟩ | ⟨g1, g2, g3⟩
  · obtain rfl : t = ⟨#[48]⟩ := by rw [← mk_bys t, g1]
    obtain rfl : f = ⟨#[48]⟩ := by rw [← mk_bys f, g2]
    exact omay_zt i v z e w h0 h2 h3 h4 h5
  · have hl : t.size ≤ 8192 := by
      rw [bys_len] at g2
      omega
    obtain rfl : f = t ++ ⟨(List.replicate (v - z).toNat 48).toArray⟩ := bys_inj (by rw [g3, bys_append, bys_mk (List.replicate (v - z).toNat 48)])
    refine omay_y i v z t e _ w h0 h1 h2 h3 h4 h5 g1 (by rw [bys_len] at g2; exact g2) (fun W => ?_) (by rw [size_mk0, List.length_replicate]; omega) (by omega)
    have := onoughts_any (v - z).toNat W (by omega)
    rwa [show (((v - z).toNat : Nat) : Int) = v - z by omega] at this

theorem May_F (i : ByteArray) (v z : Int) (f t : ByteArray) (e : Int) (w : World) (h : ¬ MayO ⟨bys i, v, z, bys f, bys t, e⟩) : Calls Tryz.prog 46 #[opV i v z f t e] w fun e w' => e = .returned (.bool false) ∧ Below w.heap.size w w' := by
  rw [mayO_iff] at h
  simp only at h
  by_cases h0 : NumT (bys i) 8192
  rotate_left
  · exact omay_0 i v z f t e w h0
  by_cases h1 : NumT (bys t) 8192
  rotate_left
  · exact omay_1 i v z f t e w h0 h1
  by_cases h2 : 0 ≤ v ∧ v ≤ 8192
  rotate_left
  · exact omay_2 i v z f t e w h0 h1 h2
  by_cases h3 : 0 ≤ z ∧ z ≤ 8192
  rotate_left
  · exact omay_3 i v z f t e w h0 h1 h2 h3
  by_cases h4 : 0 ≤ e ∧ e ≤ 8192
  rotate_left
  · exact omay_4 i v z f t e w h0 h1 h2 h3 h4
  by_cases h5 : z ≤ v
  rotate_left
  · exact omay_5 i v z f t e w h0 h1 h2 h3 h4 (by omega)
  by_cases g1 : bys t = [48]
  · obtain rfl : t = ⟨#[48]⟩ := by rw [← mk_bys t, g1]
    exact omay_zf i v z f e w h0 h2 h3 h4 h5 (fun g => h ⟨h0, h1, h2, h3, h4, h5, .inl ⟨g1, g⟩⟩)
  · by_cases g2 : (t.size : Int) ≤ z
    · refine omay_n i v z f t e w h0 h1 h2 h3 h4 h5 g1 g2 ⟨(List.replicate (v - z).toNat 48).toArray⟩ (fun W => ?_) (by rw [size_mk0, List.length_replicate]; omega) (by omega) (fun g => h ⟨h0, h1, h2, h3, h4, h5, .inr ⟨g1, by rw [bys_len]; exact g2, by rw [g, bys_mk (List.replicate (v - z).toNat 48)]⟩⟩)
      have := onoughts_any (v - z).toNat W (by omega)
      rwa [show (((v - z).toNat : Nat) : Int) = v - z by omega] at this
    · exact omay_l i v z f t e w h0 h1 h2 h3 h4 h5 g1 g2

end Go.Proofs.YtkbciljfjijclaaGreatDoor

namespace Go.Proofs.YtkbciljfjijclaaGreatDoor
open Go.RowKit

theorem isLetter_any (b : Nat) (w : World) : Calls Tryz.prog 246 #[.int .u8 (b : Int)] w fun e w' => e = .returned (.bool (decide (97 ≤ b) && decide (b ≤ 122))) ∧ w = w' := by
  by_cases h1 : 97 ≤ b <;> by_cases h2 : b ≤ 122
  · have h1' : 97 ≤ (b : Int) := by omega
    have h2' : (b : Int) ≤ 122 := by omega
    have h3' : decide (97 ≤ (b : Int)) = true := decide_eq_true h1'
    have h4' : decide ((b : Int) ≤ 122) = true := decide_eq_true h2'
    go_enter Tryz.func246, Tryz.ntmps246
    go_wp2
    go_ret
    exact ⟨by simp_all, rfl⟩
  · have h1' : 97 ≤ (b : Int) := by omega
    have h2' : ¬ (b : Int) ≤ 122 := by omega
    have h3' : decide (97 ≤ (b : Int)) = true := decide_eq_true h1'
    have h4' : decide ((b : Int) ≤ 122) = false := decide_eq_false h2'
    go_enter Tryz.func246, Tryz.ntmps246
    go_wp2
    go_ret
    exact ⟨by simp_all, rfl⟩
  · have h1' : ¬ 97 ≤ (b : Int) := by omega
    have h3' : decide (97 ≤ (b : Int)) = false := decide_eq_false h1'
    go_enter Tryz.func246, Tryz.ntmps246
    go_wp2
    go_ret
    exact ⟨by simp_all, rfl⟩
  · have h1' : ¬ 97 ≤ (b : Int) := by omega
    have h3' : decide (97 ≤ (b : Int)) = false := decide_eq_false h1'
    go_enter Tryz.func246, Tryz.ntmps246
    go_wp2
    go_ret
    exact ⟨by simp_all, rfl⟩

theorem isDigit_any (b : Nat) (w : World) : Calls Tryz.prog 248 #[.int .u8 (b : Int)] w fun e w' => e = .returned (.bool (decide (48 ≤ b) && decide (b ≤ 57))) ∧ w = w' := by
  by_cases h1 : 48 ≤ b <;> by_cases h2 : b ≤ 57
  · have h1' : 48 ≤ (b : Int) := by omega
    have h2' : (b : Int) ≤ 57 := by omega
    have h3' : decide (48 ≤ (b : Int)) = true := decide_eq_true h1'
    have h4' : decide ((b : Int) ≤ 57) = true := decide_eq_true h2'
    go_enter Tryz.func248, Tryz.ntmps248
    go_wp2
    go_ret
    exact ⟨by simp_all, rfl⟩
  · have h1' : 48 ≤ (b : Int) := by omega
    have h2' : ¬ (b : Int) ≤ 57 := by omega
    have h3' : decide (48 ≤ (b : Int)) = true := decide_eq_true h1'
    have h4' : decide ((b : Int) ≤ 57) = false := decide_eq_false h2'
    go_enter Tryz.func248, Tryz.ntmps248
    go_wp2
    go_ret
    exact ⟨by simp_all, rfl⟩
  · have h1' : ¬ 48 ≤ (b : Int) := by omega
    have h3' : decide (48 ≤ (b : Int)) = false := decide_eq_false h1'
    go_enter Tryz.func248, Tryz.ntmps248
    go_wp2
    go_ret
    exact ⟨by simp_all, rfl⟩
  · have h1' : ¬ 48 ≤ (b : Int) := by omega
    have h3' : decide (48 ≤ (b : Int)) = false := decide_eq_false h1'
    go_enter Tryz.func248, Tryz.ntmps248
    go_wp2
    go_ret
    exact ⟨by simp_all, rfl⟩

def rowN (p : Nat → Bool) (s : List UInt8) : Nat := (s.takeWhile (fun c => p c.toNat)).length

theorem rowN_le (p : Nat → Bool) (s : List UInt8) : rowN p s ≤ s.length := (List.takeWhile_sublist _).length_le

theorem rowN_in (p : Nat → Bool) (s : List UInt8) (k : Nat) (h : k < rowN p s) : p (byt s k) = true := by
  induction s generalizing k with
  | nil => simp [rowN] at h
  | cons c r ih =>
    by_cases hc : p c.toNat = true
    · cases k with
      | zero => simpa [byt] using hc
      | succ k =>
        have := ih k (by simpa [rowN, List.takeWhile, hc] using h)
        simpa [byt] using this
    · simp [rowN, List.takeWhile, hc] at h

theorem rowN_end (p : Nat → Bool) (s : List UInt8) (h : rowN p s < s.length) : p (byt s (rowN p s)) = false := by
  induction s with
  | nil => simp [rowN] at h
  | cons c r ih =>
    by_cases hc : p c.toNat = true
    · have e : rowN p (c :: r) = rowN p r + 1 := by simp [rowN, List.takeWhile, hc]
      rw [e] at h ⊢
      have := ih (by simpa using h)
      simpa [byt] using this
    · have e : rowN p (c :: r) = 0 := by simp [rowN, List.takeWhile, hc]
      rw [e]
      simpa [byt] using hc

set_option maxHeartbeats 1000000 in
theorem rowSize_any (s : ByteArray) (f : Nat) (p : Nat → Bool) (w : World) (hs : s.size ≤ 281474976710656) (hf : ∀ args w, (callFunc f args).run Tryz.prog w = .ok (.enter f args) w)
    (hp : ∀ (b : Nat) W, Calls Tryz.prog f #[.int .u8 (b : Int)] W fun e w' => e = .returned (.bool (p b)) ∧ W = w') :
    Calls Tryz.prog 247 #[.string s, .func (.func f) #[] #[]] w fun e w' => e = .returned (.int .i64 ((rowN p (bys s) : Nat) : Int)) ∧ w = w' := by
  have HP : Hid (∀ (b : Nat) W, Calls Tryz.prog f #[.int .u8 (b : Int)] W fun e w' => e = .returned (.bool (p b)) ∧ W = w') := hp
  have HI : Hid (∀ k, k < rowN p (bys s) → p (byt (bys s) k) = true) := rowN_in p (bys s)
  have HE : Hid (rowN p (bys s) < (bys s).length → p (byt (bys s) (rowN p (bys s))) = false) := rowN_end p (bys s)
  have hle := rowN_le p (bys s)
  rw [bys_len] at hle
  have HG : Hid (∀ k (h : k < s.size), s[k].toNat = byt (bys s) k) := fun k h => byt_get s k h
  obtain ⟨n, hn⟩ : ∃ n, n = rowN p (bys s) := ⟨_, rfl⟩
  rw [← hn] at HI HE hle ⊢
  rw [bys_len] at HE
  clear hp hn
  go_enter Tryz.func247, Tryz.ntmps247
  go_wp2
  go_loopw [5] (fun i wr => ∃ k : Nat, k ≤ n ∧ i = .int .i64 (k : Int) ∧ wr = w) (fun i _ => n - (intOf i).toNat)
  case atStart => exact ⟨0, Nat.zero_le _, rfl, rfl⟩
  case round =>
    obtain ⟨k, hk, rfl, hw⟩ := hrel
    replace hw := hw.symm
    subst hw
    by_cases hks : k < s.size
    · have hlt' : (k : Int) < (s.size : Int) := by omega
      have hg : ∀ h : k < s.size, s[k].toNat = byt (bys s) k := fun h => HG.out k h
      by_cases hlt : k < n
      · have hp1 := HI.out k hlt
        have PC := hide (fun W => HP.out (byt (bys s) k) W)
        obtain ⟨b, hbb⟩ : ∃ b, b = byt (bys s) k := ⟨_, rfl⟩
        rw [← hbb] at hg hp1 PC
        rw [hp1] at PC
        clear hbb HI HE hp1
        go_wp2_with fail
        refine (PC.out _).mono ?_
        rintro e w' ⟨rfl, rfl⟩
        go_wp2
        exact ⟨⟨k + 1, by omega, by go_num, trivial⟩, by simp [intOf]; omega⟩
      · obtain rfl : k = n := by omega
        have hp1 := HE.out hks
        have PC := hide (fun W => HP.out (byt (bys s) k) W)
        obtain ⟨b, hbb⟩ : ∃ b, b = byt (bys s) k := ⟨_, rfl⟩
        rw [← hbb] at hg hp1 PC
        rw [hp1] at PC
        clear hbb HI HE hp1
        go_wp2_with fail
        refine (PC.out _).mono ?_
        rintro e w' ⟨rfl, rfl⟩
        go_wp2
        go_ret
        exact ⟨rfl, rfl⟩
    · obtain rfl : k = n := by omega
      have hlt' : ¬ (k : Int) < (s.size : Int) := by omega
      clear HI HE HG
      go_wp2
      go_ret
      exact ⟨rfl, rfl⟩

end Go.Proofs.YtkbciljfjijclaaGreatDoor

namespace Go.Proofs.YtkbciljfjijclaaGreatDoor
open Go.RowKit

abbrev PC : List PanicEntry := [{ v := .iface 24 (.int .i64 90), recovered := false }]

theorem hasP_two (c : UInt8) (r : List UInt8) (a b : UInt8) : Lib.hasPrefix (c :: r) [a, b] = true ↔ c = a ∧ r.head? = some b := by
  unfold Lib.hasPrefix
  cases r with
  | nil => simp [List.isPrefixOf]
  | cons d r =>
    simp only [List.isPrefixOf, Bool.and_eq_true, beq_iff_eq, Bool.and_true, List.head?_cons, Option.some.injEq]
    exact ⟨fun ⟨h, k⟩ => ⟨h.symm, k.symm⟩, fun ⟨h, k⟩ => ⟨h.symm, k.symm⟩⟩

theorem index_mem (l : List UInt8) (c : UInt8) : 0 ≤ Lib.indexByte l c ↔ c ∈ l := by
  induction l with
  | nil => simp [Lib.indexByte]
  | cons b l ih =>
    have hge := Lib.indexByte_ge l c
    simp only [Lib.indexByte, List.mem_cons]
    by_cases h : b = c
    · simp [h]
    · have h' : (b == c) = false := beq_eq_false_iff_ne.2 h
      rw [h', if_neg (by simp)]
      by_cases h2 : Lib.indexByte l c = -1
      · rw [h2]
        have : ¬ c ∈ l := fun hm => by have := ih.2 hm; omega
        simp [this, Ne.symm h]
      · have : (Lib.indexByte l c == -1) = false := beq_eq_false_iff_ne.2 h2
        rw [this, if_neg (by simp)]
        have : c ∈ l := ih.1 (by omega)
        simp [this]
        omega

theorem isSg_mem (c : UInt8) : isSg c = true ↔ c ∈ ([58, 59, 37, 61, 44, 43] : List UInt8) := by
  unfold isSg
  simp only [Bool.or_eq_true, beq_iff_eq, List.mem_cons, List.not_mem_nil, or_false, ← UInt8.toNat_inj]
  constructor
  · rintro (((((h | h) | h) | h) | h) | h) <;> simp [h]
  · rintro (h | h | h | h | h | h) <;> simp [h]

theorem rowLt (s : List UInt8) : rowN (fun b => decide (97 ≤ b) && decide (b ≤ 122)) s = (s.takeWhile isLt).length := rfl
theorem rowNm (s : List UInt8) : rowN (fun b => decide (48 ≤ b) && decide (b ≤ 57)) s = (s.takeWhile isNm).length := rfl

set_option maxHeartbeats 1000000 in
theorem partSize_L (s : ByteArray) (c : UInt8) (r : List UInt8) (w : World) (hs : s.size ≤ 281474976710656) (hc : bys s = c :: r) (h1 : isLt c = true) :
    Calls Tryz.prog 200 #[.string s] w fun e w' => e = .returned (.int .i64 (((bys s).takeWhile isLt).length : Nat)) ∧ w = w' := by
  have hsz : 0 < s.size := by rw [← bys_len, hc]; simp
  have hlt' : (0 : Int) < (s.size : Int) := by omega
  have hg : ∀ h : 0 < s.size, s[0].toNat = c.toNat := fun h => by rw [byt_get s 0 h, hc]; rfl
  have IL := hide (fun W => isLetter_any c.toNat W)
  rw [show (decide (97 ≤ c.toNat) && decide (c.toNat ≤ 122)) = true from h1] at IL
  have RS := hide (fun W => rowSize_any s 246 _ W hs (enters_of Tryz.func246 (by kernel_rfl) rfl) isLetter_any)
  rw [rowLt] at RS
  obtain ⟨N, hN⟩ : ∃ N : Nat, N = ((bys s).takeWhile isLt).length := ⟨_, rfl⟩
  rw [← hN] at RS ⊢
  clear hN
  obtain ⟨b, hb⟩ : ∃ b, b = c.toNat := ⟨_, rfl⟩
  rw [← hb] at hg IL
  clear hb hc h1 hs
  go_enter Tryz.func200, Tryz.ntmps200
  go_wp2_with fail
  refine (IL.out _).mono ?_
  rintro e w' ⟨rfl, rfl⟩
  go_wp2_with fail
  refine (RS.out _).mono ?_
  rintro e w' ⟨rfl, rfl⟩
  go_wp2
  go_ret
  exact ⟨rfl, rfl⟩

set_option maxHeartbeats 1000000 in
theorem partSize_D (s : ByteArray) (c : UInt8) (r : List UInt8) (w : World) (hs : s.size ≤ 281474976710656) (hc : bys s = c :: r) (h1 : isLt c = false) (h2 : isNm c = true) :
    Calls Tryz.prog 200 #[.string s] w fun e w' => e = .returned (.int .i64 (((bys s).takeWhile isNm).length : Nat)) ∧ w = w' := by
  have hsz : 0 < s.size := by rw [← bys_len, hc]; simp
  have hlt' : (0 : Int) < (s.size : Int) := by omega
  have hg : ∀ h : 0 < s.size, s[0].toNat = c.toNat := fun h => by rw [byt_get s 0 h, hc]; rfl
  have IL := hide (fun W => isLetter_any c.toNat W)
  rw [show (decide (97 ≤ c.toNat) && decide (c.toNat ≤ 122)) = false from h1] at IL
  have ID := hide (fun W => isDigit_any c.toNat W)
  rw [show (decide (48 ≤ c.toNat) && decide (c.toNat ≤ 57)) = true from h2] at ID
  have RS := hide (fun W => rowSize_any s 248 _ W hs (enters_of Tryz.func248 (by kernel_rfl) rfl) isDigit_any)
  rw [rowNm] at RS
  obtain ⟨N, hN⟩ : ∃ N : Nat, N = ((bys s).takeWhile isNm).length := ⟨_, rfl⟩
  rw [← hN] at RS ⊢
  clear hN
  obtain ⟨b, hb⟩ : ∃ b, b = c.toNat := ⟨_, rfl⟩
  rw [← hb] at hg IL ID
  clear hb hc h1 h2 hs
  go_enter Tryz.func200, Tryz.ntmps200
  go_wp2_with fail
  refine (IL.out _).mono ?_
  rintro e w' ⟨rfl, rfl⟩
  go_wp2_with fail
  refine (ID.out _).mono ?_
  rintro e w' ⟨rfl, rfl⟩
  go_wp2_with fail
  refine (RS.out _).mono ?_
  rintro e w' ⟨rfl, rfl⟩
  go_wp2
  go_ret
  exact ⟨rfl, rfl⟩

set_option maxHeartbeats 1000000 in
theorem partSize_P (s : ByteArray) (c : UInt8) (r : List UInt8) (w : World) (hs : s.size ≤ 281474976710656) (hc : bys s = c :: r) (h1 : isLt c = false) (h2 : isNm c = false) (h3 : Lib.hasPrefix s.data.toList [33, 61] = true) :
    Calls Tryz.prog 200 #[.string s] w fun e w' => e = .returned (.int .i64 2) ∧ w = w' := by
  have hsz : 0 < s.size := by rw [← bys_len, hc]; simp
  have hlt' : (0 : Int) < (s.size : Int) := by omega
  have hg : ∀ h : 0 < s.size, s[0].toNat = c.toNat := fun h => by rw [byt_get s 0 h, hc]; rfl
  have IL := hide (fun W => isLetter_any c.toNat W)
  rw [show (decide (97 ≤ c.toNat) && decide (c.toNat ≤ 122)) = false from h1] at IL
  have ID := hide (fun W => isDigit_any c.toNat W)
  rw [show (decide (48 ≤ c.toNat) && decide (c.toNat ≤ 57)) = false from h2] at ID
  have HP := hide (fun W => Tryz.strings_HasPrefix s ⟨#[33, 61]⟩ W)
  rw [show Lib.hasPrefix s.data.toList (⟨#[33, 61]⟩ : ByteArray).data.toList = true from h3] at HP
  obtain ⟨b, hb⟩ : ∃ b, b = c.toNat := ⟨_, rfl⟩
  rw [← hb] at hg IL ID
  clear hb hc h1 h2 h3 hs
  go_enter Tryz.func200, Tryz.ntmps200
  go_wp2_with fail
  refine (IL.out _).mono ?_
  rintro e w' ⟨rfl, rfl⟩
  go_wp2_with fail
  refine (ID.out _).mono ?_
  rintro e w' ⟨rfl, rfl⟩
  go_wp2_with fail
  refine (HP.out _).mono ?_
  rintro e w' ⟨rfl, hw⟩
  subst hw
  go_wp2
  go_ret
  exact ⟨rfl, rfl⟩

set_option maxHeartbeats 1000000 in
theorem partSize_Q (s : ByteArray) (c : UInt8) (r : List UInt8) (w : World) (hs : s.size ≤ 281474976710656) (hc : bys s = c :: r) (h1 : isLt c = false) (h2 : isNm c = false) (h3 : Lib.hasPrefix s.data.toList [33, 61] = false) (h4 : Lib.hasPrefix s.data.toList [46, 46] = true) :
    Calls Tryz.prog 200 #[.string s] w fun e w' => e = .returned (.int .i64 2) ∧ w = w' := by
  have hsz : 0 < s.size := by rw [← bys_len, hc]; simp
  have hlt' : (0 : Int) < (s.size : Int) := by omega
  have hg : ∀ h : 0 < s.size, s[0].toNat = c.toNat := fun h => by rw [byt_get s 0 h, hc]; rfl
  have IL := hide (fun W => isLetter_any c.toNat W)
  rw [show (decide (97 ≤ c.toNat) && decide (c.toNat ≤ 122)) = false from h1] at IL
  have ID := hide (fun W => isDigit_any c.toNat W)
  rw [show (decide (48 ≤ c.toNat) && decide (c.toNat ≤ 57)) = false from h2] at ID
  have HP := hide (fun W => Tryz.strings_HasPrefix s ⟨#[33, 61]⟩ W)
  rw [show Lib.hasPrefix s.data.toList (⟨#[33, 61]⟩ : ByteArray).data.toList = false from h3] at HP
  have HQ := hide (fun W => Tryz.strings_HasPrefix s ⟨#[46, 46]⟩ W)
  rw [show Lib.hasPrefix s.data.toList (⟨#[46, 46]⟩ : ByteArray).data.toList = true from h4] at HQ
  obtain ⟨b, hb⟩ : ∃ b, b = c.toNat := ⟨_, rfl⟩
  rw [← hb] at hg IL ID
  clear hb hc h1 h2 h3 h4 hs
  go_enter Tryz.func200, Tryz.ntmps200
  go_wp2_with fail
  refine (IL.out _).mono ?_
  rintro e w' ⟨rfl, rfl⟩
  go_wp2_with fail
  refine (ID.out _).mono ?_
  rintro e w' ⟨rfl, rfl⟩
  go_wp2_with fail
  refine (HP.out _).mono ?_
  rintro e w' ⟨rfl, hw⟩
  subst hw
  go_wp2_with fail
  refine (HQ.out _).mono ?_
  rintro e w' ⟨rfl, hw⟩
  subst hw
  go_wp2
  go_ret
  exact ⟨rfl, rfl⟩

set_option maxHeartbeats 1000000 in
theorem partSize_S (s : ByteArray) (c : UInt8) (r : List UInt8) (w : World) (hs : s.size ≤ 281474976710656) (hc : bys s = c :: r) (h1 : isLt c = false) (h2 : isNm c = false) (h3 : Lib.hasPrefix s.data.toList [33, 61] = false) (h4 : Lib.hasPrefix s.data.toList [46, 46] = false) (h5 : 0 ≤ Lib.indexByte [58, 59, 37, 61, 44, 43] c) :
    Calls Tryz.prog 200 #[.string s] w fun e w' => e = .returned (.int .i64 1) ∧ w = w' := by
  have hsz : 0 < s.size := by rw [← bys_len, hc]; simp
  have hlt' : (0 : Int) < (s.size : Int) := by omega
  have hg : ∀ h : 0 < s.size, s[0].toNat = c.toNat := fun h => by rw [byt_get s 0 h, hc]; rfl
  have IL := hide (fun W => isLetter_any c.toNat W)
  rw [show (decide (97 ≤ c.toNat) && decide (c.toNat ≤ 122)) = false from h1] at IL
  have ID := hide (fun W => isDigit_any c.toNat W)
  rw [show (decide (48 ≤ c.toNat) && decide (c.toNat ≤ 57)) = false from h2] at ID
  have HP := hide (fun W => Tryz.strings_HasPrefix s ⟨#[33, 61]⟩ W)
  rw [show Lib.hasPrefix s.data.toList (⟨#[33, 61]⟩ : ByteArray).data.toList = false from h3] at HP
  have HQ := hide (fun W => Tryz.strings_HasPrefix s ⟨#[46, 46]⟩ W)
  rw [show Lib.hasPrefix s.data.toList (⟨#[46, 46]⟩ : ByteArray).data.toList = false from h4] at HQ
  have IB := hide (fun W => Tryz.strings_IndexByte ⟨#[58, 59, 37, 61, 44, 43]⟩ (c.toNat : Int) W)
  rw [show Lib.indexByte (⟨#[58, 59, 37, 61, 44, 43]⟩ : ByteArray).data.toList ((c.toNat : Int).toNat.toUInt8) = Lib.indexByte [58, 59, 37, 61, 44, 43] c from by rw [Int.toNat_natCast]; simp] at IB
  obtain ⟨q, hq⟩ : ∃ q, q = Lib.indexByte [58, 59, 37, 61, 44, 43] c := ⟨_, rfl⟩
  rw [← hq] at IB h5
  clear hq
  obtain ⟨b, hb⟩ : ∃ b, b = c.toNat := ⟨_, rfl⟩
  rw [← hb] at hg IL ID IB
  clear hb hc h1 h2 h3 h4 hs
  go_enter Tryz.func200, Tryz.ntmps200
  go_wp2_with fail
  refine (IL.out _).mono ?_
  rintro e w' ⟨rfl, rfl⟩
  go_wp2_with fail
  refine (ID.out _).mono ?_
  rintro e w' ⟨rfl, rfl⟩
  go_wp2_with fail
  refine (HP.out _).mono ?_
  rintro e w' ⟨rfl, hw⟩
  subst hw
  go_wp2_with fail
  refine (HQ.out _).mono ?_
  rintro e w' ⟨rfl, hw⟩
  subst hw
  go_wp2_with fail
  refine (IB.out _).mono ?_
  rintro e w' ⟨rfl, hw⟩
  subst hw
  go_wp2
  go_ret
  exact ⟨rfl, rfl⟩

set_option maxHeartbeats 1000000 in
theorem partSize_X (s : ByteArray) (c : UInt8) (r : List UInt8) (w : World) (hs : s.size ≤ 281474976710656) (hc : bys s = c :: r) (h1 : isLt c = false) (h2 : isNm c = false) (h3 : Lib.hasPrefix s.data.toList [33, 61] = false) (h4 : Lib.hasPrefix s.data.toList [46, 46] = false) (h5 : ¬ 0 ≤ Lib.indexByte [58, 59, 37, 61, 44, 43] c) :
    Calls Tryz.prog 200 #[.string s] w fun e w' => e = .panicked PC ∧ w = w' := by
  have hsz : 0 < s.size := by rw [← bys_len, hc]; simp
  have hlt' : (0 : Int) < (s.size : Int) := by omega
  have hg : ∀ h : 0 < s.size, s[0].toNat = c.toNat := fun h => by rw [byt_get s 0 h, hc]; rfl
  have IL := hide (fun W => isLetter_any c.toNat W)
  rw [show (decide (97 ≤ c.toNat) && decide (c.toNat ≤ 122)) = false from h1] at IL
  have ID := hide (fun W => isDigit_any c.toNat W)
  rw [show (decide (48 ≤ c.toNat) && decide (c.toNat ≤ 57)) = false from h2] at ID
  have HP := hide (fun W => Tryz.strings_HasPrefix s ⟨#[33, 61]⟩ W)
  rw [show Lib.hasPrefix s.data.toList (⟨#[33, 61]⟩ : ByteArray).data.toList = false from h3] at HP
  have HQ := hide (fun W => Tryz.strings_HasPrefix s ⟨#[46, 46]⟩ W)
  rw [show Lib.hasPrefix s.data.toList (⟨#[46, 46]⟩ : ByteArray).data.toList = false from h4] at HQ
  have IB := hide (fun W => Tryz.strings_IndexByte ⟨#[58, 59, 37, 61, 44, 43]⟩ (c.toNat : Int) W)
  rw [show Lib.indexByte (⟨#[58, 59, 37, 61, 44, 43]⟩ : ByteArray).data.toList ((c.toNat : Int).toNat.toUInt8) = Lib.indexByte [58, 59, 37, 61, 44, 43] c from by rw [Int.toNat_natCast]; simp] at IB
  obtain ⟨q, hq⟩ : ∃ q, q = Lib.indexByte [58, 59, 37, 61, 44, 43] c := ⟨_, rfl⟩
  rw [← hq] at IB h5
  clear hq
  obtain ⟨b, hb⟩ : ∃ b, b = c.toNat := ⟨_, rfl⟩
  rw [← hb] at hg IL ID IB
  clear hb hc h1 h2 h3 h4 hs
  go_enter Tryz.func200, Tryz.ntmps200
  go_wp2_with fail
  refine (IL.out _).mono ?_
  rintro e w' ⟨rfl, rfl⟩
  go_wp2_with fail
  refine (ID.out _).mono ?_
  rintro e w' ⟨rfl, rfl⟩
  go_wp2_with fail
  refine (HP.out _).mono ?_
  rintro e w' ⟨rfl, hw⟩
  subst hw
  go_wp2_with fail
  refine (HQ.out _).mono ?_
  rintro e w' ⟨rfl, hw⟩
  subst hw
  go_wp2_with fail
  refine (IB.out _).mono ?_
  rintro e w' ⟨rfl, hw⟩
  subst hw
  go_wp2
  exact ⟨rfl, rfl, rfl⟩

theorem partSize_any (s : ByteArray) (w : World) (hs : s.size ≤ 281474976710656) (h0 : bys s ≠ []) :
    Calls Tryz.prog 200 #[.string s] w fun e w' => (match partN (bys s) with | some n => e = .returned (.int .i64 (n : Int)) | none => e = .panicked PC) ∧ w = w' := by
  cases hc : bys s with
  | nil => exact absurd hc h0
  | cons c r =>
    have e0 : s.data.toList = c :: r := hc
    simp only [partN]
    by_cases h1 : isLt c = true
    · rw [if_pos h1]
      exact (partSize_L s c r w hs hc h1).mono (fun e w' ⟨h, k⟩ => ⟨by rw [h, hc], k⟩)
    · rw [if_neg h1]
      have h1' : isLt c = false := by simpa using h1
      by_cases h2 : isNm c = true
      · rw [if_pos h2]
        exact (partSize_D s c r w hs hc h1' h2).mono (fun e w' ⟨h, k⟩ => ⟨by rw [h, hc], k⟩)
      · rw [if_neg h2]
        have h2' : isNm c = false := by simpa using h2
        have n33 : ∀ k : UInt8, c.toNat = k.toNat ↔ c = k := fun k => UInt8.toNat_inj
        by_cases h3 : Lib.hasPrefix s.data.toList [33, 61] = true
        · have := h3
          rw [e0, hasP_two] at this
          rw [if_pos (.inl ⟨by rw [this.1]; rfl, this.2⟩)]
          exact partSize_P s c r w hs hc h1' h2' h3
        · have h3' : Lib.hasPrefix s.data.toList [33, 61] = false := by simpa using h3
          by_cases h4 : Lib.hasPrefix s.data.toList [46, 46] = true
          · have := h4
            rw [e0, hasP_two] at this
            rw [if_pos (.inr ⟨by rw [this.1]; rfl, this.2⟩)]
            exact partSize_Q s c r w hs hc h1' h2' h3' h4
          · have h4' : Lib.hasPrefix s.data.toList [46, 46] = false := by simpa using h4
            rw [e0, hasP_two] at h3 h4
            rw [if_neg (by
              rintro (⟨h, k⟩ | ⟨h, k⟩)
              · exact h3 ⟨(n33 33).1 h, k⟩
              · exact h4 ⟨(n33 46).1 h, k⟩)]
            by_cases h5 : isSg c = true
            · rw [if_pos h5]
              exact partSize_S s c r w hs hc h1' h2' h3' h4' ((index_mem _ _).2 ((isSg_mem c).1 h5))
            · rw [if_neg h5]
              exact partSize_X s c r w hs hc h1' h2' h3' h4' (fun h => h5 ((isSg_mem c).2 ((index_mem _ _).1 h)))

end Go.Proofs.YtkbciljfjijclaaGreatDoor

namespace Go.Proofs.YtkbciljfjijclaaGreatDoor
open Go.RowKit

attribute [local go_sem] Oper.semAt_some

def mkB (l : List UInt8) : ByteArray := ⟨l.toArray⟩

theorem bys_mkB (l : List UInt8) : bys (mkB l) = l := rfl

structure Rest (S : List UInt8) (k : Nat) (r : ByteArray) : Prop where
  le : k ≤ (toks S).1.length
  trim : trimB (bys r) = bys r
  same : toks (bys r) = ((toks S).1.drop k, (toks S).2)
  size : r.size ≤ 1024

theorem trimB_again (s : List UInt8) : trimB (trimB s) = trimB s := by
  unfold trimB
  induction s with
  | nil => rfl
  | cons c r ih =>
    by_cases h : (c == 32) = true
    · simp only [List.dropWhile, h]; exact ih
    · have h' : (c == 32) = false := by simpa using h
      simp [List.dropWhile, h']

theorem toks_trim (s : List UInt8) : toks (trimB s) = toks s := by
  rw [toks_step, toks_step s, trimB_again]

theorem Rest.start (t : ByteArray) (ht : t.size ≤ 1024) : Rest (bys t) 0 ⟨(Lib.trimLeftB t.data.toList 32).toArray⟩ := by
  have e : bys ⟨(Lib.trimLeftB t.data.toList 32).toArray⟩ = trimB (bys t) := rfl
  refine ⟨Nat.zero_le _, by rw [e, trimB_again], by rw [e, toks_trim]; rfl, ?_⟩
  rw [← bys_len, e]
  have := trimB_len (bys t)
  rw [bys_len] at this
  omega

theorem Rest.nil {S : List UInt8} {k : Nat} {r : ByteArray} (h : Rest S k r) (h0 : bys r = []) : (toks S).2 = false ∧ k = (toks S).1.length := by
  have := h.same
  rw [h0] at this
  have e : toks [] = ([], false) := rfl
  rw [e, Prod.mk.injEq] at this
  have h1 := h.le
  have h2 := congrArg List.length this.1
  rw [List.length_drop] at h2
  simp at h2
  exact ⟨this.2.symm, by omega⟩

theorem Rest.bad {S : List UInt8} {k : Nat} {r : ByteArray} (h : Rest S k r) (h0 : bys r ≠ []) (hp : partN (bys r) = none) : (toks S).2 = true ∧ k = (toks S).1.length := by
  have := h.same
  rw [toks_step, h.trim] at this
  have h1 := h.le
  revert hp this h0
  generalize bys r = l
  intro h0 hp this
  cases l with
  | nil => exact absurd rfl h0
  | cons c q =>
    dsimp only at this
    rw [hp] at this
    dsimp only at this
    rw [Prod.mk.injEq] at this
    have h2 := congrArg List.length this.1
    rw [List.length_drop] at h2
    simp at h2
    exact ⟨this.2.symm, by omega⟩

theorem Rest.go {S : List UInt8} {k n : Nat} {r : ByteArray} (h : Rest S k r) (h0 : bys r ≠ []) (hp : partN (bys r) = some n) :
    (toks S).1[k]? = some ((bys r).take n) ∧ Rest S (k + 1) ⟨(Lib.trimLeftB (r.extract n r.size).data.toList 32).toArray⟩ := by
  have hs := h.same
  rw [toks_step, h.trim] at hs
  have h1 := h.le
  have hn := partN_le hp
  have e : bys ⟨(Lib.trimLeftB (r.extract n r.size).data.toList 32).toArray⟩ = trimB ((bys r).drop n) := by
    show trimB (bys (r.extract n r.size)) = _
    rw [bys_from _ _ _ (Nat.le_refl _)]
  have e2 : toks (bys r) = ((bys r).take n :: (toks ((bys r).drop n)).1, (toks ((bys r).drop n)).2) := by
    rw [toks_step, h.trim]
    revert hp h0
    generalize bys r = l
    intro h0 hp
    cases l with
    | nil => exact absurd rfl h0
    | cons c q =>
      dsimp only
      rw [hp]
  have hs := h.same
  rw [e2, Prod.mk.injEq] at hs
  have hk : (toks S).1[k]? = some ((bys r).take n) := by
    have := congrArg (fun l => l[0]?) hs.1
    simp only [List.getElem?_cons_zero, List.getElem?_drop, Nat.add_zero] at this
    exact this.symm
  have hlt : k < (toks S).1.length := by
    rcases Nat.lt_or_ge k (toks S).1.length with q | q
    · exact q
    · rw [List.getElem?_eq_none q] at hk; cases hk
  refine ⟨hk, ⟨hlt, by rw [e, trimB_again], ?_, ?_⟩⟩
  · rw [e, toks_trim, Prod.ext_iff]
    refine ⟨?_, hs.2⟩
    have := congrArg List.tail hs.1
    rw [List.tail_cons, List.tail_drop] at this
    exact this
  · rw [← bys_len, e]
    have h3 := trimB_len ((bys r).drop n)
    have h4 := h.size
    rw [List.length_drop, bys_len] at h3
    omega

def strOf : Value → ByteArray
  | .string s => s
  | _ => ⟨#[]⟩

set_option maxRecDepth 100000 in
set_option maxHeartbeats 1000000 in
theorem parts1_pan (B : Nat) (t : ByteArray) (w : World) (ht : t.size ≤ 1024) (hB : B < w.heap.size) (hc : w.cell? ⟨B, 0, none⟩ = some (.string t)) :
    SeqPan Tryz.prog 2 199 #[.pointer (some ⟨B, 0, none⟩)] (fun l : Tok => #[Value.string (mkB l)]) (fun _ _ => True) (toks (bys t)).1 (toks (bys t)).2 PC w := by
  intro l J Jp W hW _ hY h0
  have hc' : W.cell? ⟨B, 0, none⟩ = some (.string t) := (hW.cell (p := ⟨B, 0, none⟩) hB).trans hc
  have TL := hide (fun (s : ByteArray) (X : World) => Tryz.strings_TrimLeft_one s 32 (by decide) X)
  have R0 := hide (Rest.start t ht)
  have HY := hide hY
  have H0 := hide h0
  obtain ⟨S, hS⟩ : ∃ S, S = bys t := ⟨_, rfl⟩
  rw [← hS] at R0 HY ⊢
  clear hY h0 hS hc hB hW ht
  refine callsIn_of_wp Tryz.func199 rfl trivial ?_ rfl
  simp only [Tryz.ntmps199, List.size_toArray, List.length_cons, List.length_nil, Nat.reduceAdd, Nat.reduceSub, Array.replicate_succ, Array.replicate_zero, List.push_toArray, List.append_toArray, List.nil_append, List.cons_append]
  gi_wp2_with fail
  refine ⟨trivial, (callsIn_wide.2 (TL.out _ _)).mono ?_⟩
  rintro e w' ⟨rfl, rfl⟩
  obtain ⟨r0, hr0⟩ : ∃ r0 : ByteArray, r0 = ⟨(Lib.trimLeftB t.data.toList 32).toArray⟩ := ⟨_, rfl⟩
  rw [← hr0] at R0 ⊢
  clear hr0
  gi_wp2
  gi_loopw [3] (fun p wr => ∃ (k : Nat) (r : ByteArray), p = .string r ∧ Hid (Rest S k r) ∧ Hid (J k wr)) (fun p _ => (strOf p).size)
  case atStart => exact ⟨0, r0, rfl, R0, H0⟩
  case round =>
    obtain ⟨k, r, rfl, HR, HJ⟩ := hrel
    by_cases hz : bys r = []
    · obtain ⟨h1, rfl⟩ := HR.out.nil hz
      obtain rfl : r = ⟨#[]⟩ := by
        cases r with
        | mk d => cases d with
          | mk l => have : l = [] := hz
                    subst this; rfl
      gi_wp2
      go_end0
      exact .inl ⟨h1, ⟨_, rfl⟩, HJ.out⟩
    · have hq := toList_ne (t := r) (by rw [← bys_len]; exact fun h => hz (List.eq_nil_of_length_eq_zero h))
      have hsz : r.size ≤ 1024 := HR.out.size
      cases hp : partN (bys r) with
      | none =>
        obtain ⟨h1, rfl⟩ := HR.out.bad hz hp
        have PS := hide (fun X => partSize_any r X (by omega) hz)
        rw [hp] at PS
        gi_wp2_with fail
        refine ⟨trivial, (callsIn_wide.2 (PS.out _)).mono ?_⟩
        rintro e w' ⟨rfl, rfl⟩
        gi_wp2
        exact ⟨rfl, .inr ⟨rfl, .inr ⟨h1, HJ.out⟩⟩⟩
      | some n =>
        obtain ⟨hk, hgo⟩ := HR.out.go hz hp
        have HGO := hide hgo
        have hn := partN_le hp
        rw [bys_len] at hn
        have PS := hide (fun X => partSize_any r X (by omega) hz)
        rw [hp] at PS
        have hn1 : (n : Int) ≤ (r.size : Int) := by omega
        obtain ⟨fn, tmps, assign, body, hy, hR⟩ := HY.out k _ wr hk HJ.out
        rw [show mkB ((bys r).take n) = r.extract 0 n from by rw [← bys_to]; rfl] at hy
        have HRR := hide hR
        clear hR hp hk hgo
        gi_wp2_with fail
        refine ⟨trivial, (callsIn_wide.2 (PS.out _)).mono ?_⟩
        rintro e w1 ⟨rfl, rfl⟩
        gi_wp2_with fail
        refine HRR.out.mono ?_
        rintro e w2 (⟨rfl, hJ2, _⟩ | ⟨rfl, hJp⟩)
        · have HJ2 := hide hJ2
          clear hJ2 HRR hy
          gi_wp2_with fail
          refine ⟨trivial, (callsIn_wide.2 (TL.out _ _)).mono ?_⟩
          rintro e w3 ⟨rfl, rfl⟩
          have hms : (Lib.trimLeftB (r.extract n r.size).data.toList 32).length < r.size := by
            have h1 := trimB_len (bys (r.extract n r.size))
            rw [bys_len, ByteArray.size_extract] at h1
            have : (trimB (bys (r.extract n r.size))).length = (Lib.trimLeftB (r.extract n r.size).data.toList 32).length := rfl
            omega
          have HMS := hide hms
          clear hms
          obtain ⟨r1, hr1⟩ : ∃ r1 : ByteArray, r1 = ⟨(Lib.trimLeftB (r.extract n r.size).data.toList 32).toArray⟩ := ⟨_, rfl⟩
          have hsz1 : r1.size < r.size := by rw [hr1]; exact HMS.out
          rw [← hr1] at HGO ⊢
          clear hr1 HMS
          gi_wp2
          exact ⟨⟨k + 1, r1, rfl, HGO, HJ2⟩, hsz1⟩
        · gi_wp2
          exact ⟨rfl, .inr ⟨rfl, .inl hJp⟩⟩

end Go.Proofs.YtkbciljfjijclaaGreatDoor

namespace Go.Proofs.YtkbciljfjijclaaGreatDoor
open Go.RowKit

attribute [local go_sem] Oper.semAt_some

theorem parts_any (t : ByteArray) (w : World) : Calls Tryz.prog 148 #[.string t] w fun e w' => e = .returned (.func (.func 199) #[] #[.pointer (some ⟨w.heap.size, 0, none⟩)]) ∧ w' = w.alloc (.cells #[.string t] 9) := by
  have hmf : ∀ (fn : Fn) (first cap : Array Value) (w : World), (Instr.makeFunc fn first cap).run Tryz.prog w = .ok (.func fn first cap) w := fun _ _ _ _ => rfl
  go_enter Tryz.func148, Tryz.ntmps148
  go_wp2
  go_ret
  exact ⟨rfl, rfl⟩

theorem between_any (a : Option Addr) (n c : Nat) (t : ByteArray) (w : World) : Calls Tryz.prog 98 #[.slice a n c, .string t] w fun e w' => e = .returned (.func (.func 149) #[] #[.pointer (some ⟨w.heap.size, 0, none⟩), .pointer (some ⟨w.heap.size + 1, 0, none⟩)]) ∧ w' = (w.alloc (.cells #[.slice a n c] 112)).alloc (.cells #[.string t] 9) := by
  have hmf : ∀ (fn : Fn) (first cap : Array Value) (w : World), (Instr.makeFunc fn first cap).run Tryz.prog w = .ok (.func fn first cap) w := fun _ _ _ _ => rfl
  go_enter Tryz.func98, Tryz.ntmps98
  go_wp2
  go_ret
  exact ⟨rfl, rfl⟩

theorem info_str : (Tryz.prog.info? 9).map (fun i => (i.zero, i.size, i.bytes)) = some (some (.string ⟨#[]⟩), 1, 16) := by kernel_rfl

def Ans {α : Type} (o : Option α) (ok : α → Value → World → Prop) (w : World) (e : Ending) (W' : World) : Prop :=
  Below w.heap.size w W' ∧ (match o with | none => e = .panicked PC | some x => ∃ v, e = .returned v ∧ ok x v W')

theorem Ans.panic {α : Type} {o : Option α} {ok : α → Value → World → Prop} {w W' : World} (h : o = none) (hb : Below w.heap.size w W') : Ans o ok w (.panicked PC) W' := by subst h; exact ⟨hb, rfl⟩
theorem Ans.ret {α : Type} {o : Option α} {ok : α → Value → World → Prop} {w W' : World} {x : α} {v : Value} (h : o = some x) (hb : Below w.heap.size w W') (hv : ok x v W') : Ans o ok w (.returned v) W' := by subst h; exact ⟨hb, v, rfl, hv⟩

theorem leave_pan {P : Program} {fn : Func} {tmps : Array Value} {R : Ending → World → Prop} {D : Nat} {W : World} {pc : List PanicEntry} (hK : W.heap[D]? = some (.deferred (some []))) (hR : R (.panicked pc) (W.putObj D (.deferred none))) :
    LeavesInM Fence.wide 0 P fn tmps R [{ target := .collected D, args := #[] }] (.panicking pc) W := by
  refine ⟨by simp, .inl ⟨_, _, rfl, run_takeDeferred hK, ?_⟩⟩
  exact hR

theorem below_take {w W : World} {D : Nat} (hB : Below w.heap.size w W) (hD : w.heap.size ≤ D) (hK : W.heap[D]? = some (.deferred (some []))) : Below w.heap.size w (W.putObj D (.deferred none)) :=
  hB.trans (belowK_b (w := w) (Nat.le_refl _) W D _ _ hD hK rfl rfl)

def gatT (s : List UInt8) : Option (List Tok) := if (toks s).2 then none else some (toks s).1

def Own1 (base : Nat) (ts : List Tok) (v : Value) (W : World) : Prop := W.ownsRow base 9 1 v ts.length (ts.map fun l => .string (mkB l))

theorem boxed_xt {B b : Nat} {t : TypeId} {v : Value} {X Y : World} (h : Boxed X b t v) (hx : Xt B X Y) : Boxed Y b t v := hx.cells _ _ h rfl

theorem ownsRow_xt {B base : Nat} {e : TypeId} {size k : Nat} {v : Value} {xs : List Value} {X Y : World} (h : X.ownsRow base e size v k xs) (hx : Xt B X Y) : Y.ownsRow base e size v k xs := by
  refine ⟨h.1, ?_⟩
  rcases h.2 with h2 | ⟨g, cap, cur, h3, h4, h5, h6⟩
  · exact .inl h2
  · exact .inr ⟨g, cap, cur, h3, h4, hx.cells _ _ h5 rfl, h6⟩

theorem toksF_len (n : Nat) (s : List UInt8) : (toksF n s).1.length ≤ s.length := by
  induction n generalizing s with
  | zero => simp [toksF]
  | succ n ih =>
    rw [toksF]
    have hl := trimB_len s
    cases ht : trimB s with
    | nil => simp
    | cons c r =>
      dsimp only
      cases hp : partN (c :: r) with
      | none => simp
      | some k =>
        have hk := partN_le hp
        dsimp only
        have := ih ((c :: r).drop k)
        rw [List.length_drop, ← ht] at this
        rw [← ht] at hk
        rw [List.length_cons, ← ht]
        omega

theorem toks_len (s : List UInt8) : (toks s).1.length ≤ s.length := toksF_len _ _

set_option maxRecDepth 100000 in
set_option maxHeartbeats 2000000 in
theorem gather_any (t : ByteArray) (w : World) (ht : t.size ≤ 1024) : Calls Tryz.prog 97 #[.string t] w (Ans (gatT (bys t)) (Own1 w.heap.size) w) := by
  have PA := hide (fun X => parts_any t X)
  obtain ⟨i0, hi, hz0, hz1, hz2⟩ := info_parts info_str
  have hlen : (toks (bys t)).1.length ≤ 1024 := by have := toks_len (bys t); rw [bys_len] at this; omega
  refine calls_pan Tryz.func97 rfl ?_
  simp only [Tryz.ntmps97, List.size_toArray, List.length_cons, List.length_nil, Nat.reduceAdd, Nat.reduceSub, Array.replicate_succ, Array.replicate_zero, List.push_toArray, List.append_toArray, List.nil_append, List.cons_append]
  refine WpAt.seq (WpAt.of_wp ?_)
  go_wp2
  refine WpAt.seq (WpAt.of_wp ?_)
  go_wp2
  refine WpAt.seq (WpAt.seq (WpAt.of_wp ?_))
  go_wp2_with fail
  refine (PA.out _).mono ?_
  rintro e w1 ⟨rfl, rfl⟩
  go_wp2
  have bO := Boxed.new w 112 (.slice none 0 0)
  have bN := Boxed.new (w.alloc (.cells #[.slice none 0 0] 112)) 9 (.string t)
  rw [World.size_alloc] at bN
  have hB0 : Below w.heap.size w ((w.alloc (.cells #[.slice none 0 0] 112)).alloc (.cells #[.string t] 9)) := ((Below.refl _ w).alloc (Nat.le_refl _) _).alloc (by simp) _
  refine WpAt.block (WpAt.range Tryz.func97 (gf := 199) (lb := #[.pointer (some ⟨w.heap.size + 1, 0, none⟩)]) rfl (enters_of Tryz.func199 (by kernel_rfl) rfl)
    (parts1_pan (w.heap.size + 1) t _ ht (by simp) bN.cell) (fun _ _ => trivial) (fun _ => trivial) (fun _ => rfl)
    (fun k W => (∃ v, Boxed W w.heap.size 112 v ∧ Own1 w.heap.size ((toks (bys t)).1.take k) v W) ∧ Below w.heap.size w W) (fun _ => False)
    ?inv ?start (fun x => { tmps := #[.string t, undef, .slice none 0 0, .pointer (some ⟨w.heap.size, 0, none⟩), .string (mkB x), .string t, .func (.func 199) #[] #[.pointer (some ⟨w.heap.size + 1, 0, none⟩)], .string (mkB x), undef, undef, undef, undef, undef], defers := [] }) ?assign ?body ?done ?pan) ?x1 ?x2
  case x1 => exact fun _ _ _ h => h
  case x2 => exact fun _ _ _ h => h
  case inv =>
    rintro k X Y ⟨⟨v, hv, hr⟩, hB⟩ hx
    exact ⟨⟨v, boxed_xt hv hx, ownsRow_xt hr hx⟩, hB.trans (hx.below.mono (by simp; omega))⟩
  case start => exact ⟨⟨_, bO.alloc _, World.ownsRow_nil _ _ _ _⟩, hB0⟩
  case assign =>
    intro l x W K hK
    gi_wp2
    exact hK
  case body =>
    rintro l k x W hx ⟨⟨v, hv, hrow⟩, hB⟩ hsz
    have hkl : k < (toks (bys t)).1.length := by
      rcases Nat.lt_or_ge k (toks (bys t)).1.length with q | q
      · exact q
      · rw [List.getElem?_eq_none q] at hx; cases hx
    have hc := hv.cell
    have htl : ((toks (bys t)).1.take k).length = k := by rw [List.length_take]; omega
    unfold Own1 at hrow
    rw [htl] at hrow
    have hml : 1025 ≤ maxLen := by decide
    gi_wp2_with (gi_at_builtin; refine wpListIn_append_own _ rfl _ _ 112 rfl w.heap.size 9 i0 (.string ⟨#[]⟩) 1 16 Tryz.underlying112 hi hz0 hz1 hz2 rfl (by decide) _ _ _ rfl (hrow.alloc _) ⟨W.heap.size, 0, none⟩ 1 1 [.string (mkB x)] rfl rfl (cell_one_new _ _ _) (by simp [Value.oneCell']) (by omega) (by omega) (by have := hB.size; simp; omega) ?_; intro v' w1 hown' hgrow _; obtain ⟨g', cap', rfl⟩ := ownsRow_succ hown'; obtain ⟨hv1, hv2, hr2, hk2, hb2⟩ := hv.appended (by decide) hrow hB.size (Nat.le_refl _) hown' hgrow; have hc1 := hv1.cell; have hf1 := hv1.frozen)
    refine ⟨hk2.from _, trivial, ⟨_, hv2, ?_⟩, hB.trans hb2⟩
    unfold Own1
    rw [List.take_add_one, hx, Option.toList_some, List.length_append, htl, List.map_append]
    exact hr2
  case done =>
    rintro D W hst hD ⟨⟨v, hv, hrow⟩, hB⟩ hK
    have hc := hv.cell
    refine WpAt.seq (WpAt.of_wp ?_)
    go_wp2
    refine WpAt.of_wp ?_
    go_wp2
    refine ⟨by simp, .inl ⟨_, _, rfl, run_takeDeferred hK, ?_⟩⟩
    refine ⟨_, results_tmp rfl _ _ _, Ans.ret (by unfold gatT; rw [if_neg (by rw [hst]; simp)]) (below_take hB (by simp at hD; omega) hK) ?_⟩
    rw [List.take_length] at hrow
    exact ownsRow_putObj hrow _ hK rfl
  case pan =>
    rintro D W hD (h | ⟨hst, _, hB⟩) hK
    · exact h.elim
    · exact leave_pan hK (Ans.panic (by unfold gatT; rw [if_pos hst]) (below_take hB (by simp at hD; omega) hK))

end Go.Proofs.YtkbciljfjijclaaGreatDoor

namespace Go.Proofs.YtkbciljfjijclaaGreatDoor
open Go.RowKit

attribute [local go_sem] Oper.semAt_some

def TokV (W : World) (g off cap : Nat) (ts : List Tok) (v : Value) : Prop :=
  v = .slice (some ⟨g, off, none⟩) ts.length cap ∧ ts.length ≤ cap ∧ cap ≤ 9223372036854775807 ∧ g < W.heap.size ∧ ∀ i t, ts[i]? = some t → W.cell? ⟨g, off + i, none⟩ = some (.string (mkB t))

def KeepB (L : List Nat) (X Y : World) : Prop := ∀ k, k ∈ L → Y.heap[k]? = X.heap[k]?

theorem KeepB.trans {L : List Nat} {X Y Z : World} (h : KeepB L X Y) (k : KeepB L Y Z) : KeepB L X Z := fun i hi => (k i hi).trans (h i hi)

def cutA (off cap f : Nat) : Nat := if f = cap then off else off + f

theorem cutsAt_step {sep : Tok} {ts : List Tok} {f i : Nat} {t : Tok} (h : ts[i]? = some t) : cutsAt sep f i (ts.drop i) = if t = sep then (f, i) :: cutsAt sep (i + 1) (i + 1) (ts.drop (i + 1)) else cutsAt sep f (i + 1) (ts.drop (i + 1)) := by
  have hi : i < ts.length := by
    rcases Nat.lt_or_ge i ts.length with q | q
    · exact q
    · rw [List.getElem?_eq_none q] at h; cases h
  have e : ts.drop i = t :: ts.drop (i + 1) := by
    rw [List.getElem?_eq_getElem hi, Option.some.injEq] at h
    rw [← h, List.drop_eq_getElem_cons hi]
  rw [e, cutsAt]

set_option maxRecDepth 100000 in
set_option maxHeartbeats 1000000 in
theorem between1_pan (B1 B2 g off cap : Nat) (sep : ByteArray) (ts : List Tok) (v : Value) (w : World) (h1 : B1 < w.heap.size) (h2 : B2 < w.heap.size) (hc1 : w.cell? ⟨B1, 0, none⟩ = some v) (hc2 : w.cell? ⟨B2, 0, none⟩ = some (.string sep)) (hv : TokV w g off cap ts v) :
    SeqPan Tryz.prog 2 149 #[.pointer (some ⟨B1, 0, none⟩), .pointer (some ⟨B2, 0, none⟩)] (fun x : Nat × Nat => #[Value.slice (some ⟨g, cutA off cap x.1, none⟩) (x.2 - x.1) (cap - x.1)]) (KeepB [g, B1, B2]) (cutsAt (bys sep) 0 0 ts) false PC w := by
  intro l J Jp W hW _ hY h0
  obtain ⟨rfl, hcap, hcm, hg, hcs⟩ := hv
  have hc1' : W.cell? ⟨B1, 0, none⟩ = some (.slice (some ⟨g, off, none⟩) ts.length cap) := (hW.cell (p := ⟨B1, 0, none⟩) h1).trans hc1
  have hc2' : W.cell? ⟨B2, 0, none⟩ = some (.string sep) := (hW.cell (p := ⟨B2, 0, none⟩) h2).trans hc2
  have hcs' : ∀ i t, ts[i]? = some t → W.cell? ⟨g, off + i, none⟩ = some (.string (mkB t)) := fun i t h => (hW.cell (p := ⟨g, off + i, none⟩) hg).trans (hcs i t h)
  have HC := hide hcs'
  have HY := hide hY
  have H0 := hide h0
  clear hcs hcs' hc1 hc2 h1 h2 hg hW hY h0
  refine callsIn_of_wp Tryz.func149 rfl trivial ?_ rfl
  simp only [Tryz.ntmps149, List.size_toArray, List.length_cons, List.length_nil, Nat.reduceAdd, Nat.reduceSub, Array.replicate_succ, Array.replicate_zero, List.push_toArray, List.append_toArray, List.nil_append, List.cons_append]
  gi_wp2
  gi_loopw [4, 9] (fun p q wr => ∃ (f i k : Nat), p = .int .i64 (f : Int) ∧ q = .int .i64 (i : Int) ∧ f ≤ i ∧ i ≤ ts.length ∧ Hid (∃ pre, cutsAt (bys sep) 0 0 ts = pre ++ cutsAt (bys sep) f i (ts.drop i) ∧ pre.length = k) ∧ Hid (KeepB [g, B1, B2] W wr) ∧ Hid (J k wr)) (fun _ q _ => ts.length - (intOf q).toNat)
  case atStart => exact ⟨0, 0, 0, rfl, rfl, Nat.le_refl _, Nat.zero_le _, ⟨[], rfl, rfl⟩, fun _ _ => rfl, H0⟩
  case round =>
    obtain ⟨f, i, k, rfl, rfl, hfi, hi, HP, HK, HJ⟩ := hrel
    have c1 : wr.cell? ⟨B1, 0, none⟩ = some (.slice (some ⟨g, off, none⟩) ts.length cap) := (World.cell?_of_block (HK.out B1 (by simp))).trans hc1'
    have c2 : wr.cell? ⟨B2, 0, none⟩ = some (.string sep) := (World.cell?_of_block (HK.out B2 (by simp))).trans hc2'
    by_cases hlt : i < ts.length
    · have hlt' : (i : Int) < (ts.length : Int) := by omega
      obtain ⟨t, ht⟩ : ∃ t, ts[i]? = some t := ⟨_, List.getElem?_eq_getElem hlt⟩
      have c3 : wr.cell? ⟨g, off + i, none⟩ = some (.string (mkB t)) := (World.cell?_of_block (HK.out g (by simp))).trans (HC.out i t ht)
      have HT := hide ht
      by_cases hs : t = bys sep
      · subst hs
        rw [show mkB (bys sep) = sep from rfl] at c3
        have hx : (cutsAt (bys sep) 0 0 ts)[k]? = some (f, i) := by
          obtain ⟨pre, he, hk⟩ := HP.out
          rw [he, cutsAt_step ht, if_pos rfl, List.getElem?_append_right (by omega), hk, Nat.sub_self]; rfl
        obtain ⟨fn, tmps, assign, body, hy, hR⟩ := HY.out k _ wr hx HJ.out
        have HRR := hide hR
        clear hR ht hx
        dsimp only at hy
        rw [show cutA off cap f = off + f from if_neg (by omega)] at hy
        have q1 : (f : Int) ≤ (i : Int) := by omega
        have q2 : (i : Int) ≤ (cap : Int) := by omega
        gi_wp2_with fail
        refine HRR.out.mono ?_
        rintro e w2 (⟨rfl, hJ2, hk2⟩ | ⟨rfl, hJp⟩)
        · have HJ2 := hide hJ2
          have HK2 := hide (HK.out.trans hk2)
          have HPP := HP
          clear hJ2 HRR hy hk2 c1 c2 c3
          gi_wp2
          refine ⟨⟨i + 1, i + 1, k + 1, by go_num, by go_num, by omega, by omega, ?_, HK2, HJ2⟩, by simp [intOf]; omega⟩
          obtain ⟨pre, he, hk⟩ := HPP.out
          exact ⟨pre ++ [(f, i)], by rw [he, cutsAt_step HT.out, if_pos rfl]; simp, by simp [hk]⟩
        · gi_wp2
          exact ⟨rfl, .inr ⟨rfl, .inl hJp⟩⟩
      · have hq := ne_text (f := mkB t) (g := sep) hs
        clear ht
        gi_wp2
        refine ⟨⟨f, i + 1, k, rfl, by go_num, by omega, by omega, ?_, HK, HJ⟩, by simp [intOf]; omega⟩
        obtain ⟨pre, he, hk⟩ := HP.out
        exact ⟨pre, by rw [he, cutsAt_step HT.out, if_neg hs], hk⟩
    · obtain rfl : i = ts.length := by omega
      have hlt' : ¬ (ts.length : Int) < (ts.length : Int) := by omega
      have hx : (cutsAt (bys sep) 0 0 ts)[k]? = some (f, ts.length) := by
        obtain ⟨pre, he, hk⟩ := HP.out
        rw [he, List.drop_length, cutsAt, List.getElem?_append_right (by omega), hk, Nat.sub_self]; rfl
      have hend : (cutsAt (bys sep) 0 0 ts).length = k + 1 := by
        obtain ⟨pre, he, hk⟩ := HP.out
        rw [he, List.drop_length, cutsAt]; simp [hk]
      obtain ⟨fn, tmps, assign, body, hy, hR⟩ := HY.out k _ wr hx HJ.out
      have HRR := hide hR
      have HE := hide hend
      clear hR hx hend
      dsimp only at hy
      have q1 : (f : Int) ≤ (ts.length : Int) := by omega
      by_cases hf : f = cap
      · rw [show cutA off cap f = off from if_pos hf] at hy
        subst hf
        have hz : ts.length = f := by omega
        rw [hz, Nat.sub_self] at hy
        gi_wp2_with fail
        refine HRR.out.mono ?_
        rintro e w2 (⟨rfl, hJ2, hk2⟩ | ⟨rfl, hJp⟩)
        · rw [← HE.out] at hJ2
          have HJ2 := hide hJ2
          clear hJ2
          gi_wp2
          go_end0
          exact .inl ⟨trivial, ⟨_, rfl⟩, HJ2.out⟩
        · gi_wp2
          exact ⟨rfl, .inr ⟨rfl, .inl hJp⟩⟩
      · rw [show cutA off cap f = off + f from if_neg hf] at hy
        have q3 : (f : Int) < (cap : Int) := by omega
        gi_wp2_with fail
        refine HRR.out.mono ?_
        rintro e w2 (⟨rfl, hJ2, hk2⟩ | ⟨rfl, hJp⟩)
        · rw [← HE.out] at hJ2
          have HJ2 := hide hJ2
          clear hJ2
          gi_wp2
          go_end0
          exact .inl ⟨trivial, ⟨_, rfl⟩, HJ2.out⟩
        · gi_wp2
          exact ⟨rfl, .inr ⟨rfl, .inl hJp⟩⟩

end Go.Proofs.YtkbciljfjijclaaGreatDoor

namespace Go.Proofs.YtkbciljfjijclaaGreatDoor
open Go.RowKit

theorem rown_below {w w' : World} {B sz n : Nat} {e : TypeId} {v : Value} {xs : List Value} (h : w.ownsRow B e sz v n xs) (hb : Below w.heap.size w w') : w'.ownsRow B e sz v n xs :=
  World.ownsRow.kept h (row := none) ⟨hb.os, hb.tape, hb.output, hb.size, fun k hk _ => hb.block k hk⟩ (by cases v.ownBlock <;> simp)

theorem rown_apart {w : World} {B sz n B' sz' n' : Nat} {e e' : TypeId} {v v' : Value} {xs xs' : List Value} (h : w.ownsRow B e sz v n xs) (h' : w.ownsRow B' e' sz' v' n' xs') (he : e ≠ e') : v.ownBlock = none ∨ v.ownBlock ≠ v'.ownBlock := by
  rcases h.2 with ⟨rfl, _⟩ | ⟨g, cap, cur, rfl, _, hh, _⟩
  · exact .inl rfl
  · right
    intro q
    rcases h'.2 with ⟨rfl, _⟩ | ⟨g', cap', cur', rfl, _, hh', _⟩
    · simp [Value.ownBlock] at q
    · simp only [Value.ownBlock, Option.some.injEq] at q
      subst q
      rw [hh] at hh'
      simp at hh'
      exact he hh'.2

theorem rown_form {w : World} {B sz n : Nat} {e : TypeId} {v : Value} {xs : List Value} (h : w.ownsRow B e sz v n xs) (hv : v ≠ .slice none 0 0) : ∃ g cap, v = .slice (some ⟨g, 0, none⟩) n cap ∧ B ≤ g ∧ g < w.heap.size ∧ n ≤ cap := by
  rcases h.2 with ⟨rfl, _⟩ | ⟨g, cap, cur, rfl, hg, hh, hn, _⟩
  · exact absurd rfl hv
  · exact ⟨g, cap, rfl, hg, lt_of_block hh, hn⟩

def strC (ts : List Tok) : List Value := ts.map fun t => .string (mkB t)
theorem strC_app (a b : List Tok) : strC (a ++ b) = strC a ++ strC b := by unfold strC; rw [List.map_append]

theorem rown_tok {w : World} {B g cap : Nat} {ts : List Tok} (h : w.ownsRow B 9 1 (.slice (some ⟨g, 0, none⟩) ts.length cap) ts.length (strC ts)) : TokV w g 0 cap ts (.slice (some ⟨g, 0, none⟩) ts.length cap) := by
  have hc := World.ownsRow.cells h (g := g) rfl
  rcases h.2 with ⟨q, _⟩ | ⟨g', cap', cur, q, _, hh, hn, hm, _⟩
  · cases q
  · simp only [Value.slice.injEq, Option.some.injEq, Addr.mk.injEq] at q
    obtain ⟨⟨rfl, _, _⟩, _, rfl⟩ := q
    refine ⟨rfl, hn, hm, lt_of_block hh, fun i t hi => ?_⟩
    have := hc i (.string (mkB t)) (by unfold strC; rw [List.getElem?_map, hi]; rfl)
    rw [Addr.add_lit] at this
    exact this

end Go.Proofs.YtkbciljfjijclaaGreatDoor
