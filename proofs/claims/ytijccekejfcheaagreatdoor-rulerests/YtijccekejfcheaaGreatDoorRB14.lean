/-
  What operand's hasOperands and Of do.
  What operand's May does.
  What rule's isLetter, isDigit, rowSize and partSize do.
-/
import Derived.Test.YtijccekejfcheaaGreatDoorRB12
import Derived.Test.YtijccekejfcheaaGreatDoorRB13
import Derived.Test.YtijccekejfcheaaGreatDoorRB11
namespace Go.Proofs.YtijccekejfcheaaGreatDoor
open Go.RowKit

abbrev opV (i : ByteArray) (v z : Int) (f t : ByteArray) (e : Int) : Value := .agg #[.string i, .int .i64 v, .int .i64 z, .string f, .string t, .int .i64 e]
end Go.Proofs.YtijccekejfcheaaGreatDoor

namespace Go.Proofs.YtijccekejfcheaaGreatDoor
open Go.RowKit

theorem ne_text {f g : ByteArray} (h : bys f ≠ bys g) : (f.toList == g.toList) = false := by
  rw [ByteArray.toList_eq, ByteArray.toList_eq]
  exact beq_eq_false_iff_ne.2 h

set_option maxHeartbeats 2000000 in
theorem omay_0 (i : ByteArray) (v z : Int) (f t : ByteArray) (e : Int) (w : World) (h0 : ¬ (NumT (bys i) 8192))  : Calls Tryz.prog 48 #[opV i v z f t e] w fun e w' => e = .returned (.bool false) ∧ Below w.heap.size w w' := by
  have K0 := hide (fun W => isNum_F i W h0)
  clear h0
  have Bs0 := hide (Blk.newAt w (w.heap.size) (rfl) #[.string i, .int .i64 v, .int .i64 z, .string f, .string t, .int .i64 e] 37)
  have HB0 : Hid (Below w.heap.size w (w.alloc (.cells #[.string i, .int .i64 v, .int .i64 z, .string f, .string t, .int .i64 e] 37))) := ((Below.refl _ _).alloc (Nat.le_refl _) _)
  go_enter Tryz.func48, Tryz.ntmps48
  go_wp2_with fail
  refine (K0.out _).mono ?_
  rintro e w1 ⟨rfl, hb⟩
  have Bs1 := Blk.on Bs0 hb
  have HB1 := hide (HB0.out.trans (hb.mono HB0.out.size))
  clear hb Bs0 HB0 
  obtain ⟨ys0, ys1, ys2, ys3, ys4, ys5⟩ := Bs1.out.six
  go_wp2
  go_ret
  exact ⟨rfl, HB1.out⟩

set_option maxHeartbeats 2000000 in
theorem omay_1 (i : ByteArray) (v z : Int) (f t : ByteArray) (e : Int) (w : World) (h0 : NumT (bys i) 8192) (h1 : ¬ (NumT (bys t) 8192))  : Calls Tryz.prog 48 #[opV i v z f t e] w fun e w' => e = .returned (.bool false) ∧ Below w.heap.size w w' := by
  have K0 := hide (fun W => isNum_T i W h0)
  have K1 := hide (fun W => isNum_F t W h1)
  clear h0 h1
  have Bs0 := hide (Blk.newAt w (w.heap.size) (rfl) #[.string i, .int .i64 v, .int .i64 z, .string f, .string t, .int .i64 e] 37)
  have HB0 : Hid (Below w.heap.size w (w.alloc (.cells #[.string i, .int .i64 v, .int .i64 z, .string f, .string t, .int .i64 e] 37))) := ((Below.refl _ _).alloc (Nat.le_refl _) _)
  go_enter Tryz.func48, Tryz.ntmps48
  go_wp2_with fail
  refine (K0.out _).mono ?_
  rintro e w1 ⟨rfl, hb⟩
  have Bs1 := Blk.on Bs0 hb
  have HB1 := hide (HB0.out.trans (hb.mono HB0.out.size))
  clear hb Bs0 HB0 
  obtain ⟨ys0, ys1, ys2, ys3, ys4, ys5⟩ := Bs1.out.six
  go_wp2_with fail
  refine (K1.out _).mono ?_
  rintro e w2 ⟨rfl, hb⟩
  have Bs2 := Blk.on Bs1 hb
  have HB2 := hide (HB1.out.trans (hb.mono HB1.out.size))
  clear hb Bs1 HB1 ys0 ys1 ys2 ys3 ys4 ys5
  obtain ⟨ys0, ys1, ys2, ys3, ys4, ys5⟩ := Bs2.out.six
  go_wp2
  go_ret
  exact ⟨rfl, HB2.out⟩

set_option maxHeartbeats 2000000 in
theorem omay_2 (i : ByteArray) (v z : Int) (f t : ByteArray) (e : Int) (w : World) (h0 : NumT (bys i) 8192) (h1 : NumT (bys t) 8192) (h2 : ¬ (0 ≤ v ∧ v ≤ 8192))  : Calls Tryz.prog 48 #[opV i v z f t e] w fun e w' => e = .returned (.bool false) ∧ Below w.heap.size w w' := by
  have K0 := hide (fun W => isNum_T i W h0)
  have K1 := hide (fun W => isNum_T t W h1)
  have K2 := hide (fun W => isCount_f v W h2)
  clear h0 h1 h2
  have Bs0 := hide (Blk.newAt w (w.heap.size) (rfl) #[.string i, .int .i64 v, .int .i64 z, .string f, .string t, .int .i64 e] 37)
  have HB0 : Hid (Below w.heap.size w (w.alloc (.cells #[.string i, .int .i64 v, .int .i64 z, .string f, .string t, .int .i64 e] 37))) := ((Below.refl _ _).alloc (Nat.le_refl _) _)
  go_enter Tryz.func48, Tryz.ntmps48
  go_wp2_with fail
  refine (K0.out _).mono ?_
  rintro e w1 ⟨rfl, hb⟩
  have Bs1 := Blk.on Bs0 hb
  have HB1 := hide (HB0.out.trans (hb.mono HB0.out.size))
  clear hb Bs0 HB0 
  obtain ⟨ys0, ys1, ys2, ys3, ys4, ys5⟩ := Bs1.out.six
  go_wp2_with fail
  refine (K1.out _).mono ?_
  rintro e w2 ⟨rfl, hb⟩
  have Bs2 := Blk.on Bs1 hb
  have HB2 := hide (HB1.out.trans (hb.mono HB1.out.size))
  clear hb Bs1 HB1 ys0 ys1 ys2 ys3 ys4 ys5
  obtain ⟨ys0, ys1, ys2, ys3, ys4, ys5⟩ := Bs2.out.six
  go_wp2_with fail
  refine (K2.out _).mono ?_
  rintro e w3 ⟨rfl, hb⟩
  have Bs3 := Blk.on Bs2 hb
  have HB3 := hide (HB2.out.trans (hb.mono HB2.out.size))
  clear hb Bs2 HB2 ys0 ys1 ys2 ys3 ys4 ys5
  obtain ⟨ys0, ys1, ys2, ys3, ys4, ys5⟩ := Bs3.out.six
  go_wp2
  go_ret
  exact ⟨rfl, HB3.out⟩

set_option maxHeartbeats 2000000 in
theorem omay_3 (i : ByteArray) (v z : Int) (f t : ByteArray) (e : Int) (w : World) (h0 : NumT (bys i) 8192) (h1 : NumT (bys t) 8192) (h2 : 0 ≤ v ∧ v ≤ 8192) (h3 : ¬ (0 ≤ z ∧ z ≤ 8192))  : Calls Tryz.prog 48 #[opV i v z f t e] w fun e w' => e = .returned (.bool false) ∧ Below w.heap.size w w' := by
  have K0 := hide (fun W => isNum_T i W h0)
  have K1 := hide (fun W => isNum_T t W h1)
  have K2 := hide (fun W => isCount_t v W h2.1 h2.2)
  have K3 := hide (fun W => isCount_f z W h3)
  clear h0 h1 h2 h3
  have Bs0 := hide (Blk.newAt w (w.heap.size) (rfl) #[.string i, .int .i64 v, .int .i64 z, .string f, .string t, .int .i64 e] 37)
  have HB0 : Hid (Below w.heap.size w (w.alloc (.cells #[.string i, .int .i64 v, .int .i64 z, .string f, .string t, .int .i64 e] 37))) := ((Below.refl _ _).alloc (Nat.le_refl _) _)
  go_enter Tryz.func48, Tryz.ntmps48
  go_wp2_with fail
  refine (K0.out _).mono ?_
  rintro e w1 ⟨rfl, hb⟩
  have Bs1 := Blk.on Bs0 hb
  have HB1 := hide (HB0.out.trans (hb.mono HB0.out.size))
  clear hb Bs0 HB0 
  obtain ⟨ys0, ys1, ys2, ys3, ys4, ys5⟩ := Bs1.out.six
  go_wp2_with fail
  refine (K1.out _).mono ?_
  rintro e w2 ⟨rfl, hb⟩
  have Bs2 := Blk.on Bs1 hb
  have HB2 := hide (HB1.out.trans (hb.mono HB1.out.size))
  clear hb Bs1 HB1 ys0 ys1 ys2 ys3 ys4 ys5
  obtain ⟨ys0, ys1, ys2, ys3, ys4, ys5⟩ := Bs2.out.six
  go_wp2_with fail
  refine (K2.out _).mono ?_
  rintro e w3 ⟨rfl, hb⟩
  have Bs3 := Blk.on Bs2 hb
  have HB3 := hide (HB2.out.trans (hb.mono HB2.out.size))
  clear hb Bs2 HB2 ys0 ys1 ys2 ys3 ys4 ys5
  obtain ⟨ys0, ys1, ys2, ys3, ys4, ys5⟩ := Bs3.out.six
  go_wp2_with fail
  refine (K3.out _).mono ?_
  rintro e w4 ⟨rfl, hb⟩
  have Bs4 := Blk.on Bs3 hb
  have HB4 := hide (HB3.out.trans (hb.mono HB3.out.size))
  clear hb Bs3 HB3 ys0 ys1 ys2 ys3 ys4 ys5
  obtain ⟨ys0, ys1, ys2, ys3, ys4, ys5⟩ := Bs4.out.six
  go_wp2
  go_ret
  exact ⟨rfl, HB4.out⟩

set_option maxHeartbeats 2000000 in
theorem omay_4 (i : ByteArray) (v z : Int) (f t : ByteArray) (e : Int) (w : World) (h0 : NumT (bys i) 8192) (h1 : NumT (bys t) 8192) (h2 : 0 ≤ v ∧ v ≤ 8192) (h3 : 0 ≤ z ∧ z ≤ 8192) (h4 : ¬ (0 ≤ e ∧ e ≤ 8192))  : Calls Tryz.prog 48 #[opV i v z f t e] w fun e w' => e = .returned (.bool false) ∧ Below w.heap.size w w' := by
  have K0 := hide (fun W => isNum_T i W h0)
  have K1 := hide (fun W => isNum_T t W h1)
  have K2 := hide (fun W => isCount_t v W h2.1 h2.2)
  have K3 := hide (fun W => isCount_t z W h3.1 h3.2)
  have K4 := hide (fun W => isCount_f e W h4)
  clear h0 h1 h2 h3 h4
  have Bs0 := hide (Blk.newAt w (w.heap.size) (rfl) #[.string i, .int .i64 v, .int .i64 z, .string f, .string t, .int .i64 e] 37)
  have HB0 : Hid (Below w.heap.size w (w.alloc (.cells #[.string i, .int .i64 v, .int .i64 z, .string f, .string t, .int .i64 e] 37))) := ((Below.refl _ _).alloc (Nat.le_refl _) _)
  go_enter Tryz.func48, Tryz.ntmps48
  go_wp2_with fail
  refine (K0.out _).mono ?_
  rintro e w1 ⟨rfl, hb⟩
  have Bs1 := Blk.on Bs0 hb
  have HB1 := hide (HB0.out.trans (hb.mono HB0.out.size))
  clear hb Bs0 HB0 
  obtain ⟨ys0, ys1, ys2, ys3, ys4, ys5⟩ := Bs1.out.six
  go_wp2_with fail
  refine (K1.out _).mono ?_
  rintro e w2 ⟨rfl, hb⟩
  have Bs2 := Blk.on Bs1 hb
  have HB2 := hide (HB1.out.trans (hb.mono HB1.out.size))
  clear hb Bs1 HB1 ys0 ys1 ys2 ys3 ys4 ys5
  obtain ⟨ys0, ys1, ys2, ys3, ys4, ys5⟩ := Bs2.out.six
  go_wp2_with fail
  refine (K2.out _).mono ?_
  rintro e w3 ⟨rfl, hb⟩
  have Bs3 := Blk.on Bs2 hb
  have HB3 := hide (HB2.out.trans (hb.mono HB2.out.size))
  clear hb Bs2 HB2 ys0 ys1 ys2 ys3 ys4 ys5
  obtain ⟨ys0, ys1, ys2, ys3, ys4, ys5⟩ := Bs3.out.six
  go_wp2_with fail
  refine (K3.out _).mono ?_
  rintro e w4 ⟨rfl, hb⟩
  have Bs4 := Blk.on Bs3 hb
  have HB4 := hide (HB3.out.trans (hb.mono HB3.out.size))
  clear hb Bs3 HB3 ys0 ys1 ys2 ys3 ys4 ys5
  obtain ⟨ys0, ys1, ys2, ys3, ys4, ys5⟩ := Bs4.out.six
  go_wp2_with fail
  refine (K4.out _).mono ?_
  rintro e w5 ⟨rfl, hb⟩
  have Bs5 := Blk.on Bs4 hb
  have HB5 := hide (HB4.out.trans (hb.mono HB4.out.size))
  clear hb Bs4 HB4 ys0 ys1 ys2 ys3 ys4 ys5
  obtain ⟨ys0, ys1, ys2, ys3, ys4, ys5⟩ := Bs5.out.six
  go_wp2
  go_ret
  exact ⟨rfl, HB5.out⟩

set_option maxHeartbeats 2000000 in
theorem omay_5 (i : ByteArray) (v z : Int) (f t : ByteArray) (e : Int) (w : World) (h0 : NumT (bys i) 8192) (h1 : NumT (bys t) 8192) (h2 : 0 ≤ v ∧ v ≤ 8192) (h3 : 0 ≤ z ∧ z ≤ 8192) (h4 : 0 ≤ e ∧ e ≤ 8192) (h5 : v < z) : Calls Tryz.prog 48 #[opV i v z f t e] w fun e w' => e = .returned (.bool false) ∧ Below w.heap.size w w' := by
  have K0 := hide (fun W => isNum_T i W h0)
  have K1 := hide (fun W => isNum_T t W h1)
  have K2 := hide (fun W => isCount_t v W h2.1 h2.2)
  have K3 := hide (fun W => isCount_t z W h3.1 h3.2)
  have K4 := hide (fun W => isCount_t e W h4.1 h4.2)
  have g5 : decide (v < z) = true := decide_eq_true h5
  clear h0 h1 h2 h3 h4
  have Bs0 := hide (Blk.newAt w (w.heap.size) (rfl) #[.string i, .int .i64 v, .int .i64 z, .string f, .string t, .int .i64 e] 37)
  have HB0 : Hid (Below w.heap.size w (w.alloc (.cells #[.string i, .int .i64 v, .int .i64 z, .string f, .string t, .int .i64 e] 37))) := ((Below.refl _ _).alloc (Nat.le_refl _) _)
  go_enter Tryz.func48, Tryz.ntmps48
  go_wp2_with fail
  refine (K0.out _).mono ?_
  rintro e w1 ⟨rfl, hb⟩
  have Bs1 := Blk.on Bs0 hb
  have HB1 := hide (HB0.out.trans (hb.mono HB0.out.size))
  clear hb Bs0 HB0 
  obtain ⟨ys0, ys1, ys2, ys3, ys4, ys5⟩ := Bs1.out.six
  go_wp2_with fail
  refine (K1.out _).mono ?_
  rintro e w2 ⟨rfl, hb⟩
  have Bs2 := Blk.on Bs1 hb
  have HB2 := hide (HB1.out.trans (hb.mono HB1.out.size))
  clear hb Bs1 HB1 ys0 ys1 ys2 ys3 ys4 ys5
  obtain ⟨ys0, ys1, ys2, ys3, ys4, ys5⟩ := Bs2.out.six
  go_wp2_with fail
  refine (K2.out _).mono ?_
  rintro e w3 ⟨rfl, hb⟩
  have Bs3 := Blk.on Bs2 hb
  have HB3 := hide (HB2.out.trans (hb.mono HB2.out.size))
  clear hb Bs2 HB2 ys0 ys1 ys2 ys3 ys4 ys5
  obtain ⟨ys0, ys1, ys2, ys3, ys4, ys5⟩ := Bs3.out.six
  go_wp2_with fail
  refine (K3.out _).mono ?_
  rintro e w4 ⟨rfl, hb⟩
  have Bs4 := Blk.on Bs3 hb
  have HB4 := hide (HB3.out.trans (hb.mono HB3.out.size))
  clear hb Bs3 HB3 ys0 ys1 ys2 ys3 ys4 ys5
  obtain ⟨ys0, ys1, ys2, ys3, ys4, ys5⟩ := Bs4.out.six
  go_wp2_with fail
  refine (K4.out _).mono ?_
  rintro e w5 ⟨rfl, hb⟩
  have Bs5 := Blk.on Bs4 hb
  have HB5 := hide (HB4.out.trans (hb.mono HB4.out.size))
  clear hb Bs4 HB4 ys0 ys1 ys2 ys3 ys4 ys5
  obtain ⟨ys0, ys1, ys2, ys3, ys4, ys5⟩ := Bs5.out.six
  go_wp2
  go_ret
  exact ⟨rfl, HB5.out⟩

set_option maxHeartbeats 2000000 in
theorem omay_zt (i : ByteArray) (v z e : Int) (w : World) (h0 : NumT (bys i) 8192) (h2 : 0 ≤ v ∧ v ≤ 8192) (h3 : 0 ≤ z ∧ z ≤ 8192) (h4 : 0 ≤ e ∧ e ≤ 8192) (h5 : z ≤ v)  : Calls Tryz.prog 48 #[opV i v z ⟨#[48]⟩ ⟨#[48]⟩ e] w fun e w' => e = .returned (.bool true) ∧ Below w.heap.size w w' := by
  have K0 := hide (fun W => isNum_T i W h0)
  have K1 := hide (fun W => isNum_0 W)
  have K2 := hide (fun W => isCount_t v W h2.1 h2.2)
  have K3 := hide (fun W => isCount_t z W h3.1 h3.2)
  have K4 := hide (fun W => isCount_t e W h4.1 h4.2)
  have g5 : decide (v < z) = false := decide_eq_false (by omega)
  clear h5
  clear h0 h2 h3 h4
  have Bs0 := hide (Blk.newAt w (w.heap.size) (rfl) #[.string i, .int .i64 v, .int .i64 z, .string ⟨#[48]⟩, .string ⟨#[48]⟩, .int .i64 e] 37)
  have HB0 : Hid (Below w.heap.size w (w.alloc (.cells #[.string i, .int .i64 v, .int .i64 z, .string ⟨#[48]⟩, .string ⟨#[48]⟩, .int .i64 e] 37))) := ((Below.refl _ _).alloc (Nat.le_refl _) _)
  go_enter Tryz.func48, Tryz.ntmps48
  go_wp2_with fail
  refine (K0.out _).mono ?_
  rintro e w1 ⟨rfl, hb⟩
  have Bs1 := Blk.on Bs0 hb
  have HB1 := hide (HB0.out.trans (hb.mono HB0.out.size))
  clear hb Bs0 HB0 
  obtain ⟨ys0, ys1, ys2, ys3, ys4, ys5⟩ := Bs1.out.six
  go_wp2_with fail
  refine (K1.out _).mono ?_
  rintro e w2 ⟨rfl, hb⟩
  have Bs2 := Blk.on Bs1 hb
  have HB2 := hide (HB1.out.trans (hb.mono HB1.out.size))
  clear hb Bs1 HB1 ys0 ys1 ys2 ys3 ys4 ys5
  obtain ⟨ys0, ys1, ys2, ys3, ys4, ys5⟩ := Bs2.out.six
  go_wp2_with fail
  refine (K2.out _).mono ?_
  rintro e w3 ⟨rfl, hb⟩
  have Bs3 := Blk.on Bs2 hb
  have HB3 := hide (HB2.out.trans (hb.mono HB2.out.size))
  clear hb Bs2 HB2 ys0 ys1 ys2 ys3 ys4 ys5
  obtain ⟨ys0, ys1, ys2, ys3, ys4, ys5⟩ := Bs3.out.six
  go_wp2_with fail
  refine (K3.out _).mono ?_
  rintro e w4 ⟨rfl, hb⟩
  have Bs4 := Blk.on Bs3 hb
  have HB4 := hide (HB3.out.trans (hb.mono HB3.out.size))
  clear hb Bs3 HB3 ys0 ys1 ys2 ys3 ys4 ys5
  obtain ⟨ys0, ys1, ys2, ys3, ys4, ys5⟩ := Bs4.out.six
  go_wp2_with fail
  refine (K4.out _).mono ?_
  rintro e w5 ⟨rfl, hb⟩
  have Bs5 := Blk.on Bs4 hb
  have HB5 := hide (HB4.out.trans (hb.mono HB4.out.size))
  clear hb Bs4 HB4 ys0 ys1 ys2 ys3 ys4 ys5
  obtain ⟨ys0, ys1, ys2, ys3, ys4, ys5⟩ := Bs5.out.six
  go_wp2
  go_ret
  exact ⟨rfl, HB5.out⟩

set_option maxHeartbeats 2000000 in
theorem omay_zf (i : ByteArray) (v z : Int) (f : ByteArray) (e : Int) (w : World) (h0 : NumT (bys i) 8192) (h2 : 0 ≤ v ∧ v ≤ 8192) (h3 : 0 ≤ z ∧ z ≤ 8192) (h4 : 0 ≤ e ∧ e ≤ 8192) (h5 : z ≤ v) (h6 : bys f ≠ [48]) : Calls Tryz.prog 48 #[opV i v z f ⟨#[48]⟩ e] w fun e w' => e = .returned (.bool false) ∧ Below w.heap.size w w' := by
  have K0 := hide (fun W => isNum_T i W h0)
  have K1 := hide (fun W => isNum_0 W)
  have K2 := hide (fun W => isCount_t v W h2.1 h2.2)
  have K3 := hide (fun W => isCount_t z W h3.1 h3.2)
  have K4 := hide (fun W => isCount_t e W h4.1 h4.2)
  have g5 : decide (v < z) = false := decide_eq_false (by omega)
  have hq := ne_nought h6
  clear h5 h6
  clear h0 h2 h3 h4
  have Bs0 := hide (Blk.newAt w (w.heap.size) (rfl) #[.string i, .int .i64 v, .int .i64 z, .string f, .string ⟨#[48]⟩, .int .i64 e] 37)
  have HB0 : Hid (Below w.heap.size w (w.alloc (.cells #[.string i, .int .i64 v, .int .i64 z, .string f, .string ⟨#[48]⟩, .int .i64 e] 37))) := ((Below.refl _ _).alloc (Nat.le_refl _) _)
  go_enter Tryz.func48, Tryz.ntmps48
  go_wp2_with fail
  refine (K0.out _).mono ?_
  rintro e w1 ⟨rfl, hb⟩
  have Bs1 := Blk.on Bs0 hb
  have HB1 := hide (HB0.out.trans (hb.mono HB0.out.size))
  clear hb Bs0 HB0 
  obtain ⟨ys0, ys1, ys2, ys3, ys4, ys5⟩ := Bs1.out.six
  go_wp2_with fail
  refine (K1.out _).mono ?_
  rintro e w2 ⟨rfl, hb⟩
  have Bs2 := Blk.on Bs1 hb
  have HB2 := hide (HB1.out.trans (hb.mono HB1.out.size))
  clear hb Bs1 HB1 ys0 ys1 ys2 ys3 ys4 ys5
  obtain ⟨ys0, ys1, ys2, ys3, ys4, ys5⟩ := Bs2.out.six
  go_wp2_with fail
  refine (K2.out _).mono ?_
  rintro e w3 ⟨rfl, hb⟩
  have Bs3 := Blk.on Bs2 hb
  have HB3 := hide (HB2.out.trans (hb.mono HB2.out.size))
  clear hb Bs2 HB2 ys0 ys1 ys2 ys3 ys4 ys5
  obtain ⟨ys0, ys1, ys2, ys3, ys4, ys5⟩ := Bs3.out.six
  go_wp2_with fail
  refine (K3.out _).mono ?_
  rintro e w4 ⟨rfl, hb⟩
  have Bs4 := Blk.on Bs3 hb
  have HB4 := hide (HB3.out.trans (hb.mono HB3.out.size))
  clear hb Bs3 HB3 ys0 ys1 ys2 ys3 ys4 ys5
  obtain ⟨ys0, ys1, ys2, ys3, ys4, ys5⟩ := Bs4.out.six
  go_wp2_with fail
  refine (K4.out _).mono ?_
  rintro e w5 ⟨rfl, hb⟩
  have Bs5 := Blk.on Bs4 hb
  have HB5 := hide (HB4.out.trans (hb.mono HB4.out.size))
  clear hb Bs4 HB4 ys0 ys1 ys2 ys3 ys4 ys5
  obtain ⟨ys0, ys1, ys2, ys3, ys4, ys5⟩ := Bs5.out.six
  go_wp2
  go_ret
  exact ⟨rfl, HB5.out⟩

set_option maxHeartbeats 2000000 in
theorem omay_l (i : ByteArray) (v z : Int) (f t : ByteArray) (e : Int) (w : World) (h0 : NumT (bys i) 8192) (h1 : NumT (bys t) 8192) (h2 : 0 ≤ v ∧ v ≤ 8192) (h3 : 0 ≤ z ∧ z ≤ 8192) (h4 : 0 ≤ e ∧ e ≤ 8192) (h5 : z ≤ v) (h6 : bys t ≠ [48]) (h7 : ¬ (t.size : Int) ≤ z) : Calls Tryz.prog 48 #[opV i v z f t e] w fun e w' => e = .returned (.bool false) ∧ Below w.heap.size w w' := by
  have K0 := hide (fun W => isNum_T i W h0)
  have K1 := hide (fun W => isNum_T t W h1)
  have K2 := hide (fun W => isCount_t v W h2.1 h2.2)
  have K3 := hide (fun W => isCount_t z W h3.1 h3.2)
  have K4 := hide (fun W => isCount_t e W h4.1 h4.2)
  have g5 : decide (v < z) = false := decide_eq_false (by omega)
  have hq := ne_nought h6
  have h8 : decide ((t.size : Int) ≤ z) = false := decide_eq_false h7
  clear h5 h6 h7
  clear h0 h1 h2 h3 h4
  have Bs0 := hide (Blk.newAt w (w.heap.size) (rfl) #[.string i, .int .i64 v, .int .i64 z, .string f, .string t, .int .i64 e] 37)
  have HB0 : Hid (Below w.heap.size w (w.alloc (.cells #[.string i, .int .i64 v, .int .i64 z, .string f, .string t, .int .i64 e] 37))) := ((Below.refl _ _).alloc (Nat.le_refl _) _)
  go_enter Tryz.func48, Tryz.ntmps48
  go_wp2_with fail
  refine (K0.out _).mono ?_
  rintro e w1 ⟨rfl, hb⟩
  have Bs1 := Blk.on Bs0 hb
  have HB1 := hide (HB0.out.trans (hb.mono HB0.out.size))
  clear hb Bs0 HB0 
  obtain ⟨ys0, ys1, ys2, ys3, ys4, ys5⟩ := Bs1.out.six
  go_wp2_with fail
  refine (K1.out _).mono ?_
  rintro e w2 ⟨rfl, hb⟩
  have Bs2 := Blk.on Bs1 hb
  have HB2 := hide (HB1.out.trans (hb.mono HB1.out.size))
  clear hb Bs1 HB1 ys0 ys1 ys2 ys3 ys4 ys5
  obtain ⟨ys0, ys1, ys2, ys3, ys4, ys5⟩ := Bs2.out.six
  go_wp2_with fail
  refine (K2.out _).mono ?_
  rintro e w3 ⟨rfl, hb⟩
  have Bs3 := Blk.on Bs2 hb
  have HB3 := hide (HB2.out.trans (hb.mono HB2.out.size))
  clear hb Bs2 HB2 ys0 ys1 ys2 ys3 ys4 ys5
  obtain ⟨ys0, ys1, ys2, ys3, ys4, ys5⟩ := Bs3.out.six
  go_wp2_with fail
  refine (K3.out _).mono ?_
  rintro e w4 ⟨rfl, hb⟩
  have Bs4 := Blk.on Bs3 hb
  have HB4 := hide (HB3.out.trans (hb.mono HB3.out.size))
  clear hb Bs3 HB3 ys0 ys1 ys2 ys3 ys4 ys5
  obtain ⟨ys0, ys1, ys2, ys3, ys4, ys5⟩ := Bs4.out.six
  go_wp2_with fail
  refine (K4.out _).mono ?_
  rintro e w5 ⟨rfl, hb⟩
  have Bs5 := Blk.on Bs4 hb
  have HB5 := hide (HB4.out.trans (hb.mono HB4.out.size))
  clear hb Bs4 HB4 ys0 ys1 ys2 ys3 ys4 ys5
  obtain ⟨ys0, ys1, ys2, ys3, ys4, ys5⟩ := Bs5.out.six
  go_wp2_with fail
  refine wp_region_held_drew (S := (fun w' => w'.cell? ⟨w.heap.size, 2, none⟩ = some (.int .i64 z) ∧ w'.cell? ⟨w.heap.size, 4, none⟩ = some (.string t))) (by kernel_rfl) ?_ (fun hHeld => ?_)
  · (try dsimp only)
    go_keep
  refine wpAnyH_take (i := 0) (oi := Oper.mk (some 44) _ _ _ _ _) (v := .pointer (some ⟨w.heap.size, 4, none⟩)) rfl (by kernel_rfl) (by kernel_rfl) (by kernel_rfl) (fun _ _ _ h => h) (Or.inl ⟨by rfl, ?_⟩) (by assumption) ?_
  · intro wX hSw
    (try dsimp only at hSw)
    go_simp
  simp only [Act.put, List.setIfInBounds_toArray, List.set_cons_succ, List.set_cons_zero]
  refine wpAnyH_take (i := 1) (oi := Oper.mk (some 45) _ _ _ _ _) (v := .string t) rfl (by kernel_rfl) (by kernel_rfl) (by kernel_rfl) (fun _ _ _ h => h) (Or.inl ⟨by rfl, ?_⟩) (by assumption) ?_
  · intro wX hSw
    (try dsimp only at hSw)
    go_simp
  simp only [Act.put, List.setIfInBounds_toArray, List.set_cons_succ, List.set_cons_zero]
  refine wpAnyH_take (i := 2) (oi := Oper.mk (some 46) _ _ _ _ _) (v := .int .i64 (t.size : Int)) rfl (by kernel_rfl) (by kernel_rfl) (by kernel_rfl) (fun _ _ _ h => h) (Or.inl ⟨by rfl, ?_⟩) (by assumption) ?_
  · intro wX hSw
    (try dsimp only at hSw)
    go_simp
  simp only [Act.put, List.setIfInBounds_toArray, List.set_cons_succ, List.set_cons_zero]
  refine wpAnyH_take (i := 3) (oi := Oper.mk (some 47) _ _ _ _ _) (v := .pointer (some ⟨w.heap.size, 2, none⟩)) rfl (by kernel_rfl) (by kernel_rfl) (by kernel_rfl) (fun _ _ _ h => h) (Or.inl ⟨by rfl, ?_⟩) (by assumption) ?_
  · intro wX hSw
    (try dsimp only at hSw)
    go_simp
  simp only [Act.put, List.setIfInBounds_toArray, List.set_cons_succ, List.set_cons_zero]
  refine wpAnyH_take (i := 4) (oi := Oper.mk (some 48) _ _ _ _ _) (v := .int .i64 z) rfl (by kernel_rfl) (by kernel_rfl) (by kernel_rfl) (fun _ _ _ h => h) (Or.inl ⟨by rfl, ?_⟩) (by assumption) ?_
  · intro wX hSw
    (try dsimp only at hSw)
    go_simp
  simp only [Act.put, List.setIfInBounds_toArray, List.set_cons_succ, List.set_cons_zero]
  refine wpAnyH_take (i := 5) (oi := Oper.mk (some 49) _ _ _ _ _) (v := .bool false) rfl (by kernel_rfl) (by kernel_rfl) (by kernel_rfl) (fun _ _ _ h => h) (Or.inl ⟨by rfl, ?_⟩) (by assumption) ?_
  · intro wX hSw
    (try dsimp only at hSw)
    go_simp
  simp only [Act.put, List.setIfInBounds_toArray, List.set_cons_succ, List.set_cons_zero]
  refine wpAnyH_take (i := 6) (oi := Oper.mk (some 50) _ _ _ _ _) (v := .bool false) rfl (by kernel_rfl) (by kernel_rfl) (by kernel_rfl) (fun _ _ _ h => h) (Or.inl ⟨by rfl, ?_⟩) (by assumption) ?_
  · intro wX hSw
    (try dsimp only at hSw)
    go_simp
  simp only [Act.put, List.setIfInBounds_toArray, List.set_cons_succ, List.set_cons_zero]
  refine wpAnyH_take (i := 7) (oi := Oper.mk (some 51) _ _ _ _ _) (v := undef) rfl (by kernel_rfl) (by kernel_rfl) (by kernel_rfl) (fun _ _ _ h => h) (Or.inr ⟨by rfl, rfl⟩) (by assumption) ?_
  simp only [Act.put, List.setIfInBounds_toArray, List.set_cons_succ, List.set_cons_zero]
  refine wpAnyH_take (i := 8) (oi := Oper.mk (some 52) _ _ _ _ _) (v := undef) rfl (by kernel_rfl) (by kernel_rfl) (by kernel_rfl) (fun _ _ _ h => h) (Or.inr ⟨by rfl, rfl⟩) (by assumption) ?_
  simp only [Act.put, List.setIfInBounds_toArray, List.set_cons_succ, List.set_cons_zero]
  refine wpAnyH_take (i := 9) (oi := Oper.mk (some 53) _ _ _ _ _) (v := undef) rfl (by kernel_rfl) (by kernel_rfl) (by kernel_rfl) (fun _ _ _ h => h) (Or.inr ⟨by rfl, rfl⟩) (by assumption) ?_
  simp only [Act.put, List.setIfInBounds_toArray, List.set_cons_succ, List.set_cons_zero]
  refine wpAnyH_take (i := 10) (oi := Oper.mk (some 54) _ _ _ _ _) (v := undef) rfl (by kernel_rfl) (by kernel_rfl) (by kernel_rfl) (fun _ _ _ h => h) (Or.inr ⟨by rfl, rfl⟩) (by assumption) ?_
  simp only [Act.put, List.setIfInBounds_toArray, List.set_cons_succ, List.set_cons_zero]
  refine wpAnyH_take (i := 11) (oi := Oper.mk (some 55) _ _ _ _ _) (v := undef) rfl (by kernel_rfl) (by kernel_rfl) (by kernel_rfl) (fun _ _ _ h => h) (Or.inr ⟨by rfl, rfl⟩) (by assumption) ?_
  simp only [Act.put, List.setIfInBounds_toArray, List.set_cons_succ, List.set_cons_zero]
  refine wpAnyH_take (i := 12) (oi := Oper.mk (some 56) _ _ _ _ _) (v := undef) rfl (by kernel_rfl) (by kernel_rfl) (by kernel_rfl) (fun _ _ _ h => h) (Or.inr ⟨by rfl, rfl⟩) (by assumption) ?_
  simp only [Act.put, List.setIfInBounds_toArray, List.set_cons_succ, List.set_cons_zero]
  refine wpAnyH_take (i := 13) (oi := Oper.mk (some 57) _ _ _ _ _) (v := undef) rfl (by kernel_rfl) (by kernel_rfl) (by kernel_rfl) (fun _ _ _ h => h) (Or.inr ⟨by rfl, rfl⟩) (by assumption) ?_
  simp only [Act.put, List.setIfInBounds_toArray, List.set_cons_succ, List.set_cons_zero]
  refine wpAnyH_take (i := 14) (oi := Oper.mk (some 58) _ _ _ _ _) (v := undef) rfl (by kernel_rfl) (by kernel_rfl) (by kernel_rfl) (fun _ _ _ h => h) (Or.inr ⟨by rfl, rfl⟩) (by assumption) ?_
  simp only [Act.put, List.setIfInBounds_toArray, List.set_cons_succ, List.set_cons_zero]
  refine wpAnyH_take (i := 15) (oi := Oper.mk (some 59) _ _ _ _ _) (v := undef) rfl (by kernel_rfl) (by kernel_rfl) (by kernel_rfl) (fun _ _ _ h => h) (Or.inr ⟨by rfl, rfl⟩) (by assumption) ?_
  simp only [Act.put, List.setIfInBounds_toArray, List.set_cons_succ, List.set_cons_zero]
  refine wpAnyH_take (i := 16) (oi := Oper.mk (some 60) _ _ _ _ _) (v := undef) rfl (by kernel_rfl) (by kernel_rfl) (by kernel_rfl) (fun _ _ _ h => h) (Or.inr ⟨by rfl, rfl⟩) (by assumption) ?_
  simp only [Act.put, List.setIfInBounds_toArray, List.set_cons_succ, List.set_cons_zero]
  refine wpAnyH_take (i := 17) (oi := Oper.mk (some 61) _ _ _ _ _) (v := undef) rfl (by kernel_rfl) (by kernel_rfl) (by kernel_rfl) (fun _ _ _ h => h) (Or.inr ⟨by rfl, rfl⟩) (by assumption) ?_
  simp only [Act.put, List.setIfInBounds_toArray, List.set_cons_succ, List.set_cons_zero]
  refine wpAnyH_take (i := 18) (oi := Oper.mk (some 62) _ _ _ _ _) (v := undef) rfl (by kernel_rfl) (by kernel_rfl) (by kernel_rfl) (fun _ _ _ h => h) (Or.inr ⟨by rfl, rfl⟩) (by assumption) ?_
  simp only [Act.put, List.setIfInBounds_toArray, List.set_cons_succ, List.set_cons_zero]
  refine wpAnyH_take (i := 19) (oi := Oper.mk (some 63) _ _ _ _ _) (v := .bool false) rfl (by kernel_rfl) (by kernel_rfl) (by kernel_rfl) (fun _ _ _ h => h) (Or.inl ⟨by rfl, ?_⟩) (by assumption) ?_
  · intro wX hSw
    (try dsimp only at hSw)
    go_simp
  simp only [Act.put, List.setIfInBounds_toArray, List.set_cons_succ, List.set_cons_zero]
  refine wpAnyH_take (i := 20) (oi := Oper.mk (some 2) _ _ _ _ _) (v := .bool false) rfl (by kernel_rfl) (by kernel_rfl) (by kernel_rfl) (fun _ _ _ h => h) (Or.inl ⟨by rfl, ?_⟩) (by assumption) ?_
  · intro wX hSw
    (try dsimp only at hSw)
    go_simp
  simp only [Act.put, List.setIfInBounds_toArray, List.set_cons_succ, List.set_cons_zero]
  refine wpAnyH_done (by kernel_rfl) ?_ _
  have HBE := hide HB5.out.drew
  go_wp2
  go_ret
  exact ⟨rfl, HBE.out⟩

set_option maxHeartbeats 2000000 in
theorem omay_n (i : ByteArray) (v z : Int) (f t : ByteArray) (e : Int) (w : World) (h0 : NumT (bys i) 8192) (h1 : NumT (bys t) 8192) (h2 : 0 ≤ v ∧ v ≤ 8192) (h3 : 0 ≤ z ∧ z ≤ 8192) (h4 : 0 ≤ e ∧ e ≤ 8192) (h5 : z ≤ v) (h6 : bys t ≠ [48]) (h7 : (t.size : Int) ≤ z) (N : ByteArray) (hN : ∀ W, Calls Tryz.prog 104 #[.int .i64 (v - z)] W fun e w' => e = .returned (.string N) ∧ Below W.heap.size W w') (hn : N.size ≤ 10000) (ht : t.size ≤ 10000) (h9 : bys f ≠ bys t ++ bys N) : Calls Tryz.prog 48 #[opV i v z f t e] w fun e w' => e = .returned (.bool false) ∧ Below w.heap.size w w' := by
  have K0 := hide (fun W => isNum_T i W h0)
  have K1 := hide (fun W => isNum_T t W h1)
  have K2 := hide (fun W => isCount_t v W h2.1 h2.2)
  have K3 := hide (fun W => isCount_t z W h3.1 h3.2)
  have K4 := hide (fun W => isCount_t e W h4.1 h4.2)
  have g5 : decide (v < z) = false := decide_eq_false (by omega)
  have hq := ne_nought h6
  have hf := ne_text (f := f) (g := t ++ N) (by rw [bys_append]; exact h9)
  clear h9
  have HN := hide hN
  have hw : IntKind.i64.wrap (v - z) = v - z := by rw [IntKind.wrap_i64]; omega
  have hs : ¬ 9223372036854775807 < t.size + N.size := by omega
  have h8 : decide ((t.size : Int) ≤ z) = true := decide_eq_true h7
  clear h5 h6 h7 hN hn ht
  clear h0 h1 h2 h3 h4
  have Bs0 := hide (Blk.newAt w (w.heap.size) (rfl) #[.string i, .int .i64 v, .int .i64 z, .string f, .string t, .int .i64 e] 37)
  have HB0 : Hid (Below w.heap.size w (w.alloc (.cells #[.string i, .int .i64 v, .int .i64 z, .string f, .string t, .int .i64 e] 37))) := ((Below.refl _ _).alloc (Nat.le_refl _) _)
  go_enter Tryz.func48, Tryz.ntmps48
  go_wp2_with fail
  refine (K0.out _).mono ?_
  rintro e w1 ⟨rfl, hb⟩
  have Bs1 := Blk.on Bs0 hb
  have HB1 := hide (HB0.out.trans (hb.mono HB0.out.size))
  clear hb Bs0 HB0 
  obtain ⟨ys0, ys1, ys2, ys3, ys4, ys5⟩ := Bs1.out.six
  go_wp2_with fail
  refine (K1.out _).mono ?_
  rintro e w2 ⟨rfl, hb⟩
  have Bs2 := Blk.on Bs1 hb
  have HB2 := hide (HB1.out.trans (hb.mono HB1.out.size))
  clear hb Bs1 HB1 ys0 ys1 ys2 ys3 ys4 ys5
  obtain ⟨ys0, ys1, ys2, ys3, ys4, ys5⟩ := Bs2.out.six
  go_wp2_with fail
  refine (K2.out _).mono ?_
  rintro e w3 ⟨rfl, hb⟩
  have Bs3 := Blk.on Bs2 hb
  have HB3 := hide (HB2.out.trans (hb.mono HB2.out.size))
  clear hb Bs2 HB2 ys0 ys1 ys2 ys3 ys4 ys5
  obtain ⟨ys0, ys1, ys2, ys3, ys4, ys5⟩ := Bs3.out.six
  go_wp2_with fail
  refine (K3.out _).mono ?_
  rintro e w4 ⟨rfl, hb⟩
  have Bs4 := Blk.on Bs3 hb
  have HB4 := hide (HB3.out.trans (hb.mono HB3.out.size))
  clear hb Bs3 HB3 ys0 ys1 ys2 ys3 ys4 ys5
  obtain ⟨ys0, ys1, ys2, ys3, ys4, ys5⟩ := Bs4.out.six
  go_wp2_with fail
  refine (K4.out _).mono ?_
  rintro e w5 ⟨rfl, hb⟩
  have Bs5 := Blk.on Bs4 hb
  have HB5 := hide (HB4.out.trans (hb.mono HB4.out.size))
  clear hb Bs4 HB4 ys0 ys1 ys2 ys3 ys4 ys5
  obtain ⟨ys0, ys1, ys2, ys3, ys4, ys5⟩ := Bs5.out.six
  have b0 : Hid (Below w5.heap.size w5 w5.drew) := bdrewD w5
  have C0 : Hid (∀ X, Hid (Below w5.heap.size w5 X) → Calls Tryz.prog 104 #[.int .i64 (v - z)] X fun e w' => e = .returned (.string N) ∧ Hid (Below w5.heap.size w5 w') ∧ w'.cell? ⟨w.heap.size, 1, none⟩ = some (.int .i64 v) ∧ w'.cell? ⟨w.heap.size, 2, none⟩ = some (.int .i64 z) ∧ w'.cell? ⟨w.heap.size, 3, none⟩ = some (.string f) ∧ w'.cell? ⟨w.heap.size, 4, none⟩ = some (.string t)) := by
    intro X bX
    refine (HN.out X).mono ?_
    rintro e w' ⟨rfl, hb⟩
    have bb := bX.out.trans (hb.mono bX.out.size)
    have Bsq := Bs5.out.below bb Bs5.out.lt
    exact ⟨rfl, bb, Bsq.cell 1, Bsq.cell 2, Bsq.cell 3, Bsq.cell 4⟩
  go_wp2_with fail
  have mk0 : True := trivial
  go_region_held3 (fun w' => w'.cell? ⟨w.heap.size, 1, none⟩ = some (.int .i64 v) ∧ w'.cell? ⟨w.heap.size, 2, none⟩ = some (.int .i64 z) ∧ w'.cell? ⟨w.heap.size, 3, none⟩ = some (.string f) ∧ w'.cell? ⟨w.heap.size, 4, none⟩ = some (.string t)) (go_keep) (first
    | (clear mk0; go_at_call 104; refine (C0.out _ b0).mono ?_; rintro e w6 ⟨rfl, b1, q0_0, q0_1, q0_2, q0_3⟩; have mk1 : True := trivial))
  have Bs6 := hide (Bs5.out.below b1.out Bs5.out.lt)
  have HB6 := hide (HB5.out.trans (b1.out.mono HB5.out.size))
  clear mk1 b0 b1 C0 q0_0 q0_1 q0_2 q0_3 Bs5 HB5 ys0 ys1 ys2 ys3 ys4 ys5
  obtain ⟨ys0, ys1, ys2, ys3, ys4, ys5⟩ := Bs6.out.six
  go_wp2
  go_ret
  exact ⟨rfl, HB6.out⟩

set_option maxHeartbeats 2000000 in
theorem omay_y (i : ByteArray) (v z : Int) (t : ByteArray) (e : Int) (N : ByteArray) (w : World) (h0 : NumT (bys i) 8192) (h1 : NumT (bys t) 8192) (h2 : 0 ≤ v ∧ v ≤ 8192) (h3 : 0 ≤ z ∧ z ≤ 8192) (h4 : 0 ≤ e ∧ e ≤ 8192) (h5 : z ≤ v) (h6 : bys t ≠ [48]) (h7 : (t.size : Int) ≤ z) (hN : ∀ W, Calls Tryz.prog 104 #[.int .i64 (v - z)] W fun e w' => e = .returned (.string N) ∧ Below W.heap.size W w') (hn : N.size ≤ 10000) (ht : t.size ≤ 10000) : Calls Tryz.prog 48 #[opV i v z (t ++ N) t e] w fun e w' => e = .returned (.bool true) ∧ Below w.heap.size w w' := by
  have K0 := hide (fun W => isNum_T i W h0)
  have K1 := hide (fun W => isNum_T t W h1)
  have K2 := hide (fun W => isCount_t v W h2.1 h2.2)
  have K3 := hide (fun W => isCount_t z W h3.1 h3.2)
  have K4 := hide (fun W => isCount_t e W h4.1 h4.2)
  have g5 : decide (v < z) = false := decide_eq_false (by omega)
  have hq := ne_nought h6
  have HN := hide hN
  have hw : IntKind.i64.wrap (v - z) = v - z := by rw [IntKind.wrap_i64]; omega
  have hs : ¬ 9223372036854775807 < t.size + N.size := by omega
  have h8 : decide ((t.size : Int) ≤ z) = true := decide_eq_true h7
  clear h5 h6 h7 hN hn ht
  clear h0 h1 h2 h3 h4
  have Bs0 := hide (Blk.newAt w (w.heap.size) (rfl) #[.string i, .int .i64 v, .int .i64 z, .string (t ++ N), .string t, .int .i64 e] 37)
  have HB0 : Hid (Below w.heap.size w (w.alloc (.cells #[.string i, .int .i64 v, .int .i64 z, .string (t ++ N), .string t, .int .i64 e] 37))) := ((Below.refl _ _).alloc (Nat.le_refl _) _)
  go_enter Tryz.func48, Tryz.ntmps48
  go_wp2_with fail
  refine (K0.out _).mono ?_
  rintro e w1 ⟨rfl, hb⟩
  have Bs1 := Blk.on Bs0 hb
  have HB1 := hide (HB0.out.trans (hb.mono HB0.out.size))
  clear hb Bs0 HB0 
  obtain ⟨ys0, ys1, ys2, ys3, ys4, ys5⟩ := Bs1.out.six
  go_wp2_with fail
  refine (K1.out _).mono ?_
  rintro e w2 ⟨rfl, hb⟩
  have Bs2 := Blk.on Bs1 hb
  have HB2 := hide (HB1.out.trans (hb.mono HB1.out.size))
  clear hb Bs1 HB1 ys0 ys1 ys2 ys3 ys4 ys5
  obtain ⟨ys0, ys1, ys2, ys3, ys4, ys5⟩ := Bs2.out.six
  go_wp2_with fail
  refine (K2.out _).mono ?_
  rintro e w3 ⟨rfl, hb⟩
  have Bs3 := Blk.on Bs2 hb
  have HB3 := hide (HB2.out.trans (hb.mono HB2.out.size))
  clear hb Bs2 HB2 ys0 ys1 ys2 ys3 ys4 ys5
  obtain ⟨ys0, ys1, ys2, ys3, ys4, ys5⟩ := Bs3.out.six
  go_wp2_with fail
  refine (K3.out _).mono ?_
  rintro e w4 ⟨rfl, hb⟩
  have Bs4 := Blk.on Bs3 hb
  have HB4 := hide (HB3.out.trans (hb.mono HB3.out.size))
  clear hb Bs3 HB3 ys0 ys1 ys2 ys3 ys4 ys5
  obtain ⟨ys0, ys1, ys2, ys3, ys4, ys5⟩ := Bs4.out.six
  go_wp2_with fail
  refine (K4.out _).mono ?_
  rintro e w5 ⟨rfl, hb⟩
  have Bs5 := Blk.on Bs4 hb
  have HB5 := hide (HB4.out.trans (hb.mono HB4.out.size))
  clear hb Bs4 HB4 ys0 ys1 ys2 ys3 ys4 ys5
  obtain ⟨ys0, ys1, ys2, ys3, ys4, ys5⟩ := Bs5.out.six
  have b0 : Hid (Below w5.heap.size w5 w5.drew) := bdrewD w5
  have C0 : Hid (∀ X, Hid (Below w5.heap.size w5 X) → Calls Tryz.prog 104 #[.int .i64 (v - z)] X fun e w' => e = .returned (.string N) ∧ Hid (Below w5.heap.size w5 w') ∧ w'.cell? ⟨w.heap.size, 1, none⟩ = some (.int .i64 v) ∧ w'.cell? ⟨w.heap.size, 2, none⟩ = some (.int .i64 z) ∧ w'.cell? ⟨w.heap.size, 3, none⟩ = some (.string (t ++ N)) ∧ w'.cell? ⟨w.heap.size, 4, none⟩ = some (.string t)) := by
    intro X bX
    refine (HN.out X).mono ?_
    rintro e w' ⟨rfl, hb⟩
    have bb := bX.out.trans (hb.mono bX.out.size)
    have Bsq := Bs5.out.below bb Bs5.out.lt
    exact ⟨rfl, bb, Bsq.cell 1, Bsq.cell 2, Bsq.cell 3, Bsq.cell 4⟩
  go_wp2_with fail
  have mk0 : True := trivial
  go_region_held3 (fun w' => w'.cell? ⟨w.heap.size, 1, none⟩ = some (.int .i64 v) ∧ w'.cell? ⟨w.heap.size, 2, none⟩ = some (.int .i64 z) ∧ w'.cell? ⟨w.heap.size, 3, none⟩ = some (.string (t ++ N)) ∧ w'.cell? ⟨w.heap.size, 4, none⟩ = some (.string t)) (go_keep) (first
    | (clear mk0; go_at_call 104; refine (C0.out _ b0).mono ?_; rintro e w6 ⟨rfl, b1, q0_0, q0_1, q0_2, q0_3⟩; have mk1 : True := trivial))
  have Bs6 := hide (Bs5.out.below b1.out Bs5.out.lt)
  have HB6 := hide (HB5.out.trans (b1.out.mono HB5.out.size))
  clear mk1 b0 b1 C0 q0_0 q0_1 q0_2 q0_3 Bs5 HB5 ys0 ys1 ys2 ys3 ys4 ys5
  obtain ⟨ys0, ys1, ys2, ys3, ys4, ys5⟩ := Bs6.out.six
  go_wp2
  go_ret
  exact ⟨rfl, HB6.out⟩

theorem bys_inj {f g : ByteArray} (h : bys f = bys g) : f = g := (mk_bys f).symm.trans ((congrArg (fun l : List UInt8 => (⟨l.toArray⟩ : ByteArray)) h).trans (mk_bys g))

theorem NumT.up {l : List UInt8} {m m' : Int} (h : NumT l m) (hm : m ≤ m') : NumT l m' := by
  rcases h with h | ⟨h1, h2, h3⟩
  · exact .inl h
  · exact .inr ⟨h1, by omega, h3⟩

theorem mayO_iff (x : OperT) : MayO x ↔ NumT x.i 8192 ∧ NumT x.t 8192 ∧ (0 ≤ x.v ∧ x.v ≤ 8192) ∧ (0 ≤ x.w ∧ x.w ≤ 8192) ∧ (0 ≤ x.e ∧ x.e ≤ 8192) ∧ x.w ≤ x.v ∧ ((x.t = [48] ∧ x.f = [48]) ∨ (x.t ≠ [48] ∧ (x.t.length : Int) ≤ x.w ∧ x.f = x.t ++ List.replicate (x.v - x.w).toNat 48)) := by
  constructor
  · rintro ⟨⟨v1, v2⟩, ⟨w1, w2⟩, ⟨e1, e2⟩, hi, hf, ht, h1, h2⟩
    refine ⟨hi, ht.up (by omega), ⟨v1, v2⟩, ⟨w1, by omega⟩, ⟨e1, e2⟩, w2, ?_⟩
    by_cases h : x.t = [48]
    · exact .inl ⟨h, h1 h⟩
    · exact .inr ⟨h, (ht.resolve_left h).2.1, h2 h⟩
  · rintro ⟨hi, ht, ⟨v1, v2⟩, ⟨w1, w2⟩, ⟨e1, e2⟩, hw, h⟩
    rcases h with ⟨h1, h2⟩ | ⟨h1, h2, h3⟩
    · exact ⟨⟨v1, v2⟩, ⟨w1, hw⟩, ⟨e1, e2⟩, hi, .inl h2, .inl h1, fun _ => h2, fun g => absurd h1 g⟩
    · obtain ⟨a1, a2, a3, a4⟩ := ht.resolve_left h1
      refine ⟨⟨v1, v2⟩, ⟨w1, hw⟩, ⟨e1, e2⟩, hi, .inr ⟨?_, ?_, ?_, ?_⟩, .inr ⟨a1, h2, a3, a4⟩, fun g => absurd g h1, fun _ => h3⟩
      · rw [h3]; intro g; exact a1 (List.append_eq_nil_iff.1 g).1
      · rw [h3, List.length_append, List.length_replicate]; omega
      · rw [h3, byt_append_left _ _ (List.length_pos_iff.2 a1)]; exact a3
      · rw [h3]; exact a4.append (digB_rep _)

theorem May_T (i : ByteArray) (v z : Int) (f t : ByteArray) (e : Int) (w : World) (h : MayO ⟨bys i, v, z, bys f, bys t, e⟩) : Calls Tryz.prog 48 #[opV i v z f t e] w fun e w' => e = .returned (.bool true) ∧ Below w.heap.size w w' := by
  obtain ⟨h0, h1, h2, h3, h4, h5, h⟩ := (mayO_iff _).1 h
  simp only at h0 h1 h2 h3 h4 h5 h
  rcases h with ⟨g1, g2⟩ | ⟨g1, g2, g3⟩
  · obtain rfl : t = ⟨#[48]⟩ := by rw [← mk_bys t, g1]
    obtain rfl : f = ⟨#[48]⟩ := by rw [← mk_bys f, g2]
    exact omay_zt i v z e w h0 h2 h3 h4 h5
  · have hl : t.size ≤ 8192 := by
      rw [bys_len] at g2
      omega
    obtain rfl : f = t ++ ⟨(List.replicate (v - z).toNat 48).toArray⟩ := bys_inj (by rw [g3, bys_append, bys_mk (List.replicate (v - z).toNat 48)])
    refine omay_y i v z t e _ w h0 h1 h2 h3 h4 h5 g1 (by rw [bys_len] at g2; exact g2) (fun W => ?_) (by rw [size_mk0, List.length_replicate]; omega) (by omega)
    have := onoughts_any (v - z).toNat W (by omega)
    rwa [show (((v - z).toNat : Nat) : Int) = v - z by omega] at this

theorem May_F (i : ByteArray) (v z : Int) (f t : ByteArray) (e : Int) (w : World) (h : ¬ MayO ⟨bys i, v, z, bys f, bys t, e⟩) : Calls Tryz.prog 48 #[opV i v z f t e] w fun e w' => e = .returned (.bool false) ∧ Below w.heap.size w w' := by
  rw [mayO_iff] at h
  simp only at h
  by_cases h0 : NumT (bys i) 8192
  rotate_left
  · exact omay_0 i v z f t e w h0
  by_cases h1 : NumT (bys t) 8192
  rotate_left
  · exact omay_1 i v z f t e w h0 h1
  by_cases h2 : 0 ≤ v ∧ v ≤ 8192
  rotate_left
  · exact omay_2 i v z f t e w h0 h1 h2
  by_cases h3 : 0 ≤ z ∧ z ≤ 8192
  rotate_left
  · exact omay_3 i v z f t e w h0 h1 h2 h3
  by_cases h4 : 0 ≤ e ∧ e ≤ 8192
  rotate_left
  · exact omay_4 i v z f t e w h0 h1 h2 h3 h4
  by_cases h5 : z ≤ v
  rotate_left
  · exact omay_5 i v z f t e w h0 h1 h2 h3 h4 (by omega)
  by_cases g1 : bys t = [48]
  · obtain rfl : t = ⟨#[48]⟩ := by rw [← mk_bys t, g1]
    exact omay_zf i v z f e w h0 h2 h3 h4 h5 (fun g => h ⟨h0, h1, h2, h3, h4, h5, .inl ⟨g1, g⟩⟩)
  · by_cases g2 : (t.size : Int) ≤ z
    · refine omay_n i v z f t e w h0 h1 h2 h3 h4 h5 g1 g2 ⟨(List.replicate (v - z).toNat 48).toArray⟩ (fun W => ?_) (by rw [size_mk0, List.length_replicate]; omega) (by omega) (fun g => h ⟨h0, h1, h2, h3, h4, h5, .inr ⟨g1, by rw [bys_len]; exact g2, by rw [g, bys_mk (List.replicate (v - z).toNat 48)]⟩⟩)
      have := onoughts_any (v - z).toNat W (by omega)
      rwa [show (((v - z).toNat : Nat) : Int) = v - z by omega] at this
    · exact omay_l i v z f t e w h0 h1 h2 h3 h4 h5 g1 g2

end Go.Proofs.YtijccekejfcheaaGreatDoor

namespace Go.Proofs.YtijccekejfcheaaGreatDoor
open Go.RowKit

theorem isLetter_any (b : Nat) (w : World) : Calls Tryz.prog 247 #[.int .u8 (b : Int)] w fun e w' => e = .returned (.bool (decide (97 ≤ b) && decide (b ≤ 122))) ∧ w = w' := by
  by_cases h1 : 97 ≤ b <;> by_cases h2 : b ≤ 122
  · have h1' : 97 ≤ (b : Int) := by omega
    have h2' : (b : Int) ≤ 122 := by omega
    have h3' : decide (97 ≤ (b : Int)) = true := decide_eq_true h1'
    have h4' : decide ((b : Int) ≤ 122) = true := decide_eq_true h2'
    go_enter Tryz.func247, Tryz.ntmps247
    go_wp2
    go_ret
    exact ⟨by simp_all, rfl⟩
  · have h1' : 97 ≤ (b : Int) := by omega
    have h2' : ¬ (b : Int) ≤ 122 := by omega
    have h3' : decide (97 ≤ (b : Int)) = true := decide_eq_true h1'
    have h4' : decide ((b : Int) ≤ 122) = false := decide_eq_false h2'
    go_enter Tryz.func247, Tryz.ntmps247
    go_wp2
    go_ret
    exact ⟨by simp_all, rfl⟩
  · have h1' : ¬ 97 ≤ (b : Int) := by omega
    have h3' : decide (97 ≤ (b : Int)) = false := decide_eq_false h1'
    go_enter Tryz.func247, Tryz.ntmps247
    go_wp2
    go_ret
    exact ⟨by simp_all, rfl⟩
  · have h1' : ¬ 97 ≤ (b : Int) := by omega
    have h3' : decide (97 ≤ (b : Int)) = false := decide_eq_false h1'
    go_enter Tryz.func247, Tryz.ntmps247
    go_wp2
    go_ret
    exact ⟨by simp_all, rfl⟩

theorem isDigit_any (b : Nat) (w : World) : Calls Tryz.prog 249 #[.int .u8 (b : Int)] w fun e w' => e = .returned (.bool (decide (48 ≤ b) && decide (b ≤ 57))) ∧ w = w' := by
  by_cases h1 : 48 ≤ b <;> by_cases h2 : b ≤ 57
  · have h1' : 48 ≤ (b : Int) := by omega
    have h2' : (b : Int) ≤ 57 := by omega
    have h3' : decide (48 ≤ (b : Int)) = true := decide_eq_true h1'
    have h4' : decide ((b : Int) ≤ 57) = true := decide_eq_true h2'
    go_enter Tryz.func249, Tryz.ntmps249
    go_wp2
    go_ret
    exact ⟨by simp_all, rfl⟩
  · have h1' : 48 ≤ (b : Int) := by omega
    have h2' : ¬ (b : Int) ≤ 57 := by omega
    have h3' : decide (48 ≤ (b : Int)) = true := decide_eq_true h1'
    have h4' : decide ((b : Int) ≤ 57) = false := decide_eq_false h2'
    go_enter Tryz.func249, Tryz.ntmps249
    go_wp2
    go_ret
    exact ⟨by simp_all, rfl⟩
  · have h1' : ¬ 48 ≤ (b : Int) := by omega
    have h3' : decide (48 ≤ (b : Int)) = false := decide_eq_false h1'
    go_enter Tryz.func249, Tryz.ntmps249
    go_wp2
    go_ret
    exact ⟨by simp_all, rfl⟩
  · have h1' : ¬ 48 ≤ (b : Int) := by omega
    have h3' : decide (48 ≤ (b : Int)) = false := decide_eq_false h1'
    go_enter Tryz.func249, Tryz.ntmps249
    go_wp2
    go_ret
    exact ⟨by simp_all, rfl⟩

def rowN (p : Nat → Bool) (s : List UInt8) : Nat := (s.takeWhile (fun c => p c.toNat)).length

theorem rowN_le (p : Nat → Bool) (s : List UInt8) : rowN p s ≤ s.length := (List.takeWhile_sublist _).length_le

theorem rowN_in (p : Nat → Bool) (s : List UInt8) (k : Nat) (h : k < rowN p s) : p (byt s k) = true := by
  induction s generalizing k with
  | nil => simp [rowN] at h
  | cons c r ih =>
    by_cases hc : p c.toNat = true
    · cases k with
      | zero => simpa [byt] using hc
      | succ k =>
        have := ih k (by simpa [rowN, List.takeWhile, hc] using h)
        simpa [byt] using this
    · simp [rowN, List.takeWhile, hc] at h

theorem rowN_end (p : Nat → Bool) (s : List UInt8) (h : rowN p s < s.length) : p (byt s (rowN p s)) = false := by
  induction s with
  | nil => simp [rowN] at h
  | cons c r ih =>
    by_cases hc : p c.toNat = true
    · have e : rowN p (c :: r) = rowN p r + 1 := by simp [rowN, List.takeWhile, hc]
      rw [e] at h ⊢
      have := ih (by simpa using h)
      simpa [byt] using this
    · have e : rowN p (c :: r) = 0 := by simp [rowN, List.takeWhile, hc]
      rw [e]
      simpa [byt] using hc

set_option maxHeartbeats 1000000 in
theorem rowSize_any (s : ByteArray) (f : Nat) (p : Nat → Bool) (w : World) (hs : s.size ≤ 281474976710656) (hf : ∀ args w, (callFunc f args).run Tryz.prog w = .ok (.enter f args) w)
    (hp : ∀ (b : Nat) W, Calls Tryz.prog f #[.int .u8 (b : Int)] W fun e w' => e = .returned (.bool (p b)) ∧ W = w') :
    Calls Tryz.prog 248 #[.string s, .func (.func f) #[] #[]] w fun e w' => e = .returned (.int .i64 ((rowN p (bys s) : Nat) : Int)) ∧ w = w' := by
  have HP : Hid (∀ (b : Nat) W, Calls Tryz.prog f #[.int .u8 (b : Int)] W fun e w' => e = .returned (.bool (p b)) ∧ W = w') := hp
  have HI : Hid (∀ k, k < rowN p (bys s) → p (byt (bys s) k) = true) := rowN_in p (bys s)
  have HE : Hid (rowN p (bys s) < (bys s).length → p (byt (bys s) (rowN p (bys s))) = false) := rowN_end p (bys s)
  have hle := rowN_le p (bys s)
  rw [bys_len] at hle
  have HG : Hid (∀ k (h : k < s.size), s[k].toNat = byt (bys s) k) := fun k h => byt_get s k h
  obtain ⟨n, hn⟩ : ∃ n, n = rowN p (bys s) := ⟨_, rfl⟩
  rw [← hn] at HI HE hle ⊢
  rw [bys_len] at HE
  clear hp hn
  go_enter Tryz.func248, Tryz.ntmps248
  go_wp2
  go_loopw [5] (fun i wr => ∃ k : Nat, k ≤ n ∧ i = .int .i64 (k : Int) ∧ wr = w) (fun i _ => n - (intOf i).toNat)
  case atStart => exact ⟨0, Nat.zero_le _, rfl, rfl⟩
  case round =>
    obtain ⟨k, hk, rfl, hw⟩ := hrel
    replace hw := hw.symm
    subst hw
    by_cases hks : k < s.size
    · have hlt' : (k : Int) < (s.size : Int) := by omega
      have hg : ∀ h : k < s.size, s[k].toNat = byt (bys s) k := fun h => HG.out k h
      by_cases hlt : k < n
      · have hp1 := HI.out k hlt
        have PC := hide (fun W => HP.out (byt (bys s) k) W)
        obtain ⟨b, hbb⟩ : ∃ b, b = byt (bys s) k := ⟨_, rfl⟩
        rw [← hbb] at hg hp1 PC
        rw [hp1] at PC
        clear hbb HI HE hp1
        go_wp2_with fail
        refine (PC.out _).mono ?_
        rintro e w' ⟨rfl, rfl⟩
        go_wp2
        exact ⟨⟨k + 1, by omega, by go_num, trivial⟩, by simp [intOf]; omega⟩
      · obtain rfl : k = n := by omega
        have hp1 := HE.out hks
        have PC := hide (fun W => HP.out (byt (bys s) k) W)
        obtain ⟨b, hbb⟩ : ∃ b, b = byt (bys s) k := ⟨_, rfl⟩
        rw [← hbb] at hg hp1 PC
        rw [hp1] at PC
        clear hbb HI HE hp1
        go_wp2_with fail
        refine (PC.out _).mono ?_
        rintro e w' ⟨rfl, rfl⟩
        go_wp2
        go_ret
        exact ⟨rfl, rfl⟩
    · obtain rfl : k = n := by omega
      have hlt' : ¬ (k : Int) < (s.size : Int) := by omega
      clear HI HE HG
      go_wp2
      go_ret
      exact ⟨rfl, rfl⟩

end Go.Proofs.YtijccekejfcheaaGreatDoor
