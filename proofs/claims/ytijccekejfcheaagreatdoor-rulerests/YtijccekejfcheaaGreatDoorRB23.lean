/-
  What quipuref08's May does.
  RuleRests answers true.
  What the rows' list of package variables gives, and a world that holds them.
  What the rows' list of package variables gives of the two errors of strconv.
-/
import Derived.Test.YtijccekejfcheaaGreatDoorRB22
import Derived.Test.YtijccekejfcheaaGreatDoorRB21
import Derived.Test.YtijccekejfcheaaGreatDoorRows
import Derived.Test.YtijccekejfcheaaGreatDoorRB6
import Derived.Lib.LaidTab
import Derived.Deep.DeepHandedRow
import Derived.Test.YtijccekejfcheaaGreatDoorRB15
namespace Go.Proofs.YtijccekejfcheaaGreatDoor
open Go.RowKit

theorem str_of (l : List UInt8) : strOfNums ((l.map UInt8.toNat).map fun (x : Nat) => (x : Int)) = ⟨l.toArray⟩ := by
  apply ByteArray.ext
  apply Array.toList_inj.1
  rw [strOfNums_data, List.map_map, List.map_map]
  show _ = l
  conv => rhs; rw [← List.map_id l]
  apply List.map_congr_left
  intro x _
  simp

theorem Tryz.infoBy : (Tryz.prog.info? 5).map (fun i => (i.zero, i.size, i.bytes)) = some (some (.int .u8 0), 1, 1) := by kernel_rfl

theorem conv_ob {base : Nat} {X : World} {v : Value} {l : List UInt8} (h : Ob base X v (l.map UInt8.toNat)) : (convert 54 9 v).run Tryz.prog X = .ok (.string ⟨l.toArray⟩) X := by
  obtain ⟨g, cap, cur, fz, rfl, hr⟩ := id h
  obtain ⟨_, _, _, _, hc⟩ := h.cells
  have kc := run_convert_bytes_arg (P := Tryz.prog) X 54 5 Tryz.underlying54 Tryz.underlying5 g 0 (l.map UInt8.toNat).length cap ((l.map UInt8.toNat).map fun (x : Nat) => (x : Int)) (by rw [List.length_map]) (fun i hi => by
    rw [Nat.zero_add, hc i hi]
    have : i < l.length := by simpa using hi
    simp [List.getD, this]) 9 Tryz.underlying9
  rw [str_of] at kc
  exact kc

theorem conv_by (s : ByteArray) : ∀ X : World, (convert 9 54 (.string s)).run Tryz.prog X = .ok (.slice (some ⟨X.heap.size, 0, none⟩) s.size (grownCap X s.size 0 5)) (Lib.bytesWorld X 5 s) := fun X =>
  Lib.run_convert_string_bytes (P := Tryz.prog) X 9 54 5 s Tryz.underlying9 Tryz.underlying54 Tryz.underlying5

set_option maxHeartbeats 2000000 in
theorem rmo_0 (i : ByteArray) (v z : Int) (f t : ByteArray) (e : Int) (w : World)  (k0 : v < 0) : Calls Tryz.prog 23 #[opV i v z f t e] w fun e w' => e = .returned (.bool false) ∧ Below w.heap.size w w' := by
  have g0 : decide (v < 0) = true := decide_eq_true k0
  clear k0
  have Bs0 := hide (Blk.newAt w (w.heap.size) (rfl) #[.string i, .int .i64 v, .int .i64 z, .string f, .string t, .int .i64 e] 37)
  have HB0 : Hid (Below w.heap.size w (w.alloc (.cells #[.string i, .int .i64 v, .int .i64 z, .string f, .string t, .int .i64 e] 37))) := ((Below.refl _ _).alloc (Nat.le_refl _) _)
  go_enter Tryz.func23, Tryz.ntmps23
  go_wp2
  go_ret
  exact ⟨rfl, HB0.out⟩

set_option maxHeartbeats 2000000 in
theorem rmo_1 (i : ByteArray) (v z : Int) (f t : ByteArray) (e : Int) (w : World) (k0 : ¬ v < 0) (k1 : 8192 < v) : Calls Tryz.prog 23 #[opV i v z f t e] w fun e w' => e = .returned (.bool false) ∧ Below w.heap.size w w' := by
  have g0 : decide (v < 0) = false := decide_eq_false (by omega)
  have g1 : decide (8192 < v) = true := decide_eq_true k1
  clear k0 k1
  have Bs0 := hide (Blk.newAt w (w.heap.size) (rfl) #[.string i, .int .i64 v, .int .i64 z, .string f, .string t, .int .i64 e] 37)
  have HB0 : Hid (Below w.heap.size w (w.alloc (.cells #[.string i, .int .i64 v, .int .i64 z, .string f, .string t, .int .i64 e] 37))) := ((Below.refl _ _).alloc (Nat.le_refl _) _)
  go_enter Tryz.func23, Tryz.ntmps23
  go_wp2
  go_ret
  exact ⟨rfl, HB0.out⟩

set_option maxHeartbeats 2000000 in
theorem rmo_2 (i : ByteArray) (v z : Int) (f t : ByteArray) (e : Int) (w : World) (k0 : ¬ v < 0) (k1 : ¬ 8192 < v) (k2 : z < 0) : Calls Tryz.prog 23 #[opV i v z f t e] w fun e w' => e = .returned (.bool false) ∧ Below w.heap.size w w' := by
  have g0 : decide (v < 0) = false := decide_eq_false (by omega)
  have g1 : decide (8192 < v) = false := decide_eq_false (by omega)
  have g2 : decide (z < 0) = true := decide_eq_true k2
  clear k0 k1 k2
  have Bs0 := hide (Blk.newAt w (w.heap.size) (rfl) #[.string i, .int .i64 v, .int .i64 z, .string f, .string t, .int .i64 e] 37)
  have HB0 : Hid (Below w.heap.size w (w.alloc (.cells #[.string i, .int .i64 v, .int .i64 z, .string f, .string t, .int .i64 e] 37))) := ((Below.refl _ _).alloc (Nat.le_refl _) _)
  go_enter Tryz.func23, Tryz.ntmps23
  go_wp2
  go_ret
  exact ⟨rfl, HB0.out⟩

set_option maxHeartbeats 2000000 in
theorem rmo_3 (i : ByteArray) (v z : Int) (f t : ByteArray) (e : Int) (w : World) (k0 : ¬ v < 0) (k1 : ¬ 8192 < v) (k2 : ¬ z < 0) (k3 : v < z) : Calls Tryz.prog 23 #[opV i v z f t e] w fun e w' => e = .returned (.bool false) ∧ Below w.heap.size w w' := by
  have g0 : decide (v < 0) = false := decide_eq_false (by omega)
  have g1 : decide (8192 < v) = false := decide_eq_false (by omega)
  have g2 : decide (z < 0) = false := decide_eq_false (by omega)
  have g3 : decide (v < z) = true := decide_eq_true k3
  clear k0 k1 k2 k3
  have Bs0 := hide (Blk.newAt w (w.heap.size) (rfl) #[.string i, .int .i64 v, .int .i64 z, .string f, .string t, .int .i64 e] 37)
  have HB0 : Hid (Below w.heap.size w (w.alloc (.cells #[.string i, .int .i64 v, .int .i64 z, .string f, .string t, .int .i64 e] 37))) := ((Below.refl _ _).alloc (Nat.le_refl _) _)
  go_enter Tryz.func23, Tryz.ntmps23
  go_wp2
  go_ret
  exact ⟨rfl, HB0.out⟩

set_option maxHeartbeats 2000000 in
theorem rmo_4 (i : ByteArray) (v z : Int) (f t : ByteArray) (e : Int) (w : World) (k0 : ¬ v < 0) (k1 : ¬ 8192 < v) (k2 : ¬ z < 0) (k3 : ¬ v < z) (k4 : e < 0) : Calls Tryz.prog 23 #[opV i v z f t e] w fun e w' => e = .returned (.bool false) ∧ Below w.heap.size w w' := by
  have g0 : decide (v < 0) = false := decide_eq_false (by omega)
  have g1 : decide (8192 < v) = false := decide_eq_false (by omega)
  have g2 : decide (z < 0) = false := decide_eq_false (by omega)
  have g3 : decide (v < z) = false := decide_eq_false (by omega)
  have g4 : decide (e < 0) = true := decide_eq_true k4
  clear k0 k1 k2 k3 k4
  have Bs0 := hide (Blk.newAt w (w.heap.size) (rfl) #[.string i, .int .i64 v, .int .i64 z, .string f, .string t, .int .i64 e] 37)
  have HB0 : Hid (Below w.heap.size w (w.alloc (.cells #[.string i, .int .i64 v, .int .i64 z, .string f, .string t, .int .i64 e] 37))) := ((Below.refl _ _).alloc (Nat.le_refl _) _)
  go_enter Tryz.func23, Tryz.ntmps23
  go_wp2
  go_ret
  exact ⟨rfl, HB0.out⟩

set_option maxHeartbeats 2000000 in
theorem rmo_5 (i : ByteArray) (v z : Int) (f t : ByteArray) (e : Int) (w : World) (k0 : ¬ v < 0) (k1 : ¬ 8192 < v) (k2 : ¬ z < 0) (k3 : ¬ v < z) (k4 : ¬ e < 0) (k5 : 8192 < e) : Calls Tryz.prog 23 #[opV i v z f t e] w fun e w' => e = .returned (.bool false) ∧ Below w.heap.size w w' := by
  have g0 : decide (v < 0) = false := decide_eq_false (by omega)
  have g1 : decide (8192 < v) = false := decide_eq_false (by omega)
  have g2 : decide (z < 0) = false := decide_eq_false (by omega)
  have g3 : decide (v < z) = false := decide_eq_false (by omega)
  have g4 : decide (e < 0) = false := decide_eq_false (by omega)
  have g5 : decide (8192 < e) = true := decide_eq_true k5
  clear k0 k1 k2 k3 k4 k5
  have Bs0 := hide (Blk.newAt w (w.heap.size) (rfl) #[.string i, .int .i64 v, .int .i64 z, .string f, .string t, .int .i64 e] 37)
  have HB0 : Hid (Below w.heap.size w (w.alloc (.cells #[.string i, .int .i64 v, .int .i64 z, .string f, .string t, .int .i64 e] 37))) := ((Below.refl _ _).alloc (Nat.le_refl _) _)
  go_enter Tryz.func23, Tryz.ntmps23
  go_wp2
  go_ret
  exact ⟨rfl, HB0.out⟩

set_option maxRecDepth 100000 in
set_option maxHeartbeats 4000000 in
theorem rmo_ni (i : ByteArray) (v z : Int) (f t : ByteArray) (e : Int) (w : World) (k0 : ¬ v < 0) (k1 : ¬ 8192 < v) (k2 : ¬ z < 0) (k3 : ¬ v < z) (k4 : ¬ e < 0) (k5 : ¬ 8192 < e) (b1 : (i : ByteArray).size ≤ 281474976710656) (n0 : ¬ NumT (bys i) 8192)  : Calls Tryz.prog 23 #[opV i v z f t e] w fun e w' => e = .returned (.bool false) ∧ Below w.heap.size w w' := by
  have g0 : decide (v < 0) = false := decide_eq_false (by omega)
  have g1 : decide (8192 < v) = false := decide_eq_false (by omega)
  have g2 : decide (z < 0) = false := decide_eq_false (by omega)
  have g3 : decide (v < z) = false := decide_eq_false (by omega)
  have g4 : decide (e < 0) = false := decide_eq_false (by omega)
  have g5 : decide (8192 < e) = false := decide_eq_false (by omega)
  have K0 := hide (fun W => rnum_F i 8192 W b1 n0)
  clear n0 k0 k1 k2 k3 k4 k5
  have Bs0 := hide (Blk.newAt w (w.heap.size) (rfl) #[.string i, .int .i64 v, .int .i64 z, .string f, .string t, .int .i64 e] 37)
  have HB0 : Hid (Below w.heap.size w (w.alloc (.cells #[.string i, .int .i64 v, .int .i64 z, .string f, .string t, .int .i64 e] 37))) := ((Below.refl _ _).alloc (Nat.le_refl _) _)
  go_enter Tryz.func23, Tryz.ntmps23
  go_wp2_with fail
  refine (K0.out _).mono ?_
  rintro e w1 ⟨rfl, hb⟩
  have Bs1 := Blk.on Bs0 hb
  have HB1 := hide (HB0.out.trans (hb.mono HB0.out.size))
  clear hb Bs0 HB0 
  obtain ⟨ys0, ys1, ys2, ys3, ys4, ys5⟩ := Bs1.out.six
  go_wp2
  go_ret
  exact ⟨rfl, HB1.out⟩

set_option maxRecDepth 100000 in
set_option maxHeartbeats 4000000 in
theorem rmo_nf (i : ByteArray) (v z : Int) (f t : ByteArray) (e : Int) (w : World) (k0 : ¬ v < 0) (k1 : ¬ 8192 < v) (k2 : ¬ z < 0) (k3 : ¬ v < z) (k4 : ¬ e < 0) (k5 : ¬ 8192 < e) (b1 : (i : ByteArray).size ≤ 281474976710656) (n0 : NumT (bys i) 8192) (b2 : (f : ByteArray).size ≤ 281474976710656) (n1 : ¬ NumT (bys f) v)  : Calls Tryz.prog 23 #[opV i v z f t e] w fun e w' => e = .returned (.bool false) ∧ Below w.heap.size w w' := by
  have g0 : decide (v < 0) = false := decide_eq_false (by omega)
  have g1 : decide (8192 < v) = false := decide_eq_false (by omega)
  have g2 : decide (z < 0) = false := decide_eq_false (by omega)
  have g3 : decide (v < z) = false := decide_eq_false (by omega)
  have g4 : decide (e < 0) = false := decide_eq_false (by omega)
  have g5 : decide (8192 < e) = false := decide_eq_false (by omega)
  have K0 := hide (fun W => rnum_T i 8192 W b1 n0)
  have K1 := hide (fun W => rnum_F f v W b2 n1)
  clear n0 n1 k0 k1 k2 k3 k4 k5
  have Bs0 := hide (Blk.newAt w (w.heap.size) (rfl) #[.string i, .int .i64 v, .int .i64 z, .string f, .string t, .int .i64 e] 37)
  have HB0 : Hid (Below w.heap.size w (w.alloc (.cells #[.string i, .int .i64 v, .int .i64 z, .string f, .string t, .int .i64 e] 37))) := ((Below.refl _ _).alloc (Nat.le_refl _) _)
  go_enter Tryz.func23, Tryz.ntmps23
  go_wp2_with fail
  refine (K0.out _).mono ?_
  rintro e w1 ⟨rfl, hb⟩
  have Bs1 := Blk.on Bs0 hb
  have HB1 := hide (HB0.out.trans (hb.mono HB0.out.size))
  clear hb Bs0 HB0 
  obtain ⟨ys0, ys1, ys2, ys3, ys4, ys5⟩ := Bs1.out.six
  go_wp2_with fail
  refine (K1.out _).mono ?_
  rintro e w2 ⟨rfl, hb⟩
  have Bs2 := Blk.on Bs1 hb
  have HB2 := hide (HB1.out.trans (hb.mono HB1.out.size))
  clear hb Bs1 HB1 ys0 ys1 ys2 ys3 ys4 ys5
  obtain ⟨ys0, ys1, ys2, ys3, ys4, ys5⟩ := Bs2.out.six
  go_wp2
  go_ret
  exact ⟨rfl, HB2.out⟩

set_option maxRecDepth 100000 in
set_option maxHeartbeats 4000000 in
theorem rmo_nt (i : ByteArray) (v z : Int) (f t : ByteArray) (e : Int) (w : World) (k0 : ¬ v < 0) (k1 : ¬ 8192 < v) (k2 : ¬ z < 0) (k3 : ¬ v < z) (k4 : ¬ e < 0) (k5 : ¬ 8192 < e) (b1 : (i : ByteArray).size ≤ 281474976710656) (n0 : NumT (bys i) 8192) (b2 : (f : ByteArray).size ≤ 281474976710656) (n1 : NumT (bys f) v) (b3 : (t : ByteArray).size ≤ 281474976710656) (n2 : ¬ NumT (bys t) z)  : Calls Tryz.prog 23 #[opV i v z f t e] w fun e w' => e = .returned (.bool false) ∧ Below w.heap.size w w' := by
  have g0 : decide (v < 0) = false := decide_eq_false (by omega)
  have g1 : decide (8192 < v) = false := decide_eq_false (by omega)
  have g2 : decide (z < 0) = false := decide_eq_false (by omega)
  have g3 : decide (v < z) = false := decide_eq_false (by omega)
  have g4 : decide (e < 0) = false := decide_eq_false (by omega)
  have g5 : decide (8192 < e) = false := decide_eq_false (by omega)
  have K0 := hide (fun W => rnum_T i 8192 W b1 n0)
  have K1 := hide (fun W => rnum_T f v W b2 n1)
  have K2 := hide (fun W => rnum_F t z W b3 n2)
  clear n0 n1 n2 k0 k1 k2 k3 k4 k5
  have Bs0 := hide (Blk.newAt w (w.heap.size) (rfl) #[.string i, .int .i64 v, .int .i64 z, .string f, .string t, .int .i64 e] 37)
  have HB0 : Hid (Below w.heap.size w (w.alloc (.cells #[.string i, .int .i64 v, .int .i64 z, .string f, .string t, .int .i64 e] 37))) := ((Below.refl _ _).alloc (Nat.le_refl _) _)
  go_enter Tryz.func23, Tryz.ntmps23
  go_wp2_with fail
  refine (K0.out _).mono ?_
  rintro e w1 ⟨rfl, hb⟩
  have Bs1 := Blk.on Bs0 hb
  have HB1 := hide (HB0.out.trans (hb.mono HB0.out.size))
  clear hb Bs0 HB0 
  obtain ⟨ys0, ys1, ys2, ys3, ys4, ys5⟩ := Bs1.out.six
  go_wp2_with fail
  refine (K1.out _).mono ?_
  rintro e w2 ⟨rfl, hb⟩
  have Bs2 := Blk.on Bs1 hb
  have HB2 := hide (HB1.out.trans (hb.mono HB1.out.size))
  clear hb Bs1 HB1 ys0 ys1 ys2 ys3 ys4 ys5
  obtain ⟨ys0, ys1, ys2, ys3, ys4, ys5⟩ := Bs2.out.six
  go_wp2_with fail
  refine (K2.out _).mono ?_
  rintro e w3 ⟨rfl, hb⟩
  have Bs3 := Blk.on Bs2 hb
  have HB3 := hide (HB2.out.trans (hb.mono HB2.out.size))
  clear hb Bs2 HB2 ys0 ys1 ys2 ys3 ys4 ys5
  obtain ⟨ys0, ys1, ys2, ys3, ys4, ys5⟩ := Bs3.out.six
  go_wp2
  go_ret
  exact ⟨rfl, HB3.out⟩

set_option maxRecDepth 100000 in
set_option maxHeartbeats 4000000 in
theorem rmo_zt (i : ByteArray) (v z e : Int) (w : World) (k0 : ¬ v < 0) (k1 : ¬ 8192 < v) (k2 : ¬ z < 0) (k3 : ¬ v < z) (k4 : ¬ e < 0) (k5 : ¬ 8192 < e) (b1 : (i : ByteArray).size ≤ 281474976710656) (n0 : NumT (bys i) 8192) (b2 : (⟨#[48]⟩ : ByteArray).size ≤ 281474976710656) (n1 : NumT (bys ⟨#[48]⟩) v) (b3 : (⟨#[48]⟩ : ByteArray).size ≤ 281474976710656) (n2 : NumT (bys ⟨#[48]⟩) z)  : Calls Tryz.prog 23 #[opV i v z ⟨#[48]⟩ ⟨#[48]⟩ e] w fun e w' => e = .returned (.bool true) ∧ Below w.heap.size w w' := by
  have g0 : decide (v < 0) = false := decide_eq_false (by omega)
  have g1 : decide (8192 < v) = false := decide_eq_false (by omega)
  have g2 : decide (z < 0) = false := decide_eq_false (by omega)
  have g3 : decide (v < z) = false := decide_eq_false (by omega)
  have g4 : decide (e < 0) = false := decide_eq_false (by omega)
  have g5 : decide (8192 < e) = false := decide_eq_false (by omega)
  have K0 := hide (fun W => rnum_T i 8192 W b1 n0)
  have K1 := hide (fun W => rnum_T ⟨#[48]⟩ v W b2 n1)
  have K2 := hide (fun W => rnum_T ⟨#[48]⟩ z W b3 n2)
  clear n0 n1 n2 k0 k1 k2 k3 k4 k5
  have Bs0 := hide (Blk.newAt w (w.heap.size) (rfl) #[.string i, .int .i64 v, .int .i64 z, .string ⟨#[48]⟩, .string ⟨#[48]⟩, .int .i64 e] 37)
  have HB0 : Hid (Below w.heap.size w (w.alloc (.cells #[.string i, .int .i64 v, .int .i64 z, .string ⟨#[48]⟩, .string ⟨#[48]⟩, .int .i64 e] 37))) := ((Below.refl _ _).alloc (Nat.le_refl _) _)
  go_enter Tryz.func23, Tryz.ntmps23
  go_wp2_with fail
  refine (K0.out _).mono ?_
  rintro e w1 ⟨rfl, hb⟩
  have Bs1 := Blk.on Bs0 hb
  have HB1 := hide (HB0.out.trans (hb.mono HB0.out.size))
  clear hb Bs0 HB0 
  obtain ⟨ys0, ys1, ys2, ys3, ys4, ys5⟩ := Bs1.out.six
  go_wp2_with fail
  refine (K1.out _).mono ?_
  rintro e w2 ⟨rfl, hb⟩
  have Bs2 := Blk.on Bs1 hb
  have HB2 := hide (HB1.out.trans (hb.mono HB1.out.size))
  clear hb Bs1 HB1 ys0 ys1 ys2 ys3 ys4 ys5
  obtain ⟨ys0, ys1, ys2, ys3, ys4, ys5⟩ := Bs2.out.six
  go_wp2_with fail
  refine (K2.out _).mono ?_
  rintro e w3 ⟨rfl, hb⟩
  have Bs3 := Blk.on Bs2 hb
  have HB3 := hide (HB2.out.trans (hb.mono HB2.out.size))
  clear hb Bs2 HB2 ys0 ys1 ys2 ys3 ys4 ys5
  obtain ⟨ys0, ys1, ys2, ys3, ys4, ys5⟩ := Bs3.out.six
  go_wp2
  go_ret
  exact ⟨rfl, HB3.out⟩

set_option maxRecDepth 100000 in
set_option maxHeartbeats 4000000 in
theorem rmo_zf (i : ByteArray) (v z : Int) (f : ByteArray) (e : Int) (w : World) (k0 : ¬ v < 0) (k1 : ¬ 8192 < v) (k2 : ¬ z < 0) (k3 : ¬ v < z) (k4 : ¬ e < 0) (k5 : ¬ 8192 < e) (b1 : (i : ByteArray).size ≤ 281474976710656) (n0 : NumT (bys i) 8192) (b2 : (f : ByteArray).size ≤ 281474976710656) (n1 : NumT (bys f) v) (b3 : (⟨#[48]⟩ : ByteArray).size ≤ 281474976710656) (n2 : NumT (bys ⟨#[48]⟩) z) (h6 : bys f ≠ [48]) : Calls Tryz.prog 23 #[opV i v z f ⟨#[48]⟩ e] w fun e w' => e = .returned (.bool false) ∧ Below w.heap.size w w' := by
  have g0 : decide (v < 0) = false := decide_eq_false (by omega)
  have g1 : decide (8192 < v) = false := decide_eq_false (by omega)
  have g2 : decide (z < 0) = false := decide_eq_false (by omega)
  have g3 : decide (v < z) = false := decide_eq_false (by omega)
  have g4 : decide (e < 0) = false := decide_eq_false (by omega)
  have g5 : decide (8192 < e) = false := decide_eq_false (by omega)
  have K0 := hide (fun W => rnum_T i 8192 W b1 n0)
  have K1 := hide (fun W => rnum_T f v W b2 n1)
  have K2 := hide (fun W => rnum_T ⟨#[48]⟩ z W b3 n2)
  have hq := ne_nought h6
  clear h6
  clear n0 n1 n2 k0 k1 k2 k3 k4 k5
  have Bs0 := hide (Blk.newAt w (w.heap.size) (rfl) #[.string i, .int .i64 v, .int .i64 z, .string f, .string ⟨#[48]⟩, .int .i64 e] 37)
  have HB0 : Hid (Below w.heap.size w (w.alloc (.cells #[.string i, .int .i64 v, .int .i64 z, .string f, .string ⟨#[48]⟩, .int .i64 e] 37))) := ((Below.refl _ _).alloc (Nat.le_refl _) _)
  go_enter Tryz.func23, Tryz.ntmps23
  go_wp2_with fail
  refine (K0.out _).mono ?_
  rintro e w1 ⟨rfl, hb⟩
  have Bs1 := Blk.on Bs0 hb
  have HB1 := hide (HB0.out.trans (hb.mono HB0.out.size))
  clear hb Bs0 HB0 
  obtain ⟨ys0, ys1, ys2, ys3, ys4, ys5⟩ := Bs1.out.six
  go_wp2_with fail
  refine (K1.out _).mono ?_
  rintro e w2 ⟨rfl, hb⟩
  have Bs2 := Blk.on Bs1 hb
  have HB2 := hide (HB1.out.trans (hb.mono HB1.out.size))
  clear hb Bs1 HB1 ys0 ys1 ys2 ys3 ys4 ys5
  obtain ⟨ys0, ys1, ys2, ys3, ys4, ys5⟩ := Bs2.out.six
  go_wp2_with fail
  refine (K2.out _).mono ?_
  rintro e w3 ⟨rfl, hb⟩
  have Bs3 := Blk.on Bs2 hb
  have HB3 := hide (HB2.out.trans (hb.mono HB2.out.size))
  clear hb Bs2 HB2 ys0 ys1 ys2 ys3 ys4 ys5
  obtain ⟨ys0, ys1, ys2, ys3, ys4, ys5⟩ := Bs3.out.six
  go_wp2
  go_ret
  exact ⟨rfl, HB3.out⟩

set_option maxRecDepth 100000 in
set_option maxHeartbeats 4000000 in
theorem rmo_y (i : ByteArray) (v z : Int) (f t : ByteArray) (e : Int) (w : World) (k0 : ¬ v < 0) (k1 : ¬ 8192 < v) (k2 : ¬ z < 0) (k3 : ¬ v < z) (k4 : ¬ e < 0) (k5 : ¬ 8192 < e) (b1 : (i : ByteArray).size ≤ 281474976710656) (n0 : NumT (bys i) 8192) (b2 : (f : ByteArray).size ≤ 281474976710656) (n1 : NumT (bys f) v) (b3 : (t : ByteArray).size ≤ 281474976710656) (n2 : NumT (bys t) z) (h6 : bys t ≠ [48]) (j2 : Nat) (hj2 : z + (j2 : Int) = v) (hR : f = ⟨(bys t ++ List.replicate j2 48).toArray⟩) : Calls Tryz.prog 23 #[opV i v z f t e] w fun e w' => e = .returned (.bool true) ∧ Below w.heap.size w w' := by
  have g0 : decide (v < 0) = false := decide_eq_false (by omega)
  have g1 : decide (8192 < v) = false := decide_eq_false (by omega)
  have g2 : decide (z < 0) = false := decide_eq_false (by omega)
  have g3 : decide (v < z) = false := decide_eq_false (by omega)
  have g4 : decide (e < 0) = false := decide_eq_false (by omega)
  have g5 : decide (8192 < e) = false := decide_eq_false (by omega)
  have K0 := hide (fun W => rnum_T i 8192 W b1 n0)
  have K1 := hide (fun W => rnum_T f v W b2 n1)
  have K2 := hide (fun W => rnum_T t z W b3 n2)
  have hq := ne_nought h6
  have HR := hide hR
  have vz1 : 0 ≤ z := by omega
  have vz2 : v ≤ 8192 := by omega
  have tz : t.size ≤ 8192 := by have g := (n2.resolve_left h6).2.1; rw [bys_len] at g; omega
  clear h6 hR
  clear n0 n1 n2 k0 k1 k2 k3 k4 k5
  have Bs0 := hide (Blk.newAt w (w.heap.size) (rfl) #[.string i, .int .i64 v, .int .i64 z, .string f, .string t, .int .i64 e] 37)
  have HB0 : Hid (Below w.heap.size w (w.alloc (.cells #[.string i, .int .i64 v, .int .i64 z, .string f, .string t, .int .i64 e] 37))) := ((Below.refl _ _).alloc (Nat.le_refl _) _)
  go_enter Tryz.func23, Tryz.ntmps23
  go_wp2_with fail
  refine (K0.out _).mono ?_
  rintro e w1 ⟨rfl, hb⟩
  have Bs1 := Blk.on Bs0 hb
  have HB1 := hide (HB0.out.trans (hb.mono HB0.out.size))
  clear hb Bs0 HB0 
  obtain ⟨ys0, ys1, ys2, ys3, ys4, ys5⟩ := Bs1.out.six
  go_wp2_with fail
  refine (K1.out _).mono ?_
  rintro e w2 ⟨rfl, hb⟩
  have Bs2 := Blk.on Bs1 hb
  have HB2 := hide (HB1.out.trans (hb.mono HB1.out.size))
  clear hb Bs1 HB1 ys0 ys1 ys2 ys3 ys4 ys5
  obtain ⟨ys0, ys1, ys2, ys3, ys4, ys5⟩ := Bs2.out.six
  go_wp2_with fail
  refine (K2.out _).mono ?_
  rintro e w3 ⟨rfl, hb⟩
  have Bs3 := Blk.on Bs2 hb
  have HB3 := hide (HB2.out.trans (hb.mono HB2.out.size))
  clear hb Bs2 HB2 ys0 ys1 ys2 ys3 ys4 ys5
  obtain ⟨ys0, ys1, ys2, ys3, ys4, ys5⟩ := Bs3.out.six
  have cvt := conv_by t
  go_upto_region 8 with (fail)
  have OB0 : Hid (Ob w3.heap.size (Lib.bytesWorld w3 5 t) (.slice (some ⟨w3.heap.size, 0, none⟩) t.size (grownCap w3 t.size 0 5)) ((bys t ++ List.replicate 0 48).map UInt8.toNat)) := by rw [List.replicate_zero, List.append_nil]; exact Ob.bytes w3 t (Nat.le_refl _)
  have BW0 : Hid (Below w3.heap.size w3 (Lib.bytesWorld w3 5 t)) := bytes_below _ _ _
  obtain ⟨Y, hY⟩ : ∃ Y, Y = Lib.bytesWorld w3 5 t := ⟨_, rfl⟩
  rw [← hY] at OB0 BW0
  simp only [← hY]
  clear hY cvt ys0 ys1 ys2 ys3 ys4 ys5
  have By := hide (Bs3.out.below BW0.out Bs3.out.lt)
  obtain ⟨ys0, ys1, ys2, ys3, ys4, ys5⟩ := By.out.six
  obtain ⟨i0, hi, hz0, hz1, hz2⟩ := info_parts Tryz.infoBy
  go_wp2
  clear ys0 ys1 ys2 ys3 ys4 ys5 By
  go_loopw [3, 4] (fun a b wr => ∃ j : Nat, j ≤ j2 ∧ Hid (Ob w3.heap.size wr a ((bys t ++ List.replicate j 48).map UInt8.toNat)) ∧ b = .int .i64 (z + (j : Int)) ∧ Hid (Below w3.heap.size w3 wr)) (fun _ b _ => (v - intOf b).toNat)
  case atStart => exact ⟨0, Nat.zero_le _, OB0, by simp, BW0⟩
  case round =>
    clear OB0 BW0
    obtain ⟨j, hj, hob, rfl, hbw⟩ := hrel
    have Bq := hide (Bs3.out.below hbw.out Bs3.out.lt)
    obtain ⟨ys0, ys1, ys2, ys3, ys4, ys5⟩ := Bq.out.six
    by_cases hlt : j < j2
    · have g9 : z + (j : Int) < v := by omega
      have HLT := hide (hob.out.lt)
      have e : (bys t ++ List.replicate (j + 1) 48).map UInt8.toNat = (bys t ++ List.replicate j 48).map UInt8.toNat ++ [48] := by rw [List.replicate_succ', ← List.append_assoc, List.map_append]; rfl
      have hl : ((bys t ++ List.replicate j 48).map UInt8.toNat).length ≤ 1000000 := by rw [List.length_map, List.length_append, List.length_replicate, bys_len]; omega
      obtain ⟨ys, hys⟩ : ∃ ys, ys = (bys t ++ List.replicate j 48).map UInt8.toNat := ⟨_, rfl⟩
      rw [← hys] at hob e hl
      have HX := hide (hob.out.below ((Below.refl _ _).alloc (Nat.le_refl _) (Obj.cells #[.int .u8 48] 5)))
      have EY := hide e
      clear e hys
      clear Bq
      go_wp2_with (at_builtin; refine append_ob _ rfl _ _ 54 rfl i0 Tryz.underlying54 hi hz0 hz1 hz2 _ _ rfl HX.out ⟨wr.heap.size, 0, none⟩ 1 48 rfl ?c1 ?c2 ?_)
      try case c1 => first | exact new_cell wr _ _ | simp
      try case c2 => exact Nat.le_trans hl (by decide)
      intro v' w1 hob' hgr _
      have hb1 := hbw.out.alloc hbw.out.size (Obj.cells #[.int .u8 48] 5)
      have HB1 := hide (hb1.grown hgr hb1.size (fun q hq => (HLT.out q hq).1))
      have hO1 : Ob w3.heap.size w1 v' ((bys t ++ List.replicate (j + 1) 48).map UInt8.toNat) := by rw [EY.out]; exact hob'
      have HO1 := hide hO1
      clear hO1 EY hl
      clear hob hbw HX HLT hob' hgr hb1 ys0 ys1 ys2 ys3 ys4 ys5
      go_wp2
      go_roundw
      case rel => exact ⟨j + 1, by omega, HO1, by go_num, HB1⟩
      case measure => simp [intOf]; omega
    · obtain rfl : j = j2 := by omega
      have g9 : ¬ z + (j : Int) < v := by omega
      have kc := conv_ob hob.out
      have HBE := hide (HB3.out.trans (hbw.out.mono HB3.out.size))
      have hR := HR.out
      obtain ⟨R, hRR⟩ : ∃ R : ByteArray, R = ⟨(bys t ++ List.replicate j 48).toArray⟩ := ⟨_, rfl⟩
      rw [← hRR] at kc hR
      obtain rfl : f = R := hR
      clear hRR hob hbw Bq hlt hj
      go_wp2
      go_ret
      exact ⟨rfl, HBE.out⟩

set_option maxRecDepth 100000 in
set_option maxHeartbeats 4000000 in
theorem rmo_no (i : ByteArray) (v z : Int) (f t : ByteArray) (e : Int) (w : World) (k0 : ¬ v < 0) (k1 : ¬ 8192 < v) (k2 : ¬ z < 0) (k3 : ¬ v < z) (k4 : ¬ e < 0) (k5 : ¬ 8192 < e) (b1 : (i : ByteArray).size ≤ 281474976710656) (n0 : NumT (bys i) 8192) (b2 : (f : ByteArray).size ≤ 281474976710656) (n1 : NumT (bys f) v) (b3 : (t : ByteArray).size ≤ 281474976710656) (n2 : NumT (bys t) z) (h6 : bys t ≠ [48]) (j2 : Nat) (hj2 : z + (j2 : Int) = v) (hR : bys ⟨(bys t ++ List.replicate j2 48).toArray⟩ ≠ bys f) : Calls Tryz.prog 23 #[opV i v z f t e] w fun e w' => e = .returned (.bool false) ∧ Below w.heap.size w w' := by
  have g0 : decide (v < 0) = false := decide_eq_false (by omega)
  have g1 : decide (8192 < v) = false := decide_eq_false (by omega)
  have g2 : decide (z < 0) = false := decide_eq_false (by omega)
  have g3 : decide (v < z) = false := decide_eq_false (by omega)
  have g4 : decide (e < 0) = false := decide_eq_false (by omega)
  have g5 : decide (8192 < e) = false := decide_eq_false (by omega)
  have K0 := hide (fun W => rnum_T i 8192 W b1 n0)
  have K1 := hide (fun W => rnum_T f v W b2 n1)
  have K2 := hide (fun W => rnum_T t z W b3 n2)
  have hq := ne_nought h6
  have HR := hide hR
  have vz1 : 0 ≤ z := by omega
  have vz2 : v ≤ 8192 := by omega
  have tz : t.size ≤ 8192 := by have g := (n2.resolve_left h6).2.1; rw [bys_len] at g; omega
  clear h6 hR
  clear n0 n1 n2 k0 k1 k2 k3 k4 k5
  have Bs0 := hide (Blk.newAt w (w.heap.size) (rfl) #[.string i, .int .i64 v, .int .i64 z, .string f, .string t, .int .i64 e] 37)
  have HB0 : Hid (Below w.heap.size w (w.alloc (.cells #[.string i, .int .i64 v, .int .i64 z, .string f, .string t, .int .i64 e] 37))) := ((Below.refl _ _).alloc (Nat.le_refl _) _)
  go_enter Tryz.func23, Tryz.ntmps23
  go_wp2_with fail
  refine (K0.out _).mono ?_
  rintro e w1 ⟨rfl, hb⟩
  have Bs1 := Blk.on Bs0 hb
  have HB1 := hide (HB0.out.trans (hb.mono HB0.out.size))
  clear hb Bs0 HB0 
  obtain ⟨ys0, ys1, ys2, ys3, ys4, ys5⟩ := Bs1.out.six
  go_wp2_with fail
  refine (K1.out _).mono ?_
  rintro e w2 ⟨rfl, hb⟩
  have Bs2 := Blk.on Bs1 hb
  have HB2 := hide (HB1.out.trans (hb.mono HB1.out.size))
  clear hb Bs1 HB1 ys0 ys1 ys2 ys3 ys4 ys5
  obtain ⟨ys0, ys1, ys2, ys3, ys4, ys5⟩ := Bs2.out.six
  go_wp2_with fail
  refine (K2.out _).mono ?_
  rintro e w3 ⟨rfl, hb⟩
  have Bs3 := Blk.on Bs2 hb
  have HB3 := hide (HB2.out.trans (hb.mono HB2.out.size))
  clear hb Bs2 HB2 ys0 ys1 ys2 ys3 ys4 ys5
  obtain ⟨ys0, ys1, ys2, ys3, ys4, ys5⟩ := Bs3.out.six
  have cvt := conv_by t
  go_upto_region 8 with (fail)
  have OB0 : Hid (Ob w3.heap.size (Lib.bytesWorld w3 5 t) (.slice (some ⟨w3.heap.size, 0, none⟩) t.size (grownCap w3 t.size 0 5)) ((bys t ++ List.replicate 0 48).map UInt8.toNat)) := by rw [List.replicate_zero, List.append_nil]; exact Ob.bytes w3 t (Nat.le_refl _)
  have BW0 : Hid (Below w3.heap.size w3 (Lib.bytesWorld w3 5 t)) := bytes_below _ _ _
  obtain ⟨Y, hY⟩ : ∃ Y, Y = Lib.bytesWorld w3 5 t := ⟨_, rfl⟩
  rw [← hY] at OB0 BW0
  simp only [← hY]
  clear hY cvt ys0 ys1 ys2 ys3 ys4 ys5
  have By := hide (Bs3.out.below BW0.out Bs3.out.lt)
  obtain ⟨ys0, ys1, ys2, ys3, ys4, ys5⟩ := By.out.six
  obtain ⟨i0, hi, hz0, hz1, hz2⟩ := info_parts Tryz.infoBy
  go_wp2
  clear ys0 ys1 ys2 ys3 ys4 ys5 By
  go_loopw [3, 4] (fun a b wr => ∃ j : Nat, j ≤ j2 ∧ Hid (Ob w3.heap.size wr a ((bys t ++ List.replicate j 48).map UInt8.toNat)) ∧ b = .int .i64 (z + (j : Int)) ∧ Hid (Below w3.heap.size w3 wr)) (fun _ b _ => (v - intOf b).toNat)
  case atStart => exact ⟨0, Nat.zero_le _, OB0, by simp, BW0⟩
  case round =>
    clear OB0 BW0
    obtain ⟨j, hj, hob, rfl, hbw⟩ := hrel
    have Bq := hide (Bs3.out.below hbw.out Bs3.out.lt)
    obtain ⟨ys0, ys1, ys2, ys3, ys4, ys5⟩ := Bq.out.six
    by_cases hlt : j < j2
    · have g9 : z + (j : Int) < v := by omega
      have HLT := hide (hob.out.lt)
      have e : (bys t ++ List.replicate (j + 1) 48).map UInt8.toNat = (bys t ++ List.replicate j 48).map UInt8.toNat ++ [48] := by rw [List.replicate_succ', ← List.append_assoc, List.map_append]; rfl
      have hl : ((bys t ++ List.replicate j 48).map UInt8.toNat).length ≤ 1000000 := by rw [List.length_map, List.length_append, List.length_replicate, bys_len]; omega
      obtain ⟨ys, hys⟩ : ∃ ys, ys = (bys t ++ List.replicate j 48).map UInt8.toNat := ⟨_, rfl⟩
      rw [← hys] at hob e hl
      have HX := hide (hob.out.below ((Below.refl _ _).alloc (Nat.le_refl _) (Obj.cells #[.int .u8 48] 5)))
      have EY := hide e
      clear e hys
      clear Bq
      go_wp2_with (at_builtin; refine append_ob _ rfl _ _ 54 rfl i0 Tryz.underlying54 hi hz0 hz1 hz2 _ _ rfl HX.out ⟨wr.heap.size, 0, none⟩ 1 48 rfl ?c1 ?c2 ?_)
      try case c1 => first | exact new_cell wr _ _ | simp
      try case c2 => exact Nat.le_trans hl (by decide)
      intro v' w1 hob' hgr _
      have hb1 := hbw.out.alloc hbw.out.size (Obj.cells #[.int .u8 48] 5)
      have HB1 := hide (hb1.grown hgr hb1.size (fun q hq => (HLT.out q hq).1))
      have hO1 : Ob w3.heap.size w1 v' ((bys t ++ List.replicate (j + 1) 48).map UInt8.toNat) := by rw [EY.out]; exact hob'
      have HO1 := hide hO1
      clear hO1 EY hl
      clear hob hbw HX HLT hob' hgr hb1 ys0 ys1 ys2 ys3 ys4 ys5
      go_wp2
      go_roundw
      case rel => exact ⟨j + 1, by omega, HO1, by go_num, HB1⟩
      case measure => simp [intOf]; omega
    · obtain rfl : j = j2 := by omega
      have g9 : ¬ z + (j : Int) < v := by omega
      have kc := conv_ob hob.out
      have HBE := hide (HB3.out.trans (hbw.out.mono HB3.out.size))
      have hR := HR.out
      obtain ⟨R, hRR⟩ : ∃ R : ByteArray, R = ⟨(bys t ++ List.replicate j 48).toArray⟩ := ⟨_, rfl⟩
      rw [← hRR] at kc hR
      have hne := ne_text hR
      clear hRR hob hbw Bq hlt hj hR
      go_wp2
      go_ret
      exact ⟨rfl, HBE.out⟩

theorem rmayO_T (i : ByteArray) (v z : Int) (f t : ByteArray) (e : Int) (w : World) (b1 : i.size ≤ 281474976710656) (b2 : f.size ≤ 281474976710656) (b3 : t.size ≤ 281474976710656) (h : MayO ⟨bys i, v, z, bys f, bys t, e⟩) : Calls Tryz.prog 23 #[opV i v z f t e] w fun e w' => e = .returned (.bool true) ∧ Below w.heap.size w w' := by
  obtain ⟨⟨v1, v2⟩, ⟨w1, w2⟩, ⟨e1, e2⟩, hi, hf, ht, h1, h2⟩ := h
  simp only at v1 v2 w1 w2 e1 e2 hi hf ht h1 h2
  by_cases hz : bys t = [48]
  · have hff := h1 hz
    obtain rfl : t = ⟨#[48]⟩ := by rw [← mk_bys t, hz]
    obtain rfl : f = ⟨#[48]⟩ := by rw [← mk_bys f, hff]
    exact rmo_zt i v z e w (by omega) (by omega) (by omega) (by omega) (by omega) (by omega) b1 hi b2 hf b3 ht
  · refine rmo_y i v z f t e w (by omega) (by omega) (by omega) (by omega) (by omega) (by omega) b1 hi b2 hf b3 ht hz (v - z).toNat (by omega) ?_
    rw [← h2 hz, mk_bys]

theorem rmayO_F (i : ByteArray) (v z : Int) (f t : ByteArray) (e : Int) (w : World) (b1 : i.size ≤ 281474976710656) (b2 : f.size ≤ 281474976710656) (b3 : t.size ≤ 281474976710656) (h : ¬ MayO ⟨bys i, v, z, bys f, bys t, e⟩) : Calls Tryz.prog 23 #[opV i v z f t e] w fun e w' => e = .returned (.bool false) ∧ Below w.heap.size w w' := by
  by_cases k0 : v < 0
  · exact rmo_0 i v z f t e w k0
  by_cases k1 : 8192 < v
  · exact rmo_1 i v z f t e w k0 k1
  by_cases k2 : z < 0
  · exact rmo_2 i v z f t e w k0 k1 k2
  by_cases k3 : v < z
  · exact rmo_3 i v z f t e w k0 k1 k2 k3
  by_cases k4 : e < 0
  · exact rmo_4 i v z f t e w k0 k1 k2 k3 k4
  by_cases k5 : 8192 < e
  · exact rmo_5 i v z f t e w k0 k1 k2 k3 k4 k5
  by_cases n0 : NumT (bys i) 8192
  rotate_left
  · exact rmo_ni i v z f t e w k0 k1 k2 k3 k4 k5 b1 n0
  by_cases n1 : NumT (bys f) v
  rotate_left
  · exact rmo_nf i v z f t e w k0 k1 k2 k3 k4 k5 b1 n0 b2 n1
  by_cases n2 : NumT (bys t) z
  rotate_left
  · exact rmo_nt i v z f t e w k0 k1 k2 k3 k4 k5 b1 n0 b2 n1 b3 n2
  have key : (bys t = [48] → bys f = [48]) → (bys t ≠ [48] → bys f = bys t ++ List.replicate (v - z).toNat 48) → False := fun q1 q2 => h ⟨⟨by simp only; omega, by simp only; omega⟩, ⟨by simp only; omega, by simp only; omega⟩, ⟨by simp only; omega, by simp only; omega⟩, n0, n1, n2, q1, q2⟩
  by_cases hz : bys t = [48]
  · have hf : bys f ≠ [48] := fun g => key (fun _ => g) (fun q => absurd hz q)
    obtain rfl : t = ⟨#[48]⟩ := by rw [← mk_bys t, hz]
    exact rmo_zf i v z f e w k0 k1 k2 k3 k4 k5 b1 n0 b2 n1 b3 n2 hf
  · refine rmo_no i v z f t e w k0 k1 k2 k3 k4 k5 b1 n0 b2 n1 b3 n2 hz (v - z).toNat (by omega) (fun g => key (fun q => absurd q hz) (fun _ => ?_))
    rw [← g, bys_mk (bys t ++ List.replicate (v - z).toNat 48)]

end Go.Proofs.YtijccekejfcheaaGreatDoor

namespace Go.Proofs.YtijccekejfcheaaGreatDoor
open Go.RowKit

theorem modC_succ (j : Nat) : modC (j + 1) = modC j ++ [48] := by
  unfold modC
  rw [List.replicate_succ', List.cons_append]

theorem blk_put0 {w : World} {b : Nat} {t : TypeId} {x0 x1 x2 x3 x4 x5 : Value} (h : Blk w b #[x0, x1, x2, x3, x4, x5] t) (y : Value) : Blk (w.setCell ⟨b, 0, none⟩ y) b #[y, x1, x2, x3, x4, x5] t := by
  unfold Blk at *
  simp only [World.setCell, Array.getElem?_modify, if_true, h, Option.map_some]
  rfl

def strLen (v : Option Value) : Nat := match v with | some (.string t) => t.size | _ => 0

theorem pick_is (s : ByteArray) (L : List UInt8) (hs : bys s = L) (j : ByteArray) (J : List UInt8) (hj : bys j = J) (v z : Int) (f t : ByteArray) (e : Int) (w : World) (he : Evs w) : Calls Tryz.prog 14 #[.string s, opV j v z f t e] w fun e' w' => e' = .returned (.tuple #[.int .i64 (pickT L ⟨J, v, z, bys f, bys t, e⟩).1, .int .i64 (pickT L ⟨J, v, z, bys f, bys t, e⟩).2]) ∧ Below w.heap.size w w' := by
  subst hs hj
  exact Pick_any s j v z f t e w he

theorem pad_is (K j : Nat) (i : List UInt8) (h : j = 0 ∨ j + (bare i).length ≤ K) (hk : ¬ j + (bare i).length < K) : List.replicate j 48 ++ bare i = padI K i := by
  unfold padI
  congr 2
  omega

theorem is_nought {t : ByteArray} (h : (t.toList == [48]) = true) : bys t = [48] := by
  rw [ByteArray.toList_eq] at h
  exact eq_of_beq h

theorem not_nought {t : ByteArray} (h : (t.toList == [48]) = false) : ¬ bys t = [48] := by
  rw [ByteArray.toList_eq] at h
  exact beq_eq_false_iff_ne.1 h

theorem rests_text {op : UInt8} {K : Nat} (a x b r c l : ByteArray) (ha : bys a = [102, 101, 119, 58, 32]) (hx : bys x = [op]) (hb : bys b = [32, 37, 32]) (hr : bys r = modC K) (hc : bys c = [32, 61, 32]) : bys (a ++ x ++ b ++ r ++ c ++ l) = restsC op K (bys l) := by
  rw [bys_cat, bys_cat, bys_cat, bys_cat, bys_cat, ha, hx, hb, hr, hc]
  simp [restsC, restsU]

theorem enc105 : bys (Utf8.encode 105) = [105] := rfl
theorem enc110 : bys (Utf8.encode 110) = [110] := rfl
theorem enc_is (n : Nat) (c : UInt8) (h : n = c.toNat) (hc : c = 105 ∨ c = 110) : bys (Utf8.encode (n : Int)) = [c] := by
  subst h
  rcases hc with rfl | rfl
  · exact enc105
  · exact enc110

theorem list_no {l : List UInt8} {j : Nat} (hj : j < l.length) : l[j].toNat = byt l j := by unfold byt; simp [hj]

theorem listB_of {l : List UInt8} (h : ∀ j, j < l.length → (48 ≤ byt l j ∧ byt l j ≤ 57) ∨ byt l j = 44 ∨ byt l j = 46 ∨ byt l j = 32) : ListB l := by
  intro c hc
  obtain ⟨j, hj, rfl⟩ := List.getElem_of_mem hc
  have := h j hj
  rw [← list_no hj] at this
  rcases this with q | q | q | q
  · left; unfold isNm; simp [q.1, q.2]
  · right; left; exact UInt8.toNat_inj.1 q
  · right; right; left; exact UInt8.toNat_inj.1 q
  · right; right; right; exact UInt8.toNat_inj.1 q

set_option maxRecDepth 100000 in
set_option maxHeartbeats 16000000 in
theorem rests_walk (l m : ByteArray) (n : Int) (i : ByteArray) (v z : Int) (f t : ByteArray) (e : Int) (w : World) (hl : l.size ≤ 140737488355328) (hm : m.size ≤ 140737488355328) (hi : i.size ≤ 140737488355328) (hf : f.size ≤ 140737488355328) (ht : t.size ≤ 140737488355328) (he : Evs w) :
    Calls Tryz.prog 7 #[.string l, .string m, .agg #[.int .i64 n, .string i, .int .i64 v, .int .i64 z, .string f, .string t, .int .i64 e]] w fun e' w' => e' = .returned (.bool true) ∧ Below w.heap.size w w' := by
  have HE := hide he
  have BT0 := hide (Blk.newAt w w.heap.size rfl #[.int .i64 n, .string i, .int .i64 v, .int .i64 z, .string f, .string t, .int .i64 e] 45)
  have HB0 : Hid (Below w.heap.size w ((w.alloc (.cells #[.int .i64 n, .string i, .int .i64 v, .int .i64 z, .string f, .string t, .int .i64 e] 45)).alloc (.cells #[.string i, .int .i64 v, .int .i64 z, .string f, .string t, .int .i64 e] 37)).drew) := (((Below.refl _ _).alloc (Nat.le_refl _) _).alloc (by simp) _).trans ((bdrewD _).mono (by simp; omega))
  have BX0 : Hid (Blk ((w.alloc (.cells #[.int .i64 n, .string i, .int .i64 v, .int .i64 z, .string f, .string t, .int .i64 e] 45)).alloc (.cells #[.string i, .int .i64 v, .int .i64 z, .string f, .string t, .int .i64 e] 37)).drew (w.heap.size + 1) #[.string i, .int .i64 v, .int .i64 z, .string f, .string t, .int .i64 e] 37) := (Blk.newAt (w.alloc (.cells #[.int .i64 n, .string i, .int .i64 v, .int .i64 z, .string f, .string t, .int .i64 e] 45)) (w.heap.size + 1) (by simp) #[.string i, .int .i64 v, .int .i64 z, .string f, .string t, .int .i64 e] 37).below (bdrewD _) (by simp)
  have KW := hide (fun X (h : Below w.heap.size w X) => awake09 X (HE.out.below h))
  have MT := hide (fun X h => rmayO_T i v z f t e X (by omega) (by omega) (by omega) h)
  have MF := hide (fun X h => rmayO_F i v z f t e X (by omega) (by omega) (by omega) h)
  have KP := hide (fun s (j : ByteArray) X (h : Below w.heap.size w X) => Pick_any s j v z f t e X (HE.out.below h))
  clear he
  go_enter Tryz.func7, Tryz.ntmps7
  have c0 : (w.alloc (.cells #[.int .i64 n, .string i, .int .i64 v, .int .i64 z, .string f, .string t, .int .i64 e] 45)).cell? ⟨w.heap.size, 0, none⟩ = some (.int .i64 n) := BT0.out.cell 0
  have c1 : (w.alloc (.cells #[.int .i64 n, .string i, .int .i64 v, .int .i64 z, .string f, .string t, .int .i64 e] 45)).cell? ⟨w.heap.size, 1, none⟩ = some (.string i) := BT0.out.cell 1
  have c2 : (w.alloc (.cells #[.int .i64 n, .string i, .int .i64 v, .int .i64 z, .string f, .string t, .int .i64 e] 45)).cell? ⟨w.heap.size, 2, none⟩ = some (.int .i64 v) := BT0.out.cell 2
  have c3 : (w.alloc (.cells #[.int .i64 n, .string i, .int .i64 v, .int .i64 z, .string f, .string t, .int .i64 e] 45)).cell? ⟨w.heap.size, 3, none⟩ = some (.int .i64 z) := BT0.out.cell 3
  have c4 : (w.alloc (.cells #[.int .i64 n, .string i, .int .i64 v, .int .i64 z, .string f, .string t, .int .i64 e] 45)).cell? ⟨w.heap.size, 4, none⟩ = some (.string f) := BT0.out.cell 4
  have c5 : (w.alloc (.cells #[.int .i64 n, .string i, .int .i64 v, .int .i64 z, .string f, .string t, .int .i64 e] 45)).cell? ⟨w.heap.size, 5, none⟩ = some (.string t) := BT0.out.cell 5
  have c6 : (w.alloc (.cells #[.int .i64 n, .string i, .int .i64 v, .int .i64 z, .string f, .string t, .int .i64 e] 45)).cell? ⟨w.heap.size, 6, none⟩ = some (.int .i64 e) := BT0.out.cell 6
  go_wp2_with fail
  go_region_held3 (fun w' => w'.cell? ⟨w.heap.size, 0, none⟩ = some (.int .i64 n) ∧ w'.cell? ⟨w.heap.size, 1, none⟩ = some (.string i) ∧ w'.cell? ⟨w.heap.size, 2, none⟩ = some (.int .i64 v) ∧ w'.cell? ⟨w.heap.size, 3, none⟩ = some (.int .i64 z) ∧ w'.cell? ⟨w.heap.size, 4, none⟩ = some (.string f) ∧ w'.cell? ⟨w.heap.size, 5, none⟩ = some (.string t) ∧ w'.cell? ⟨w.heap.size, 6, none⟩ = some (.int .i64 e)) (go_keep) (fail)
  clear c0 c1 c2 c3 c4 c5 c6 BT0
  obtain ⟨X0, hX0⟩ : ∃ X, X = ((w.alloc (.cells #[.int .i64 n, .string i, .int .i64 v, .int .i64 z, .string f, .string t, .int .i64 e] 45)).alloc (.cells #[.string i, .int .i64 v, .int .i64 z, .string f, .string t, .int .i64 e] 37)).drew := ⟨_, rfl⟩
  rw [← hX0] at HB0 BX0
  simp only [← hX0]
  clear hX0
  obtain ⟨o0, o1, o2, o3, o4, o5⟩ := BX0.out.six
  go_wp2_with fail
  refine (KW.out _ HB0.out).mono ?_
  rintro e' w1 ⟨rfl, hbb⟩
  have HB1 := hide (HB0.out.trans (hbb.mono HB0.out.size))
  have BX1 := Blk.on BX0 hbb
  clear hbb KW HB0 BX0 o0 o1 o2 o3 o4 o5
  obtain ⟨o0, o1, o2, o3, o4, o5⟩ := BX1.out.six
  by_cases hn1 : n < 1
  · have g1 : decide (n < 1) = true := decide_eq_true hn1
    clear MT MF KP HE BX1 o0 o1 o2 o3 o4 o5
    go_wp2
    go_ret
    exact ⟨rfl, HB1.out⟩
  have g1 : decide (n < 1) = false := decide_eq_false hn1
  by_cases hn8 : 8 < n
  · have g2 : decide (8 < n) = true := decide_eq_true hn8
    clear MT MF KP HE BX1 o0 o1 o2 o3 o4 o5
    go_wp2
    go_ret
    exact ⟨rfl, HB1.out⟩
  have g2 : decide (8 < n) = false := decide_eq_false hn8
  by_cases hM : MayO ⟨bys i, v, z, bys f, bys t, e⟩
  rotate_left
  · have HM := hide hM
    clear hM
    go_wp2_with fail
    refine (MF.out _ HM.out).mono ?_
    rintro e' w2 ⟨rfl, hbb⟩
    have HB2 := hide (HB1.out.trans (hbb.mono HB1.out.size))
    clear hbb MT MF KP HE BX1 HM HB1 o0 o1 o2 o3 o4 o5
    go_wp2
    go_ret
    exact ⟨rfl, HB2.out⟩
  have HM := hide hM
  clear hM
  go_wp2_with fail
  refine (MT.out _ HM.out).mono ?_
  rintro e' w2 ⟨rfl, hbb⟩
  have HB2 := hide (HB1.out.trans (hbb.mono HB1.out.size))
  have BX2 := Blk.on BX1 hbb
  clear hbb MT MF HB1 BX1 o0 o1 o2 o3 o4 o5
  obtain ⟨o0, o1, o2, o3, o4, o5⟩ := BX2.out.six
  by_cases hi4 : 4000 < i.size
  · have hi4' : (4000 : Int) < (i.size : Int) := by omega
    clear KP HE HM
    go_wp2
    go_ret
    exact ⟨rfl, HB2.out⟩
  have hi4' : ¬ (4000 : Int) < (i.size : Int) := by omega
  by_cases hm4 : 4000 < m.size
  · have hm4' : (4000 : Int) < (m.size : Int) := by omega
    clear KP HE HM
    go_wp2
    go_ret
    exact ⟨rfl, HB2.out⟩
  have hm4' : ¬ (4000 : Int) < (m.size : Int) := by omega
  by_cases hm0 : m.size = 0
  · obtain rfl : m = ⟨#[]⟩ := size_nil hm0
    clear KP HE HM
    go_wp2
    go_ret
    exact ⟨rfl, HB2.out⟩
  have hmq := toList_ne hm0
  have HGm : Hid (∀ k (h : k < m.size), m[k].toNat = byt (bys m) k) := fun k h => byt_get m k h
  have hg0 : ∀ h : 0 < m.size, m[0].toNat = byt (bys m) 0 := fun h => HGm.out 0 h
  have hp0 : 0 < m.size := by omega
  have hp0' : (0 : Int) < (m.size : Int) := by omega
  obtain ⟨b0, hb0⟩ : ∃ b, b = byt (bys m) 0 := ⟨_, rfl⟩
  have HB0m := hide hb0
  rw [← hb0] at hg0
  clear hb0
  by_cases h48 : b0 = 48
  · subst h48
    clear KP HE HM HGm HB0m
    go_wp2
    go_ret
    exact ⟨rfl, HB2.out⟩
  have q48 : ((b0 : Int) == 48) = false := beq_eq_false_iff_ne.2 (by omega)
  go_wp2
  clear o0 o1 o2 o3 o4 o5
  go_loopw [9] (fun p wr => ∃ k : Nat, k ≤ m.size ∧ p = .int .i64 (k : Int) ∧ w2 = wr ∧ Hid (∀ j, j < k → 48 ≤ byt (bys m) j ∧ byt (bys m) j ≤ 57)) (fun p _ => m.size - (intOf p).toNat)
  case atStart => exact ⟨0, Nat.zero_le _, rfl, rfl, fun j h => by omega⟩
  case round =>
    obtain ⟨k, hk, rfl, rfl, HNO⟩ := hrel
    by_cases hlt : k < m.size
    · have hlt' : (k : Int) < (m.size : Int) := by omega
      have hg : ∀ h : k < m.size, m[k].toNat = byt (bys m) k := fun h => HGm.out k h
      have HN1 := hide (fun (h : 48 ≤ byt (bys m) k ∧ byt (bys m) k ≤ 57) => (fun j (hj : j < k + 1) => by
        by_cases hj' : j < k
        · exact HNO.out j hj'
        · obtain rfl : j = k := by omega
          exact h : ∀ j, j < k + 1 → 48 ≤ byt (bys m) j ∧ byt (bys m) j ≤ 57))
      clear HNO hg0
      generalize byt (bys m) k = b at *
      by_cases h1 : b < 48
      · have h1' : (b : Int) < 48 := by omega
        clear KP HE BX2 HM HGm HB0m HN1
        go_wp2
        go_ret
        exact ⟨rfl, HB2.out⟩
      have h1' : ¬ (b : Int) < 48 := by omega
      by_cases h2 : 57 < b
      · have h2' : (57 : Int) < (b : Int) := by omega
        clear KP HE BX2 HM HGm HB0m HN1
        go_wp2
        go_ret
        exact ⟨rfl, HB2.out⟩
      have h2' : ¬ (57 : Int) < (b : Int) := by omega
      have HN2 := hide (HN1.out ⟨by omega, by omega⟩)
      clear HN1
      go_wp2
      exact ⟨⟨k + 1, by omega, by go_num, trivial, HN2⟩, by simp [intOf]; omega⟩
    obtain rfl : k = m.size := by omega
    have hlt' : ¬ (m.size : Int) < (m.size : Int) := by omega
    have HD : Hid (DigB (bys m)) := fun j hj => HNO.out j (by rw [← bys_len]; exact hj)
    clear HNO HGm hg0 hlt hk
    have HGl : Hid (∀ k (h : k < l.size), l[k].toNat = byt (bys l) k) := fun k h => byt_get l k h
    go_wp2
    go_loopw [10] (fun p wr => ∃ k : Nat, k ≤ l.size ∧ p = .int .i64 (k : Int) ∧ w2 = wr ∧ Hid (∀ j, j < k → (48 ≤ byt (bys l) j ∧ byt (bys l) j ≤ 57) ∨ byt (bys l) j = 44 ∨ byt (bys l) j = 46 ∨ byt (bys l) j = 32)) (fun p _ => l.size - (intOf p).toNat)
    case atStart => exact ⟨0, Nat.zero_le _, rfl, rfl, fun j h => by omega⟩
    case round =>
      obtain ⟨k, hk, rfl, rfl, HNO⟩ := hrel
      by_cases hlt : k < l.size
      · have hlt2 : (k : Int) < (l.size : Int) := by omega
        have hg : ∀ h : k < l.size, l[k].toNat = byt (bys l) k := fun h => HGl.out k h
        have HN1 := hide (fun (h : (48 ≤ byt (bys l) k ∧ byt (bys l) k ≤ 57) ∨ byt (bys l) k = 44 ∨ byt (bys l) k = 46 ∨ byt (bys l) k = 32) => (fun j (hj : j < k + 1) => by
          by_cases hj' : j < k
          · exact HNO.out j hj'
          · obtain rfl : j = k := by omega
            exact h : ∀ j, j < k + 1 → (48 ≤ byt (bys l) j ∧ byt (bys l) j ≤ 57) ∨ byt (bys l) j = 44 ∨ byt (bys l) j = 46 ∨ byt (bys l) j = 32))
        clear HNO
        generalize byt (bys l) k = b at *
        by_cases hd : 48 ≤ b ∧ b ≤ 57
        · have h1' : ¬ (b : Int) < 48 := by omega
          have h2' : ¬ (57 : Int) < (b : Int) := by omega
          have HN2 := hide (HN1.out (.inl hd))
          clear HN1
          go_wp2
          exact ⟨⟨k + 1, by omega, by go_num, trivial, HN2⟩, by simp [intOf]; omega⟩
        by_cases h44 : b = 44
        · subst h44
          have HN2 := hide (HN1.out (.inr (.inl rfl)))
          clear HN1
          go_wp2
          exact ⟨⟨k + 1, by omega, by go_num, trivial, HN2⟩, by simp [intOf]; omega⟩
        by_cases h46 : b = 46
        · subst h46
          have HN2 := hide (HN1.out (.inr (.inr (.inl rfl))))
          clear HN1
          go_wp2
          exact ⟨⟨k + 1, by omega, by go_num, trivial, HN2⟩, by simp [intOf]; omega⟩
        by_cases h32 : b = 32
        · subst h32
          have HN2 := hide (HN1.out (.inr (.inr (.inr rfl))))
          clear HN1
          go_wp2
          exact ⟨⟨k + 1, by omega, by go_num, trivial, HN2⟩, by simp [intOf]; omega⟩
        have n44 : ((b : Int) != 44) = true := by rw [bne_iff_ne]; omega
        have n46 : ((b : Int) != 46) = true := by rw [bne_iff_ne]; omega
        have n32 : ((b : Int) != 32) = true := by rw [bne_iff_ne]; omega
        have m44 : ¬ (b : Int) = 44 := by omega
        have m46 : ¬ (b : Int) = 46 := by omega
        have m32 : ¬ (b : Int) = 32 := by omega
        by_cases h1 : b < 48
        · have h1' : (b : Int) < 48 := by omega
          clear KP HE BX2 HM HGl HB0m HN1 HD
          go_wp2
          go_ret
          exact ⟨rfl, HB2.out⟩
        have h1' : ¬ (b : Int) < 48 := by omega
        have h2' : (57 : Int) < (b : Int) := by omega
        clear KP HE BX2 HM HGl HB0m HN1 HD
        go_wp2
        go_ret
        exact ⟨rfl, HB2.out⟩
      obtain rfl : k = l.size := by omega
      have hlt2 : ¬ (l.size : Int) < (l.size : Int) := by omega
      have HLB := hide (listB_of (l := bys l) (fun j hj => HNO.out j (by rw [← bys_len]; exact hj)))
      clear HNO HGl hlt hk
      obtain ⟨K, rfl⟩ : ∃ K : Nat, n = (K : Int) := ⟨n.toNat, by omega⟩
      go_wp2
      go_loopw [11, 12] (fun a b wr => ∃ (j : Nat) (r : ByteArray), j ≤ K ∧ a = .string r ∧ Hid (bys r = modC j) ∧ r.size = j + 1 ∧ b = .int .i64 (j : Int) ∧ w2 = wr) (fun _ b _ => K - (intOf b).toNat)
      case atStart => exact ⟨0, ⟨#[49]⟩, Nat.zero_le _, rfl, rfl, rfl, rfl, rfl⟩
      case round =>
        obtain ⟨j, r, hj, rfl, HR, hrs, rfl, rfl⟩ := hrel
        by_cases hlt3 : j < K
        · have hlt3' : (j : Int) < (K : Int) := by omega
          have f1 : ¬ 9223372036854775807 < r.size + (⟨#[48]⟩ : ByteArray).size := by rw [show (⟨#[48]⟩ : ByteArray).size = 1 from rfl]; omega
          have f2 : ¬ 9223372036854775807 < r.size + 1 := by omega
          have f3 : ¬ 9223372036854775807 < j + 1 + 1 := by omega
          have HR1 : Hid (bys (r ++ ⟨#[48]⟩) = modC (j + 1)) := by rw [bys_cat, HR.out, modC_succ]; rfl
          have HZ1 : Hid ((r ++ ⟨#[48]⟩ : ByteArray).size = j + 1 + 1) := by rw [ByteArray.size_append, hrs]; rfl
          clear HR
          go_wp2
          go_roundw
          case rel => exact ⟨j + 1, r ++ ⟨#[48]⟩, by omega, rfl, HR1, HZ1.out, by go_num, trivial⟩
          case measure => simp [intOf]; omega
        obtain rfl : K = j := by omega
        have hlt3' : ¬ (K : Int) < (K : Int) := by omega
        have hrb : r.size ≤ 9 := by omega
        have HRS := hide hrs
        clear hrs hlt3 hj
        obtain ⟨o0, o1, o2, o3, o4, o5⟩ := BX2.out.six
        have BY0 := hide (Blk.newAt w2 w2.heap.size rfl #[.string i, .int .i64 v, .int .i64 z, .string f, .string t, .int .i64 e] 37)
        have BW0 : Hid (Below w2.heap.size w2 (w2.alloc (.cells #[.string i, .int .i64 v, .int .i64 z, .string f, .string t, .int .i64 e] 37))) := (Below.refl _ _).alloc (Nat.le_refl _) _
        have BY1 := hide (Blk.newAt w2 w2.heap.size rfl #[.string ⟨#[]⟩, .int .i64 v, .int .i64 z, .string f, .string t, .int .i64 e] 37)
        have BW1 : Hid (Below w2.heap.size w2 (w2.alloc (.cells #[.string ⟨#[]⟩, .int .i64 v, .int .i64 z, .string f, .string t, .int .i64 e] 37))) := (Below.refl _ _).alloc (Nat.le_refl _) _
        have oa : (w2.alloc (.cells #[.string i, .int .i64 v, .int .i64 z, .string f, .string t, .int .i64 e] 37)).cell? ⟨w.heap.size + 1, 0, none⟩ = some (.string i) := (BX2.out.alloc (.cells #[.string i, .int .i64 v, .int .i64 z, .string f, .string t, .int .i64 e] 37)).cell 0
        have HI4 := hide hi4
        clear hi4
        go_upto_if 117 with (fail)
        go_cut [13] from 20 (fun vp wx => ∃ i0 : ByteArray, vp = .pointer (some ⟨w2.heap.size, 0, none⟩) ∧ Hid (Blk wx w2.heap.size #[.string i0, .int .i64 v, .int .i64 z, .string f, .string t, .int .i64 e] 37) ∧ Hid (Below w2.heap.size w2 wx) ∧ Hid (bys i0 = bare (bys i)) ∧ i0.size ≤ 4000)
        case first =>
          go_wp2
          · rename_i hq
            have hq1 := is_nought hq
            go_meet
            case rel => exact ⟨⟨#[]⟩, rfl, BY1, BW1, by show _ = _; rw [hq1]; rfl, Nat.zero_le _⟩
          · rename_i hq
            have hq1 := not_nought hq
            go_meet
            case rel => exact ⟨i, rfl, BY0, BW0, (if_neg hq1).symm, by have := HI4.out; omega⟩
        case rest =>
          clear BY0 BW0 BY1 BW1 oa o0 o1 o2 o3 o4 o5
          obtain ⟨i0, rfl, BY0, BW0, HBR, hi0⟩ := hcut
          go_wp2
          go_loopw [119] (fun _ wr => ∃ (j : Nat) (r2 : ByteArray), Hid (Blk wr w2.heap.size #[.string r2, .int .i64 v, .int .i64 z, .string f, .string t, .int .i64 e] 37) ∧ Hid (Below w2.heap.size w2 wr) ∧ Hid (bys r2 = List.replicate j 48 ++ bys i0) ∧ Hid (r2.size = j + i0.size) ∧ Hid (j = 0 ∨ r2.size ≤ K)) (fun _ wr => K - strLen (wr.cell? ⟨w2.heap.size, 0, none⟩))
          case atStart => exact ⟨0, i0, BY0, BW0, rfl, (Nat.zero_add _).symm, .inl rfl⟩
          case round =>
            clear BY0 BW0
            obtain ⟨j, r2, BY, BW, HR2, HZ2, HJ2⟩ := hrel
            obtain ⟨y0, y1, y2, y3, y4, y5⟩ := BY.out.six
            have fz : wr.frozen? ⟨w2.heap.size, 0, none⟩ = false := BY.out.free 0
            have hr2b : r2.size ≤ 4008 := by have h1 := HZ2.out; have h2 := HJ2.out; omega
            by_cases hlt4 : r2.size < K
            · have hlt4' : (r2.size : Int) < (K : Int) := by omega
              have f1 : ¬ 9223372036854775807 < (⟨#[48]⟩ : ByteArray).size + r2.size := by rw [show (⟨#[48]⟩ : ByteArray).size = 1 from rfl]; omega
              have f2 : ¬ 9223372036854775807 < 1 + r2.size := by omega
              have BY1 := hide (blk_put0 BY.out (.string (⟨#[48]⟩ ++ r2)))
              have BW1 := hide (BW.out.setCell (p := ⟨w2.heap.size, 0, none⟩) (Nat.le_refl _) (.string (⟨#[48]⟩ ++ r2)))
              have HR3 : Hid (bys (⟨#[48]⟩ ++ r2) = List.replicate (j + 1) 48 ++ bys i0) := by rw [bys_cat, HR2.out, List.replicate_succ]; rfl
              have HZ3 : Hid ((⟨#[48]⟩ ++ r2 : ByteArray).size = 1 + r2.size) := by rw [ByteArray.size_append]; rfl
              have HZ4 : Hid ((⟨#[48]⟩ ++ r2 : ByteArray).size = j + 1 + i0.size) := by have h1 := HZ2.out; rw [HZ3.out]; show _ = _; omega
              have HJ4 : Hid (j + 1 = 0 ∨ (⟨#[48]⟩ ++ r2 : ByteArray).size ≤ K) := .inr (by rw [HZ3.out]; omega)
              have HM4 : Hid (K - (⟨#[48]⟩ ++ r2 : ByteArray).size < K - r2.size) := by show _ < _; rw [HZ3.out]; omega
              have M0 := hide (BY.out.cell 0)
              have M1 := hide (BY1.out.cell 0)
              clear BY BW HR2 HZ2 HJ2
              go_wp2
              clear y0 y1 y2 y3 y4 y5 fz
              go_roundw
              case rel => exact ⟨j + 1, ⟨#[48]⟩ ++ r2, BY1, BW1, HR3, HZ4, HJ4⟩
              case measure =>
                rw [M0.out, M1.out]
                exact HM4.out
            have hlt4' : ¬ (r2.size : Int) < (K : Int) := by omega
            have HRP : Hid (bys r2 = padI K (bys i)) := by
              have hbl : (bare (bys i)).length = i0.size := by rw [← HBR.out, bys_len]
              have h1 := HZ2.out; have h2 := HJ2.out
              rw [HR2.out, HBR.out]; exact pad_is K j (bys i) (by rw [hbl]; omega) (by rw [hbl]; omega)
            have f1 : ¬ 9223372036854775807 < m.size + r2.size := by omega
            have BY1 := hide (blk_put0 BY.out (.string (m ++ r2)))
            have BW1 := hide (BW.out.setCell (p := ⟨w2.heap.size, 0, none⟩) (Nat.le_refl _) (.string (m ++ r2)))
            clear HR2 BY BW HZ2 HJ2 HBR
            go_wp2
            clear y0 y1 y2 y3 y4 y5 fz
            obtain ⟨WY, hWY⟩ : ∃ W, W = wr.setCell ⟨w2.heap.size, 0, none⟩ (.string (m ++ r2)) := ⟨_, rfl⟩
            rw [← hWY] at BY1 BW1
            simp only [← hWY]
            clear hWY
            have BXY := hide (BX2.out.below BW1.out BX2.out.lt)
            have HBY := hide (HB2.out.trans (BW1.out.mono HB2.out.size))
            have HRY : Hid (bys (m ++ r2) = bys m ++ padI K (bys i)) := by show _ = _; rw [bys_cat, HRP.out]
            have HK1 : Hid (1 ≤ K ∧ K ≤ 8) := ⟨by omega, by omega⟩
            have RP := hide (fun op hop => rests_pick (x := ⟨bys i, v, z, bys f, bys t, e⟩) (more := bys m) (L := bys l) (k := K) op hop HK1.out.1 HK1.out.2 HLB.out HM.out (by rw [bys_len]; have := HI4.out; omega) (fun q => hm0 (by rw [← bys_len, q]; rfl)) (by rw [bys_len]; omega) (by rw [← HB0m.out]; exact h48) HD.out)
            clear BX2 HRP HLB HM HB0m HD BW1 HI4
            go_loopw [14] (fun q wr => ∃ k : Nat, k ≤ 2 ∧ q = .int .i64 (k : Int) ∧ Hid (Below WY.heap.size WY wr)) (fun q _ => 2 - (intOf q).toNat)
            case atStart => exact ⟨0, by omega, rfl, Below.refl _ _⟩
            case round =>
              obtain ⟨k, hk2, rfl, BWr⟩ := hrel
              have hBq := hide (HBY.out.trans (BWr.out.mono HBY.out.size))
              obtain rfl | rfl | rfl : k = 0 ∨ k = 1 ∨ k = 2 := by omega
              · have cv : ∀ X : World, (convert 5 9 (.int .u8 105)).run Tryz.prog X = .ok (.string ⟨#[105]⟩) X := fun _ => rfl
                have P1 := hide (fun (s : ByteArray) (hs : bys s = restsC 105 K (bys l)) X (h : Below w.heap.size w X) => pick_is s _ hs i _ rfl v z f t e X (HE.out.below h))
                have P2 := hide (fun (s : ByteArray) (hs : bys s = restsC 105 K (bys l)) X (h : Below w.heap.size w X) => pick_is s _ hs (m ++ r2) _ HRY.out v z f t e X (HE.out.below h))
                rw [← (RP.out 105 (.inl rfl))] at P2
                generalize pickT (restsC 105 K (bys l)) ⟨bys i, v, z, bys f, bys t, e⟩ = A at P1 P2
                obtain ⟨A1, A2⟩ := A
                dsimp only at P1 P2
                have u1 : ¬ 9223372036854775807 < (⟨#[102, 101, 119, 58, 32]⟩ ++ ⟨#[105]⟩ ++ ⟨#[32, 37, 32]⟩ : ByteArray).size + r.size := by simp only [ByteArray.size_append]; rw [show (⟨#[102, 101, 119, 58, 32]⟩ : ByteArray).size = 5 from rfl, show (⟨#[105]⟩ : ByteArray).size = 1 from rfl, show (⟨#[32, 37, 32]⟩ : ByteArray).size = 3 from rfl]; omega
                have u2 : ¬ 9223372036854775807 < 9 + r.size := by omega
                have u4 : ¬ 9223372036854775807 < 9 + r.size + 3 := by omega
                have u5 : ¬ 9223372036854775807 < 9 + r.size + 3 + l.size := by omega
                have u8 : ¬ 9223372036854775807 < 5 + 1 + 3 + r.size := by omega
                have u9 : ¬ 9223372036854775807 < 5 + 1 + 3 + r.size + 3 := by omega
                have u10 : ¬ 9223372036854775807 < 5 + 1 + 3 + r.size + 3 + l.size := by omega
                have BXr := Blk.on BXY BWr.out
                have BYr := Blk.on BY1 BWr.out
                clear RP HRY BXY BY1 HBY HRS HK1 HE
                obtain ⟨o0, o1, o2, o3, o4, o5⟩ := BXr.out.six
                go_wp2_with fail
                refine (P1.out _ (by refine rests_text _ _ _ _ _ _ ?_ (enc_is _ _ ?_ (by decide)) ?_ HR.out ?_ <;> rfl) _ hBq.out).mono ?_
                rintro e' v1 ⟨rfl, hbb⟩
                have hBq1 := hide (hBq.out.trans (hbb.mono hBq.out.size))
                have BWr1 := hide (BWr.out.trans (hbb.mono BWr.out.size))
                have BYr1 := Blk.on BYr hbb
                clear hbb P1 o0 o1 o2 o3 o4 o5 BXr BYr
                obtain ⟨o0, o1, o2, o3, o4, o5⟩ := BYr1.out.six
                go_wp2_with fail
                refine (P2.out _ (by refine rests_text _ _ _ _ _ _ ?_ (enc_is _ _ ?_ (by decide)) ?_ HR.out ?_ <;> rfl) _ hBq1.out).mono ?_
                rintro e' v2 ⟨rfl, hbb⟩
                have BWr2 := hide (BWr1.out.trans (hbb.mono BWr1.out.size))
                clear hbb P2 o0 o1 o2 o3 o4 o5 BYr1
                have nq1 : (A1 != A1) = false := by simp
                have nq2 : (A2 != A2) = false := by simp
                go_wp2
                exact ⟨⟨1, by omega, by go_num, BWr2⟩, by simp [intOf]⟩
              · have cv : ∀ X : World, (convert 5 9 (.int .u8 110)).run Tryz.prog X = .ok (.string ⟨#[110]⟩) X := fun _ => rfl
                have P1 := hide (fun (s : ByteArray) (hs : bys s = restsC 110 K (bys l)) X (h : Below w.heap.size w X) => pick_is s _ hs i _ rfl v z f t e X (HE.out.below h))
                have P2 := hide (fun (s : ByteArray) (hs : bys s = restsC 110 K (bys l)) X (h : Below w.heap.size w X) => pick_is s _ hs (m ++ r2) _ HRY.out v z f t e X (HE.out.below h))
                rw [← (RP.out 110 (.inr rfl))] at P2
                generalize pickT (restsC 110 K (bys l)) ⟨bys i, v, z, bys f, bys t, e⟩ = A at P1 P2
                obtain ⟨A1, A2⟩ := A
                dsimp only at P1 P2
                have u1 : ¬ 9223372036854775807 < (⟨#[102, 101, 119, 58, 32]⟩ ++ ⟨#[110]⟩ ++ ⟨#[32, 37, 32]⟩ : ByteArray).size + r.size := by simp only [ByteArray.size_append]; rw [show (⟨#[102, 101, 119, 58, 32]⟩ : ByteArray).size = 5 from rfl, show (⟨#[110]⟩ : ByteArray).size = 1 from rfl, show (⟨#[32, 37, 32]⟩ : ByteArray).size = 3 from rfl]; omega
                have u2 : ¬ 9223372036854775807 < 9 + r.size := by omega
                have u4 : ¬ 9223372036854775807 < 9 + r.size + 3 := by omega
                have u5 : ¬ 9223372036854775807 < 9 + r.size + 3 + l.size := by omega
                have u8 : ¬ 9223372036854775807 < 5 + 1 + 3 + r.size := by omega
                have u9 : ¬ 9223372036854775807 < 5 + 1 + 3 + r.size + 3 := by omega
                have u10 : ¬ 9223372036854775807 < 5 + 1 + 3 + r.size + 3 + l.size := by omega
                have BXr := Blk.on BXY BWr.out
                have BYr := Blk.on BY1 BWr.out
                clear RP HRY BXY BY1 HBY HRS HK1 HE
                obtain ⟨o0, o1, o2, o3, o4, o5⟩ := BXr.out.six
                go_wp2_with fail
                refine (P1.out _ (by refine rests_text _ _ _ _ _ _ ?_ (enc_is _ _ ?_ (by decide)) ?_ HR.out ?_ <;> rfl) _ hBq.out).mono ?_
                rintro e' v1 ⟨rfl, hbb⟩
                have hBq1 := hide (hBq.out.trans (hbb.mono hBq.out.size))
                have BWr1 := hide (BWr.out.trans (hbb.mono BWr.out.size))
                have BYr1 := Blk.on BYr hbb
                clear hbb P1 o0 o1 o2 o3 o4 o5 BXr BYr
                obtain ⟨o0, o1, o2, o3, o4, o5⟩ := BYr1.out.six
                go_wp2_with fail
                refine (P2.out _ (by refine rests_text _ _ _ _ _ _ ?_ (enc_is _ _ ?_ (by decide)) ?_ HR.out ?_ <;> rfl) _ hBq1.out).mono ?_
                rintro e' v2 ⟨rfl, hbb⟩
                have BWr2 := hide (BWr1.out.trans (hbb.mono BWr1.out.size))
                clear hbb P2 o0 o1 o2 o3 o4 o5 BYr1
                have nq1 : (A1 != A1) = false := by simp
                have nq2 : (A2 != A2) = false := by simp
                go_wp2
                exact ⟨⟨2, by omega, by go_num, BWr2⟩, by simp [intOf]⟩
              · clear RP BXY BY1 HRY
                go_wp2
                go_ret
                exact ⟨rfl, hBq.out⟩

theorem rests_row (w : World) (he : Evs w) (l : ByteArray) (hl : l.size ≤ 140737488355328) (m : ByteArray) (hm : m.size ≤ 140737488355328) (n : Int) (i : ByteArray) (v z : Int) (f t : ByteArray) (e : Int) (hi : i.size ≤ 140737488355328) (hf : f.size ≤ 140737488355328) (ht : t.size ≤ 140737488355328) :
    Calls Tryz.prog 7 #[.string l, .string m, .agg #[.int .i64 n, .string i, .int .i64 v, .int .i64 z, .string f, .string t, .int .i64 e]] w fun e' w' => e' = .returned (.bool true) ∧ Below w.heap.size w w' :=
  rests_walk l m n i v z f t e w hl hm hi hf ht he

end Go.Proofs.YtijccekejfcheaaGreatDoor

namespace Go.Proofs.YtijccekejfcheaaGreatDoor
open Go.RowKit

def tabVals : DataW Unit → Array Value
  | .agg l => (l.flatMap fun
      | .lit (.int k z) => [Value.int k z]
      | .agg l2 => l2.map fun
        | .lit (.int k z) => Value.int k z
        | _ => .int .u8 0
      | _ => []).toArray
  | _ => #[]

def putVals (d : DataW Unit) : Obj → Obj
  | .cells _ t frozen => .cells (tabVals d) t frozen
  | o => o

def errText : DataW Unit → ByteArray
  | .iface _ (.ptr (.agg [.lit (.string l)])) => ⟨l.toArray⟩
  | _ => ⟨#[]⟩

def putErr (b : Nat) : Obj → Obj
  | .cells _ t frozen => .cells #[.iface 282 (.pointer (some ⟨b, 0, none⟩))] t frozen
  | o => o

noncomputable def laidWorld (os : Os) : World :=
  { World.holding Tryz.prog os ⟨#[], #[], []⟩ with
    heap := (((((((((World.holding Tryz.prog os ⟨#[], #[], []⟩).heap.modify 8 (putVals Rows.laid_math_bits_deBruijn32tab)).modify 9 (putVals Rows.laid_math_bits_deBruijn64tab)).modify 3 (putVals Rows.laid_internal_strconv_uint64pow10)).modify 5 (putVals Rows.laid_unicode_utf8_acceptRanges)).modify 4 (putVals Rows.laid_unicode_utf8_first)).modify 1 (putErr (World.holding Tryz.prog os ⟨#[], #[], []⟩).heap.size)).modify 0 (putErr ((World.holding Tryz.prog os ⟨#[], #[], []⟩).heap.size + 1))).push (.cells #[.string (errText Rows.laid_strconv_ErrRange)] 284)).push (.cells #[.string (errText Rows.laid_strconv_ErrSyntax)] 284) }

end Go.Proofs.YtijccekejfcheaaGreatDoor

namespace Go.Proofs.YtijccekejfcheaaGreatDoor
open Go.RowKit

theorem evs_of_trod {W : World} {nm : String} {cs : Array Value} {fuel : Nat} {p : List MemPlace} {name : String} {d : DataW Unit} {t : TypeId} (hv : W.var? Tryz.prog nm = some cs) (ht : t = 101)
    (hd : DataW.trod (fun _ => ()) Tryz.prog W 0 (fun _ => true) false fuel t cs.toList = some (.iface name d, p)) : ∃ tp q, W.var? Tryz.prog nm = some #[.iface tp q] := by
  subst ht
  obtain ⟨_, u, v, hc, _, _⟩ := iface_of_trod Tryz.underlying101 hd
  obtain rfl : cs = #[.iface u v] := by cases cs; simp_all
  exact ⟨u, v, hv⟩

theorem teR : (Tryz.prog.globalNamed "strconv.ErrRange").bind (fun g => (Tryz.prog.globals[g]?).map (·.type)) = some 101 := by kernel_rfl
theorem teS : (Tryz.prog.globalNamed "strconv.ErrSyntax").bind (fun g => (Tryz.prog.globals[g]?).map (·.type)) = some 101 := by kernel_rfl

theorem evs {W : World} (h : laidMetH Tryz.prog [("math/bits.deBruijn32tab", Rows.laid_math_bits_deBruijn32tab), ("math/bits.deBruijn64tab", Rows.laid_math_bits_deBruijn64tab), ("internal/strconv.uint64pow10", Rows.laid_internal_strconv_uint64pow10), ("unicode/utf8.acceptRanges", Rows.laid_unicode_utf8_acceptRanges), ("strconv.ErrRange", Rows.laid_strconv_ErrRange), ("strconv.ErrSyntax", Rows.laid_strconv_ErrSyntax), ("unicode/utf8.first", Rows.laid_unicode_utf8_first)] W) : Evs W := by
  have h' : laidMet Tryz.prog [("math/bits.deBruijn32tab", Rows.laid_math_bits_deBruijn32tab), ("math/bits.deBruijn64tab", Rows.laid_math_bits_deBruijn64tab), ("internal/strconv.uint64pow10", Rows.laid_internal_strconv_uint64pow10), ("unicode/utf8.acceptRanges", Rows.laid_unicode_utf8_acceptRanges), ("strconv.ErrRange", Rows.laid_strconv_ErrRange), ("strconv.ErrSyntax", Rows.laid_strconv_ErrSyntax), ("unicode/utf8.first", Rows.laid_unicode_utf8_first)] W := h
  obtain ⟨ps, ⟨_, _, _, _, _, q1, _, _, _, _, ⟨_, _, _, _, _, q2, _, _, _, _, ⟨_, _, _, _, _, q3, _, _, _, _, ⟨_, _, _, _, _, q4, _, _, _, _, ⟨g5, t5, c5, f5, p5, q5, hg5, ht5, hv5, hd5, ⟨g6, t6, c6, f6, p6, q6, hg6, ht6, hv6, hd6, _, _⟩, _⟩, _⟩, _⟩, _⟩, _⟩, _⟩ := h'
  have e5 := teR
  rw [hg5] at e5
  have e6 := teS
  rw [hg6] at e6
  exact ⟨evs_of_trod hv6 (Option.some.inj (ht6.symm.trans e6)) hd6, evs_of_trod hv5 (Option.some.inj (ht5.symm.trans e5)) hd5⟩

end Go.Proofs.YtijccekejfcheaaGreatDoor
