/-
  OperandNoughts answers true, whatever it is handed.
  What the rows' list of package variables gives, and a world that holds them.
-/
import Derived.Test.YtobloamnaemfnaaDoorZB14
import Derived.Test.YtobloamnaemfnaaDoorRows
import Derived.Test.YtobloamnaemfnaaDoorZB6
import Derived.Lib.LaidTab
import Derived.Deep.DeepHandedRow
namespace Go.Proofs.YtobloamnaemfnaaDoor
open Go.RowKit

theorem Blk.setC {w : World} {b : Nat} {cs : Array Value} {t : TypeId} (h : Blk w b cs t) (i : Nat) (y : Value) : Blk (w.setCell ⟨b, i, none⟩ y) b (cs.set! i y) t := by
  unfold Blk at *
  simp only [World.setCell, Array.getElem?_modify, if_true, h, Option.map_some]
  rfl

set_option maxRecDepth 100000 in
set_option maxHeartbeats 2000000 in
theorem onou_e (c : Int) (n : Bool) (ti tf : ByteArray) (x : Int) (cm : Bool) (I : ByteArray) (v z : Int) (F T : ByteArray) (E : Int) (w : World) (htab : Tab w) (hO : ∀ W, Tab W → Calls Tryd.prog 6 #[shV c n ti tf x cm] W fun e w' => e = .returned (.tuple #[.agg #[.string I, .int .i64 v, .int .i64 z, .string F, .string T, .int .i64 E], .int .i64 80]) ∧ Below W.heap.size W w')  : Calls Tryd.prog 4 #[shV c n ti tf x cm] w fun e w' => e = .returned (.bool true) ∧ Below w.heap.size w w' := by
  have HO := hide hO
  have HT := hide htab
  clear hO htab
  have Bs0 := hide (Blk.newAt w (w.heap.size) (rfl) #[.int .i64 c, .bool n, .string ti, .string tf, .int .i64 x, .bool cm] 25)
  have HB0 : Hid (Below w.heap.size w (w.alloc (.cells #[.int .i64 c, .bool n, .string ti, .string tf, .int .i64 x, .bool cm] 25))) := ((Below.refl _ _).alloc (Nat.le_refl _) _)
  go_enter Tryd.func4, Tryd.ntmps4
  go_wp2_with fail
  refine (HO.out _ (HT.out.below HB0.out)).mono ?_
  rintro e w1 ⟨rfl, hb⟩
  have Bs1 := Blk.on Bs0 hb
  have HB1 := hide (HB0.out.trans (hb.mono HB0.out.size))
  clear hb Bs0 HB0 
  obtain ⟨ys0, ys1, ys2, ys3, ys4, ys5⟩ := Bs1.out.six
  have lsx : w.heap.size < w1.heap.size := Bs1.out.lt
  have Bs2 := Blk.up Bs1 (.cells #[.string I, .int .i64 v, .int .i64 z, .string F, .string T, .int .i64 E] 23)
  have Bx2 := hide ((Blk.newAt w1 (w1.heap.size) (rfl) #[.string I, .int .i64 v, .int .i64 z, .string F, .string T, .int .i64 E] 23))
  have HB2 : Hid (Below w.heap.size w (w1.alloc (.cells #[.string I, .int .i64 v, .int .i64 z, .string F, .string T, .int .i64 E] 23))) := (HB1.out.alloc HB1.out.size _)
  clear Bs1 HB1 ys0 ys1 ys2 ys3 ys4 ys5
  obtain ⟨ys0, ys1, ys2, ys3, ys4, ys5⟩ := Bs2.out.six
  obtain ⟨yx0, yx1, yx2, yx3, yx4, yx5⟩ := Bx2.out.six
  have HTW := hide (HT.out.below HB2.out)
  clear HO HT
  go_wp2_with fail
  refine (qawake_any _ HTW.out).mono ?_
  rintro e w3 ⟨rfl, hb⟩
  have Bs3 := Blk.on Bs2 hb
  have Bx3 := Blk.on Bx2 hb
  have HB3 := hide (HB2.out.trans (hb.mono HB2.out.size))
  clear hb Bs2 Bx2 HB2 ys0 ys1 ys2 ys3 ys4 ys5 yx0 yx1 yx2 yx3 yx4 yx5
  obtain ⟨ys0, ys1, ys2, ys3, ys4, ys5⟩ := Bs3.out.six
  obtain ⟨yx0, yx1, yx2, yx3, yx4, yx5⟩ := Bx3.out.six
  go_wp2
  go_ret
  exact ⟨rfl, HB3.out⟩

set_option maxRecDepth 100000 in
set_option maxHeartbeats 2000000 in
theorem onou_c (c : Int) (n : Bool) (ti tf : ByteArray) (x : Int) (I : ByteArray) (v z : Int) (F T : ByteArray) (E : Int) (w : World) (htab : Tab w) (hO : ∀ W, Tab W → Calls Tryd.prog 6 #[shV c n ti tf x true] W fun e w' => e = .returned (.tuple #[.agg #[.string I, .int .i64 v, .int .i64 z, .string F, .string T, .int .i64 E], .int .i64 0]) ∧ Below W.heap.size W w')  : Calls Tryd.prog 4 #[shV c n ti tf x true] w fun e w' => e = .returned (.bool true) ∧ Below w.heap.size w w' := by
  have HO := hide hO
  have HT := hide htab
  clear hO htab
  have Bs0 := hide (Blk.newAt w (w.heap.size) (rfl) #[.int .i64 c, .bool n, .string ti, .string tf, .int .i64 x, .bool true] 25)
  have HB0 : Hid (Below w.heap.size w (w.alloc (.cells #[.int .i64 c, .bool n, .string ti, .string tf, .int .i64 x, .bool true] 25))) := ((Below.refl _ _).alloc (Nat.le_refl _) _)
  go_enter Tryd.func4, Tryd.ntmps4
  go_wp2_with fail
  refine (HO.out _ (HT.out.below HB0.out)).mono ?_
  rintro e w1 ⟨rfl, hb⟩
  have Bs1 := Blk.on Bs0 hb
  have HB1 := hide (HB0.out.trans (hb.mono HB0.out.size))
  clear hb Bs0 HB0 
  obtain ⟨ys0, ys1, ys2, ys3, ys4, ys5⟩ := Bs1.out.six
  have lsx : w.heap.size < w1.heap.size := Bs1.out.lt
  have Bs2 := Blk.up Bs1 (.cells #[.string I, .int .i64 v, .int .i64 z, .string F, .string T, .int .i64 E] 23)
  have Bx2 := hide ((Blk.newAt w1 (w1.heap.size) (rfl) #[.string I, .int .i64 v, .int .i64 z, .string F, .string T, .int .i64 E] 23))
  have HB2 : Hid (Below w.heap.size w (w1.alloc (.cells #[.string I, .int .i64 v, .int .i64 z, .string F, .string T, .int .i64 E] 23))) := (HB1.out.alloc HB1.out.size _)
  clear Bs1 HB1 ys0 ys1 ys2 ys3 ys4 ys5
  obtain ⟨ys0, ys1, ys2, ys3, ys4, ys5⟩ := Bs2.out.six
  obtain ⟨yx0, yx1, yx2, yx3, yx4, yx5⟩ := Bx2.out.six
  have HTW := hide (HT.out.below HB2.out)
  clear HO HT
  go_wp2_with fail
  refine (qawake_any _ HTW.out).mono ?_
  rintro e w3 ⟨rfl, hb⟩
  have Bs3 := Blk.on Bs2 hb
  have Bx3 := Blk.on Bx2 hb
  have HB3 := hide (HB2.out.trans (hb.mono HB2.out.size))
  clear hb Bs2 Bx2 HB2 ys0 ys1 ys2 ys3 ys4 ys5 yx0 yx1 yx2 yx3 yx4 yx5
  obtain ⟨ys0, ys1, ys2, ys3, ys4, ys5⟩ := Bs3.out.six
  obtain ⟨yx0, yx1, yx2, yx3, yx4, yx5⟩ := Bx3.out.six
  go_wp2
  go_ret
  exact ⟨rfl, HB3.out⟩

set_option maxRecDepth 100000 in
set_option maxHeartbeats 2000000 in
theorem onou_f (c : Int) (n : Bool) (ti tf : ByteArray) (x : Int) (I : ByteArray) (v z : Int) (F T : ByteArray) (E : Int) (w : World) (htab : Tab w) (hO : ∀ W, Tab W → Calls Tryd.prog 6 #[shV c n ti tf x false] W fun e w' => e = .returned (.tuple #[.agg #[.string I, .int .i64 v, .int .i64 z, .string F, .string T, .int .i64 E], .int .i64 0]) ∧ Below W.heap.size W w') (h : 4096 ≤ tf.size) : Calls Tryd.prog 4 #[shV c n ti tf x false] w fun e w' => e = .returned (.bool true) ∧ Below w.heap.size w w' := by
  have HO := hide hO
  have HT := hide htab
  clear hO htab
  have h1 : decide (4096 ≤ (tf.size : Int)) = true := decide_eq_true (by omega)
  clear h
  have Bs0 := hide (Blk.newAt w (w.heap.size) (rfl) #[.int .i64 c, .bool n, .string ti, .string tf, .int .i64 x, .bool false] 25)
  have HB0 : Hid (Below w.heap.size w (w.alloc (.cells #[.int .i64 c, .bool n, .string ti, .string tf, .int .i64 x, .bool false] 25))) := ((Below.refl _ _).alloc (Nat.le_refl _) _)
  go_enter Tryd.func4, Tryd.ntmps4
  go_wp2_with fail
  refine (HO.out _ (HT.out.below HB0.out)).mono ?_
  rintro e w1 ⟨rfl, hb⟩
  have Bs1 := Blk.on Bs0 hb
  have HB1 := hide (HB0.out.trans (hb.mono HB0.out.size))
  clear hb Bs0 HB0 
  obtain ⟨ys0, ys1, ys2, ys3, ys4, ys5⟩ := Bs1.out.six
  have lsx : w.heap.size < w1.heap.size := Bs1.out.lt
  have Bs2 := Blk.up Bs1 (.cells #[.string I, .int .i64 v, .int .i64 z, .string F, .string T, .int .i64 E] 23)
  have Bx2 := hide ((Blk.newAt w1 (w1.heap.size) (rfl) #[.string I, .int .i64 v, .int .i64 z, .string F, .string T, .int .i64 E] 23))
  have HB2 : Hid (Below w.heap.size w (w1.alloc (.cells #[.string I, .int .i64 v, .int .i64 z, .string F, .string T, .int .i64 E] 23))) := (HB1.out.alloc HB1.out.size _)
  clear Bs1 HB1 ys0 ys1 ys2 ys3 ys4 ys5
  obtain ⟨ys0, ys1, ys2, ys3, ys4, ys5⟩ := Bs2.out.six
  obtain ⟨yx0, yx1, yx2, yx3, yx4, yx5⟩ := Bx2.out.six
  have HTW := hide (HT.out.below HB2.out)
  clear HO HT
  go_wp2_with fail
  refine (qawake_any _ HTW.out).mono ?_
  rintro e w3 ⟨rfl, hb⟩
  have Bs3 := Blk.on Bs2 hb
  have Bx3 := Blk.on Bx2 hb
  have HB3 := hide (HB2.out.trans (hb.mono HB2.out.size))
  clear hb Bs2 Bx2 HB2 ys0 ys1 ys2 ys3 ys4 ys5 yx0 yx1 yx2 yx3 yx4 yx5
  obtain ⟨ys0, ys1, ys2, ys3, ys4, ys5⟩ := Bs3.out.six
  obtain ⟨yx0, yx1, yx2, yx3, yx4, yx5⟩ := Bx3.out.six
  go_wp2
  go_ret
  exact ⟨rfl, HB3.out⟩

set_option maxRecDepth 100000 in
set_option maxHeartbeats 2000000 in
theorem onou_i (c : Int) (n : Bool) (ti tf : ByteArray) (x : Int) (I : ByteArray) (v z : Int) (F T : ByteArray) (E : Int) (w : World) (htab : Tab w) (hO : ∀ W, Tab W → Calls Tryd.prog 6 #[shV c n ti tf x false] W fun e w' => e = .returned (.tuple #[.agg #[.string I, .int .i64 v, .int .i64 z, .string F, .string T, .int .i64 E], .int .i64 0]) ∧ Below W.heap.size W w') (h : tf.size < 4096) (g : 4096 ≤ ti.size) : Calls Tryd.prog 4 #[shV c n ti tf x false] w fun e w' => e = .returned (.bool true) ∧ Below w.heap.size w w' := by
  have HO := hide hO
  have HT := hide htab
  clear hO htab
  have h1 : decide (4096 ≤ (tf.size : Int)) = false := decide_eq_false (by omega)
  have h2 : decide (4096 ≤ (ti.size : Int)) = true := decide_eq_true (by omega)
  clear h g
  have Bs0 := hide (Blk.newAt w (w.heap.size) (rfl) #[.int .i64 c, .bool n, .string ti, .string tf, .int .i64 x, .bool false] 25)
  have HB0 : Hid (Below w.heap.size w (w.alloc (.cells #[.int .i64 c, .bool n, .string ti, .string tf, .int .i64 x, .bool false] 25))) := ((Below.refl _ _).alloc (Nat.le_refl _) _)
  go_enter Tryd.func4, Tryd.ntmps4
  go_wp2_with fail
  refine (HO.out _ (HT.out.below HB0.out)).mono ?_
  rintro e w1 ⟨rfl, hb⟩
  have Bs1 := Blk.on Bs0 hb
  have HB1 := hide (HB0.out.trans (hb.mono HB0.out.size))
  clear hb Bs0 HB0 
  obtain ⟨ys0, ys1, ys2, ys3, ys4, ys5⟩ := Bs1.out.six
  have lsx : w.heap.size < w1.heap.size := Bs1.out.lt
  have Bs2 := Blk.up Bs1 (.cells #[.string I, .int .i64 v, .int .i64 z, .string F, .string T, .int .i64 E] 23)
  have Bx2 := hide ((Blk.newAt w1 (w1.heap.size) (rfl) #[.string I, .int .i64 v, .int .i64 z, .string F, .string T, .int .i64 E] 23))
  have HB2 : Hid (Below w.heap.size w (w1.alloc (.cells #[.string I, .int .i64 v, .int .i64 z, .string F, .string T, .int .i64 E] 23))) := (HB1.out.alloc HB1.out.size _)
  clear Bs1 HB1 ys0 ys1 ys2 ys3 ys4 ys5
  obtain ⟨ys0, ys1, ys2, ys3, ys4, ys5⟩ := Bs2.out.six
  obtain ⟨yx0, yx1, yx2, yx3, yx4, yx5⟩ := Bx2.out.six
  have HTW := hide (HT.out.below HB2.out)
  clear HO HT
  go_wp2_with fail
  refine (qawake_any _ HTW.out).mono ?_
  rintro e w3 ⟨rfl, hb⟩
  have Bs3 := Blk.on Bs2 hb
  have Bx3 := Blk.on Bx2 hb
  have HB3 := hide (HB2.out.trans (hb.mono HB2.out.size))
  clear hb Bs2 Bx2 HB2 ys0 ys1 ys2 ys3 ys4 ys5 yx0 yx1 yx2 yx3 yx4 yx5
  obtain ⟨ys0, ys1, ys2, ys3, ys4, ys5⟩ := Bs3.out.six
  obtain ⟨yx0, yx1, yx2, yx3, yx4, yx5⟩ := Bx3.out.six
  go_wp2
  go_ret
  exact ⟨rfl, HB3.out⟩

set_option maxRecDepth 100000 in
set_option maxHeartbeats 8000000 in
theorem onou_mainz (n : Bool) (ti tf : ByteArray) (x : Int) (I : ByteArray) (v z : Int) (T : ByteArray) (E : Int) (w : World) (htab : Tab w) (hO : ∀ W, Tab W → Calls Tryd.prog 6 #[shV 0 n ti tf x false] W fun e w' => e = .returned (.tuple #[.agg #[.string I, .int .i64 v, .int .i64 z, .string ⟨#[48]⟩, .string T, .int .i64 E], .int .i64 0]) ∧ Below W.heap.size W w') (hO2 : ∀ W, Tab W → Calls Tryd.prog 6 #[shV 0 n ti (tf ++ ⟨#[48]⟩) x false] W fun e w' => e = .returned (.tuple #[.agg #[.string I, .int .i64 (v + 1), .int .i64 z, .string ⟨#[48]⟩, .string T, .int .i64 E], .int .i64 0]) ∧ Below W.heap.size W w') (hO3 : ∀ W, Tab W → Calls Tryd.prog 6 #[shV 0 (!n) (⟨#[48]⟩ ++ ti) tf x false] W fun e w' => e = .returned (.tuple #[.agg #[.string I, .int .i64 v, .int .i64 z, .string ⟨#[48]⟩, .string T, .int .i64 E], .int .i64 0]) ∧ Below W.heap.size W w') (h : tf.size < 4096) (g : ti.size < 4096) (v1 : 0 ≤ v) (v2 : v ≤ 10000) : Calls Tryd.prog 4 #[shV 0 n ti tf x false] w fun e w' => e = .returned (.bool true) ∧ Below w.heap.size w w' := by
  have HO := hide hO
  have HO2 := hide hO2
  have HO3 := hide hO3
  have HT := hide htab
  have h1 : decide (4096 ≤ (tf.size : Int)) = false := decide_eq_false (by omega)
  have h2 : decide (4096 ≤ (ti.size : Int)) = false := decide_eq_false (by omega)
  have s1 : ¬ 9223372036854775807 < tf.size + 1 := by omega
  have s2 : ¬ 9223372036854775807 < 1 + ti.size := by omega
  clear hO hO2 hO3 htab h g
  have Bs0 := hide (Blk.newAt w (w.heap.size) (rfl) #[.int .i64 0, .bool n, .string ti, .string tf, .int .i64 x, .bool false] 25)
  have HB0 : Hid (Below w.heap.size w (w.alloc (.cells #[.int .i64 0, .bool n, .string ti, .string tf, .int .i64 x, .bool false] 25))) := ((Below.refl _ _).alloc (Nat.le_refl _) _)
  go_enter Tryd.func4, Tryd.ntmps4
  go_wp2_with fail
  refine (HO.out _ (HT.out.below HB0.out)).mono ?_
  rintro e w1 ⟨rfl, hb⟩
  have Bs1 := Blk.on Bs0 hb
  have HB1 := hide (HB0.out.trans (hb.mono HB0.out.size))
  clear hb Bs0 HB0 
  obtain ⟨ys0, ys1, ys2, ys3, ys4, ys5⟩ := Bs1.out.six
  have HB1x := HB1
  have lsx : w.heap.size < w1.heap.size := Bs1.out.lt
  have Bs2 := Blk.up Bs1 (.cells #[.string I, .int .i64 v, .int .i64 z, .string ⟨#[48]⟩, .string T, .int .i64 E] 23)
  have Bx2 := hide ((Blk.newAt w1 (w1.heap.size) (rfl) #[.string I, .int .i64 v, .int .i64 z, .string ⟨#[48]⟩, .string T, .int .i64 E] 23))
  have HB2 : Hid (Below w.heap.size w (w1.alloc (.cells #[.string I, .int .i64 v, .int .i64 z, .string ⟨#[48]⟩, .string T, .int .i64 E] 23))) := (HB1.out.alloc HB1.out.size _)
  clear Bs1 HB1 ys0 ys1 ys2 ys3 ys4 ys5
  obtain ⟨ys0, ys1, ys2, ys3, ys4, ys5⟩ := Bs2.out.six
  obtain ⟨yx0, yx1, yx2, yx3, yx4, yx5⟩ := Bx2.out.six
  go_wp2_with fail
  refine (qawake_any _ (HT.out.below HB2.out)).mono ?_
  rintro e w3 ⟨rfl, hb⟩
  have Bs3 := Blk.on Bs2 hb
  have Bx3 := Blk.on Bx2 hb
  have HB3 := hide (HB2.out.trans (hb.mono HB2.out.size))
  clear hb Bs2 Bx2 HB2 ys0 ys1 ys2 ys3 ys4 ys5 yx0 yx1 yx2 yx3 yx4 yx5
  obtain ⟨ys0, ys1, ys2, ys3, ys4, ys5⟩ := Bs3.out.six
  obtain ⟨yx0, yx1, yx2, yx3, yx4, yx5⟩ := Bx3.out.six
  have lst : w.heap.size < w3.heap.size := Bs3.out.lt
  have lsn : ¬ w3.heap.size = w.heap.size := by omega
  have lsm : ¬ w.heap.size = w3.heap.size := by omega
  go_upto_region 11 with (fail)
  clear lst lsn lsm
  have Bs4 := hide (((Bs3.out.alloc (.cells #[.int .i64 0, .bool n, .string ti, .string (tf ++ ⟨#[48]⟩), .int .i64 x, .bool false] 25)).alloc (.cells #[.int .i64 0, .bool (!n), .string (⟨#[48]⟩ ++ ti), .string tf, .int .i64 x, .bool false] 25)))
  have Bx4 := hide (((Bx3.out.alloc (.cells #[.int .i64 0, .bool n, .string ti, .string (tf ++ ⟨#[48]⟩), .int .i64 x, .bool false] 25)).alloc (.cells #[.int .i64 0, .bool (!n), .string (⟨#[48]⟩ ++ ti), .string tf, .int .i64 x, .bool false] 25)))
  have Bt4 := hide (((Blk.newAt w3 (w3.heap.size) (rfl) #[.int .i64 0, .bool n, .string ti, .string (tf ++ ⟨#[48]⟩), .int .i64 x, .bool false] 25).alloc (.cells #[.int .i64 0, .bool (!n), .string (⟨#[48]⟩ ++ ti), .string tf, .int .i64 x, .bool false] 25)))
  have Bu4 := hide ((Blk.newAt (w3.alloc (.cells #[.int .i64 0, .bool n, .string ti, .string (tf ++ ⟨#[48]⟩), .int .i64 x, .bool false] 25)) (w3.heap.size + 1) (by simp) #[.int .i64 0, .bool (!n), .string (⟨#[48]⟩ ++ ti), .string tf, .int .i64 x, .bool false] 25))
  have HB4 : Hid (Below w.heap.size w ((w3.alloc (.cells #[.int .i64 0, .bool n, .string ti, .string (tf ++ ⟨#[48]⟩), .int .i64 x, .bool false] 25)).alloc (.cells #[.int .i64 0, .bool (!n), .string (⟨#[48]⟩ ++ ti), .string tf, .int .i64 x, .bool false] 25))) := ((HB3.out.alloc HB3.out.size _).alloc (by have := HB3.out.size; simp; omega) _)
  clear Bs3 Bx3 HB3 ys0 ys1 ys2 ys3 ys4 ys5 yx0 yx1 yx2 yx3 yx4 yx5
  obtain ⟨ys0, ys1, ys2, ys3, ys4, ys5⟩ := Bs4.out.six
  obtain ⟨yx0, yx1, yx2, yx3, yx4, yx5⟩ := Bx4.out.six
  obtain ⟨yt0, yt1, yt2, yt3, yt4, yt5⟩ := Bt4.out.six
  obtain ⟨yu0, yu1, yu2, yu3, yu4, yu5⟩ := Bu4.out.six
  go_wp2_with fail
  refine (HO2.out _ (HT.out.below HB4.out)).mono ?_
  rintro e w5 ⟨rfl, hb⟩
  have Bs5 := Blk.on Bs4 hb
  have Bx5 := Blk.on Bx4 hb
  have Bt5 := Blk.on Bt4 hb
  have Bu5 := Blk.on Bu4 hb
  have HB5 := hide (HB4.out.trans (hb.mono HB4.out.size))
  clear hb Bs4 Bx4 Bt4 Bu4 HB4 ys0 ys1 ys2 ys3 ys4 ys5 yx0 yx1 yx2 yx3 yx4 yx5 yt0 yt1 yt2 yt3 yt4 yt5 yu0 yu1 yu2 yu3 yu4 yu5
  obtain ⟨ys0, ys1, ys2, ys3, ys4, ys5⟩ := Bs5.out.six
  obtain ⟨yx0, yx1, yx2, yx3, yx4, yx5⟩ := Bx5.out.six
  obtain ⟨yt0, yt1, yt2, yt3, yt4, yt5⟩ := Bt5.out.six
  obtain ⟨yu0, yu1, yu2, yu3, yu4, yu5⟩ := Bu5.out.six
  have lxy : w1.heap.size < w5.heap.size := Bx5.out.lt
  have Bs6 := Blk.up Bs5 (.cells #[.string I, .int .i64 (v + 1), .int .i64 z, .string ⟨#[48]⟩, .string T, .int .i64 E] 23)
  have Bx6 := Blk.up Bx5 (.cells #[.string I, .int .i64 (v + 1), .int .i64 z, .string ⟨#[48]⟩, .string T, .int .i64 E] 23)
  have Bt6 := Blk.up Bt5 (.cells #[.string I, .int .i64 (v + 1), .int .i64 z, .string ⟨#[48]⟩, .string T, .int .i64 E] 23)
  have Bu6 := Blk.up Bu5 (.cells #[.string I, .int .i64 (v + 1), .int .i64 z, .string ⟨#[48]⟩, .string T, .int .i64 E] 23)
  have By6 := hide ((Blk.newAt w5 (w5.heap.size) (rfl) #[.string I, .int .i64 (v + 1), .int .i64 z, .string ⟨#[48]⟩, .string T, .int .i64 E] 23))
  have HB6 : Hid (Below w.heap.size w (w5.alloc (.cells #[.string I, .int .i64 (v + 1), .int .i64 z, .string ⟨#[48]⟩, .string T, .int .i64 E] 23))) := (HB5.out.alloc HB5.out.size _)
  clear Bs5 Bx5 Bt5 Bu5 HB5 ys0 ys1 ys2 ys3 ys4 ys5 yx0 yx1 yx2 yx3 yx4 yx5 yt0 yt1 yt2 yt3 yt4 yt5 yu0 yu1 yu2 yu3 yu4 yu5
  obtain ⟨ys0, ys1, ys2, ys3, ys4, ys5⟩ := Bs6.out.six
  obtain ⟨yx0, yx1, yx2, yx3, yx4, yx5⟩ := Bx6.out.six
  obtain ⟨yt0, yt1, yt2, yt3, yt4, yt5⟩ := Bt6.out.six
  obtain ⟨yu0, yu1, yu2, yu3, yu4, yu5⟩ := Bu6.out.six
  obtain ⟨yy0, yy1, yy2, yy3, yy4, yy5⟩ := By6.out.six
  go_wp2_with fail
  refine (HO3.out _ (HT.out.below HB6.out)).mono ?_
  rintro e w7 ⟨rfl, hb⟩
  have Bs7 := Blk.on Bs6 hb
  have Bx7 := Blk.on Bx6 hb
  have Bt7 := Blk.on Bt6 hb
  have Bu7 := Blk.on Bu6 hb
  have By7 := Blk.on By6 hb
  have HB7 := hide (HB6.out.trans (hb.mono HB6.out.size))
  clear hb Bs6 Bx6 Bt6 Bu6 By6 HB6 ys0 ys1 ys2 ys3 ys4 ys5 yx0 yx1 yx2 yx3 yx4 yx5 yt0 yt1 yt2 yt3 yt4 yt5 yu0 yu1 yu2 yu3 yu4 yu5 yy0 yy1 yy2 yy3 yy4 yy5
  obtain ⟨ys0, ys1, ys2, ys3, ys4, ys5⟩ := Bs7.out.six
  obtain ⟨yx0, yx1, yx2, yx3, yx4, yx5⟩ := Bx7.out.six
  obtain ⟨yt0, yt1, yt2, yt3, yt4, yt5⟩ := Bt7.out.six
  obtain ⟨yu0, yu1, yu2, yu3, yu4, yu5⟩ := Bu7.out.six
  obtain ⟨yy0, yy1, yy2, yy3, yy4, yy5⟩ := By7.out.six
  have lxq : w1.heap.size < w7.heap.size := Bx7.out.lt
  have Bs8 := Blk.up Bs7 (.cells #[.string I, .int .i64 v, .int .i64 z, .string ⟨#[48]⟩, .string T, .int .i64 E] 23)
  have Bx8 := Blk.up Bx7 (.cells #[.string I, .int .i64 v, .int .i64 z, .string ⟨#[48]⟩, .string T, .int .i64 E] 23)
  have Bt8 := Blk.up Bt7 (.cells #[.string I, .int .i64 v, .int .i64 z, .string ⟨#[48]⟩, .string T, .int .i64 E] 23)
  have Bu8 := Blk.up Bu7 (.cells #[.string I, .int .i64 v, .int .i64 z, .string ⟨#[48]⟩, .string T, .int .i64 E] 23)
  have By8 := Blk.up By7 (.cells #[.string I, .int .i64 v, .int .i64 z, .string ⟨#[48]⟩, .string T, .int .i64 E] 23)
  have Bq8 := hide ((Blk.newAt w7 (w7.heap.size) (rfl) #[.string I, .int .i64 v, .int .i64 z, .string ⟨#[48]⟩, .string T, .int .i64 E] 23))
  have HB8 : Hid (Below w.heap.size w (w7.alloc (.cells #[.string I, .int .i64 v, .int .i64 z, .string ⟨#[48]⟩, .string T, .int .i64 E] 23))) := (HB7.out.alloc HB7.out.size _)
  clear Bs7 Bx7 Bt7 Bu7 By7 HB7 ys0 ys1 ys2 ys3 ys4 ys5 yx0 yx1 yx2 yx3 yx4 yx5 yt0 yt1 yt2 yt3 yt4 yt5 yu0 yu1 yu2 yu3 yu4 yu5 yy0 yy1 yy2 yy3 yy4 yy5
  obtain ⟨ys0, ys1, ys2, ys3, ys4, ys5⟩ := Bs8.out.six
  obtain ⟨yx0, yx1, yx2, yx3, yx4, yx5⟩ := Bx8.out.six
  obtain ⟨yt0, yt1, yt2, yt3, yt4, yt5⟩ := Bt8.out.six
  obtain ⟨yu0, yu1, yu2, yu3, yu4, yu5⟩ := Bu8.out.six
  obtain ⟨yy0, yy1, yy2, yy3, yy4, yy5⟩ := By8.out.six
  obtain ⟨yq0, yq1, yq2, yq3, yq4, yq5⟩ := Bq8.out.six
  clear HO HO2 HO3 HT
  go_upto_region 13 with (fail)
  obtain ⟨V, hV⟩ : ∃ V, V = (w7.alloc (.cells #[.string I, .int .i64 v, .int .i64 z, .string ⟨#[48]⟩, .string T, .int .i64 E] 23)) := ⟨_, rfl⟩
  rw [← hV] at HB8 Bs8 Bx8 Bt8 Bu8 By8 Bq8 ys0 ys1 ys2 ys3 ys4 ys5 yx0 yx1 yx2 yx3 yx4 yx5 yt0 yt1 yt2 yt3 yt4 yt5 yu0 yu1 yu2 yu3 yu4 yu5 yy0 yy1 yy2 yy3 yy4 yy5 yq0 yq1 yq2 yq3 yq4 yq5
  simp only [← hV]
  clear hV
  have nxy : ¬ w1.heap.size = w5.heap.size := by omega
  have mxy : ¬ w5.heap.size = w1.heap.size := by omega
  have nxq : ¬ w1.heap.size = w7.heap.size := by omega
  have mxq : ¬ w7.heap.size = w1.heap.size := by omega
  have LX := hide (show w.heap.size ≤ w1.heap.size from HB1x.out.size)
  have fx1 := Bx8.out.free 1
  have fx3 := Bx8.out.free 3
  have BXE : Hid (Blk ((V.setCell ⟨w1.heap.size, 1, none⟩ (.int .i64 (v + 1))).setCell ⟨w1.heap.size, 1, none⟩ (.int .i64 v)) w1.heap.size #[.string I, .int .i64 v, .int .i64 z, .string ⟨#[48]⟩, .string T, .int .i64 E] 23) := ((Bx8.out.setC 1 (.int .i64 (v + 1))).setC 1 (.int .i64 v))
  have BQE : Hid (Blk ((V.setCell ⟨w1.heap.size, 1, none⟩ (.int .i64 (v + 1))).setCell ⟨w1.heap.size, 1, none⟩ (.int .i64 v)) w7.heap.size #[.string I, .int .i64 v, .int .i64 z, .string ⟨#[48]⟩, .string T, .int .i64 E] 23) := ((Bq8.out.other (a := ⟨w1.heap.size, 1, none⟩) nxq (.int .i64 (v + 1))).other (a := ⟨w1.heap.size, 1, none⟩) nxq (.int .i64 v))
  have HBE : Hid (Below w.heap.size w ((V.setCell ⟨w1.heap.size, 1, none⟩ (.int .i64 (v + 1))).setCell ⟨w1.heap.size, 1, none⟩ (.int .i64 v))) := ((HB8.out.setCell LX.out _).setCell LX.out _)
  go_upto_region 21 with (fail)
  obtain ⟨U, hU⟩ : ∃ U, U = ((V.setCell ⟨w1.heap.size, 1, none⟩ (.int .i64 (v + 1))).setCell ⟨w1.heap.size, 1, none⟩ (.int .i64 v)) := ⟨_, rfl⟩
  rw [← hU] at BXE BQE HBE
  simp only [← hU]
  clear hU ys0 ys1 ys2 ys3 ys4 ys5 yx0 yx1 yx2 yx3 yx4 yx5 yt0 yt1 yt2 yt3 yt4 yt5 yu0 yu1 yu2 yu3 yu4 yu5 yy0 yy1 yy2 yy3 yy4 yy5 yq0 yq1 yq2 yq3 yq4 yq5 Bs8 Bx8 Bt8 Bu8 By8 Bq8 HB8 fx1 fx3 LX
  obtain ⟨yx0, yx1, yx2, yx3, yx4, yx5⟩ := BXE.out.six
  obtain ⟨yq0, yq1, yq2, yq3, yq4, yq5⟩ := BQE.out.six
  clear BXE BQE
  go_wp2
  go_ret
  exact ⟨rfl, HBE.out⟩

set_option maxRecDepth 100000 in
set_option maxHeartbeats 8000000 in
theorem onou_mainn (n : Bool) (ti tf : ByteArray) (x : Int) (I : ByteArray) (v z : Int) (F G T : ByteArray) (E : Int) (w : World) (htab : Tab w) (hO : ∀ W, Tab W → Calls Tryd.prog 6 #[shV 0 n ti tf x false] W fun e w' => e = .returned (.tuple #[.agg #[.string I, .int .i64 v, .int .i64 z, .string F, .string T, .int .i64 E], .int .i64 0]) ∧ Below W.heap.size W w') (hO2 : ∀ W, Tab W → Calls Tryd.prog 6 #[shV 0 n ti (tf ++ ⟨#[48]⟩) x false] W fun e w' => e = .returned (.tuple #[.agg #[.string I, .int .i64 (v + 1), .int .i64 z, .string G, .string T, .int .i64 E], .int .i64 0]) ∧ Below W.heap.size W w') (hO3 : ∀ W, Tab W → Calls Tryd.prog 6 #[shV 0 (!n) (⟨#[48]⟩ ++ ti) tf x false] W fun e w' => e = .returned (.tuple #[.agg #[.string I, .int .i64 v, .int .i64 z, .string F, .string T, .int .i64 E], .int .i64 0]) ∧ Below W.heap.size W w') (h : tf.size < 4096) (g : ti.size < 4096) (v1 : 0 ≤ v) (v2 : v ≤ 10000) (hG : F ++ ⟨#[48]⟩ = G) (hF : bys F ≠ [48]) (hf1 : 1 ≤ F.size) (hf2 : F.size ≤ 10000) : Calls Tryd.prog 4 #[shV 0 n ti tf x false] w fun e w' => e = .returned (.bool true) ∧ Below w.heap.size w w' := by
  have HO := hide hO
  have HO2 := hide hO2
  have HO3 := hide hO3
  have HT := hide htab
  have h1 : decide (4096 ≤ (tf.size : Int)) = false := decide_eq_false (by omega)
  have h2 : decide (4096 ≤ (ti.size : Int)) = false := decide_eq_false (by omega)
  have s1 : ¬ 9223372036854775807 < tf.size + 1 := by omega
  have s2 : ¬ 9223372036854775807 < 1 + ti.size := by omega
  clear hO hO2 hO3 htab h g
  have s3 : ¬ 9223372036854775807 < F.size + 1 := by omega
  have q1 := ne_nought hF
  have q2 : (G.toList == [48]) = false := ne_nought (by rw [← hG, bys_append]; intro e; have := congrArg List.length e; rw [List.length_append, bys_len, bys_len] at this; change F.size + 1 = 1 at this; omega)
  have e1 : G.size = F.size + 1 := by rw [← hG, ByteArray.size_append]; rfl
  have e2 : G.extract 0 F.size = F := bys_inj (by rw [bys_to, ← hG, bys_append, List.take_left' (bys_len F)])
  have e3 : (F.size : Int) ≤ (F.size : Int) + 1 := by omega
  clear hF
  have Bs0 := hide (Blk.newAt w (w.heap.size) (rfl) #[.int .i64 0, .bool n, .string ti, .string tf, .int .i64 x, .bool false] 25)
  have HB0 : Hid (Below w.heap.size w (w.alloc (.cells #[.int .i64 0, .bool n, .string ti, .string tf, .int .i64 x, .bool false] 25))) := ((Below.refl _ _).alloc (Nat.le_refl _) _)
  go_enter Tryd.func4, Tryd.ntmps4
  go_wp2_with fail
  refine (HO.out _ (HT.out.below HB0.out)).mono ?_
  rintro e w1 ⟨rfl, hb⟩
  have Bs1 := Blk.on Bs0 hb
  have HB1 := hide (HB0.out.trans (hb.mono HB0.out.size))
  clear hb Bs0 HB0 
  obtain ⟨ys0, ys1, ys2, ys3, ys4, ys5⟩ := Bs1.out.six
  have HB1x := HB1
  have lsx : w.heap.size < w1.heap.size := Bs1.out.lt
  have Bs2 := Blk.up Bs1 (.cells #[.string I, .int .i64 v, .int .i64 z, .string F, .string T, .int .i64 E] 23)
  have Bx2 := hide ((Blk.newAt w1 (w1.heap.size) (rfl) #[.string I, .int .i64 v, .int .i64 z, .string F, .string T, .int .i64 E] 23))
  have HB2 : Hid (Below w.heap.size w (w1.alloc (.cells #[.string I, .int .i64 v, .int .i64 z, .string F, .string T, .int .i64 E] 23))) := (HB1.out.alloc HB1.out.size _)
  clear Bs1 HB1 ys0 ys1 ys2 ys3 ys4 ys5
  obtain ⟨ys0, ys1, ys2, ys3, ys4, ys5⟩ := Bs2.out.six
  obtain ⟨yx0, yx1, yx2, yx3, yx4, yx5⟩ := Bx2.out.six
  go_wp2_with fail
  refine (qawake_any _ (HT.out.below HB2.out)).mono ?_
  rintro e w3 ⟨rfl, hb⟩
  have Bs3 := Blk.on Bs2 hb
  have Bx3 := Blk.on Bx2 hb
  have HB3 := hide (HB2.out.trans (hb.mono HB2.out.size))
  clear hb Bs2 Bx2 HB2 ys0 ys1 ys2 ys3 ys4 ys5 yx0 yx1 yx2 yx3 yx4 yx5
  obtain ⟨ys0, ys1, ys2, ys3, ys4, ys5⟩ := Bs3.out.six
  obtain ⟨yx0, yx1, yx2, yx3, yx4, yx5⟩ := Bx3.out.six
  have lst : w.heap.size < w3.heap.size := Bs3.out.lt
  have lsn : ¬ w3.heap.size = w.heap.size := by omega
  have lsm : ¬ w.heap.size = w3.heap.size := by omega
  go_upto_region 11 with (fail)
  clear lst lsn lsm
  have Bs4 := hide (((Bs3.out.alloc (.cells #[.int .i64 0, .bool n, .string ti, .string (tf ++ ⟨#[48]⟩), .int .i64 x, .bool false] 25)).alloc (.cells #[.int .i64 0, .bool (!n), .string (⟨#[48]⟩ ++ ti), .string tf, .int .i64 x, .bool false] 25)))
  have Bx4 := hide (((Bx3.out.alloc (.cells #[.int .i64 0, .bool n, .string ti, .string (tf ++ ⟨#[48]⟩), .int .i64 x, .bool false] 25)).alloc (.cells #[.int .i64 0, .bool (!n), .string (⟨#[48]⟩ ++ ti), .string tf, .int .i64 x, .bool false] 25)))
  have Bt4 := hide (((Blk.newAt w3 (w3.heap.size) (rfl) #[.int .i64 0, .bool n, .string ti, .string (tf ++ ⟨#[48]⟩), .int .i64 x, .bool false] 25).alloc (.cells #[.int .i64 0, .bool (!n), .string (⟨#[48]⟩ ++ ti), .string tf, .int .i64 x, .bool false] 25)))
  have Bu4 := hide ((Blk.newAt (w3.alloc (.cells #[.int .i64 0, .bool n, .string ti, .string (tf ++ ⟨#[48]⟩), .int .i64 x, .bool false] 25)) (w3.heap.size + 1) (by simp) #[.int .i64 0, .bool (!n), .string (⟨#[48]⟩ ++ ti), .string tf, .int .i64 x, .bool false] 25))
  have HB4 : Hid (Below w.heap.size w ((w3.alloc (.cells #[.int .i64 0, .bool n, .string ti, .string (tf ++ ⟨#[48]⟩), .int .i64 x, .bool false] 25)).alloc (.cells #[.int .i64 0, .bool (!n), .string (⟨#[48]⟩ ++ ti), .string tf, .int .i64 x, .bool false] 25))) := ((HB3.out.alloc HB3.out.size _).alloc (by have := HB3.out.size; simp; omega) _)
  clear Bs3 Bx3 HB3 ys0 ys1 ys2 ys3 ys4 ys5 yx0 yx1 yx2 yx3 yx4 yx5
  obtain ⟨ys0, ys1, ys2, ys3, ys4, ys5⟩ := Bs4.out.six
  obtain ⟨yx0, yx1, yx2, yx3, yx4, yx5⟩ := Bx4.out.six
  obtain ⟨yt0, yt1, yt2, yt3, yt4, yt5⟩ := Bt4.out.six
  obtain ⟨yu0, yu1, yu2, yu3, yu4, yu5⟩ := Bu4.out.six
  go_wp2_with fail
  refine (HO2.out _ (HT.out.below HB4.out)).mono ?_
  rintro e w5 ⟨rfl, hb⟩
  have Bs5 := Blk.on Bs4 hb
  have Bx5 := Blk.on Bx4 hb
  have Bt5 := Blk.on Bt4 hb
  have Bu5 := Blk.on Bu4 hb
  have HB5 := hide (HB4.out.trans (hb.mono HB4.out.size))
  clear hb Bs4 Bx4 Bt4 Bu4 HB4 ys0 ys1 ys2 ys3 ys4 ys5 yx0 yx1 yx2 yx3 yx4 yx5 yt0 yt1 yt2 yt3 yt4 yt5 yu0 yu1 yu2 yu3 yu4 yu5
  obtain ⟨ys0, ys1, ys2, ys3, ys4, ys5⟩ := Bs5.out.six
  obtain ⟨yx0, yx1, yx2, yx3, yx4, yx5⟩ := Bx5.out.six
  obtain ⟨yt0, yt1, yt2, yt3, yt4, yt5⟩ := Bt5.out.six
  obtain ⟨yu0, yu1, yu2, yu3, yu4, yu5⟩ := Bu5.out.six
  have lxy : w1.heap.size < w5.heap.size := Bx5.out.lt
  have Bs6 := Blk.up Bs5 (.cells #[.string I, .int .i64 (v + 1), .int .i64 z, .string G, .string T, .int .i64 E] 23)
  have Bx6 := Blk.up Bx5 (.cells #[.string I, .int .i64 (v + 1), .int .i64 z, .string G, .string T, .int .i64 E] 23)
  have Bt6 := Blk.up Bt5 (.cells #[.string I, .int .i64 (v + 1), .int .i64 z, .string G, .string T, .int .i64 E] 23)
  have Bu6 := Blk.up Bu5 (.cells #[.string I, .int .i64 (v + 1), .int .i64 z, .string G, .string T, .int .i64 E] 23)
  have By6 := hide ((Blk.newAt w5 (w5.heap.size) (rfl) #[.string I, .int .i64 (v + 1), .int .i64 z, .string G, .string T, .int .i64 E] 23))
  have HB6 : Hid (Below w.heap.size w (w5.alloc (.cells #[.string I, .int .i64 (v + 1), .int .i64 z, .string G, .string T, .int .i64 E] 23))) := (HB5.out.alloc HB5.out.size _)
  clear Bs5 Bx5 Bt5 Bu5 HB5 ys0 ys1 ys2 ys3 ys4 ys5 yx0 yx1 yx2 yx3 yx4 yx5 yt0 yt1 yt2 yt3 yt4 yt5 yu0 yu1 yu2 yu3 yu4 yu5
  obtain ⟨ys0, ys1, ys2, ys3, ys4, ys5⟩ := Bs6.out.six
  obtain ⟨yx0, yx1, yx2, yx3, yx4, yx5⟩ := Bx6.out.six
  obtain ⟨yt0, yt1, yt2, yt3, yt4, yt5⟩ := Bt6.out.six
  obtain ⟨yu0, yu1, yu2, yu3, yu4, yu5⟩ := Bu6.out.six
  obtain ⟨yy0, yy1, yy2, yy3, yy4, yy5⟩ := By6.out.six
  go_wp2_with fail
  refine (HO3.out _ (HT.out.below HB6.out)).mono ?_
  rintro e w7 ⟨rfl, hb⟩
  have Bs7 := Blk.on Bs6 hb
  have Bx7 := Blk.on Bx6 hb
  have Bt7 := Blk.on Bt6 hb
  have Bu7 := Blk.on Bu6 hb
  have By7 := Blk.on By6 hb
  have HB7 := hide (HB6.out.trans (hb.mono HB6.out.size))
  clear hb Bs6 Bx6 Bt6 Bu6 By6 HB6 ys0 ys1 ys2 ys3 ys4 ys5 yx0 yx1 yx2 yx3 yx4 yx5 yt0 yt1 yt2 yt3 yt4 yt5 yu0 yu1 yu2 yu3 yu4 yu5 yy0 yy1 yy2 yy3 yy4 yy5
  obtain ⟨ys0, ys1, ys2, ys3, ys4, ys5⟩ := Bs7.out.six
  obtain ⟨yx0, yx1, yx2, yx3, yx4, yx5⟩ := Bx7.out.six
  obtain ⟨yt0, yt1, yt2, yt3, yt4, yt5⟩ := Bt7.out.six
  obtain ⟨yu0, yu1, yu2, yu3, yu4, yu5⟩ := Bu7.out.six
  obtain ⟨yy0, yy1, yy2, yy3, yy4, yy5⟩ := By7.out.six
  have lxq : w1.heap.size < w7.heap.size := Bx7.out.lt
  have Bs8 := Blk.up Bs7 (.cells #[.string I, .int .i64 v, .int .i64 z, .string F, .string T, .int .i64 E] 23)
  have Bx8 := Blk.up Bx7 (.cells #[.string I, .int .i64 v, .int .i64 z, .string F, .string T, .int .i64 E] 23)
  have Bt8 := Blk.up Bt7 (.cells #[.string I, .int .i64 v, .int .i64 z, .string F, .string T, .int .i64 E] 23)
  have Bu8 := Blk.up Bu7 (.cells #[.string I, .int .i64 v, .int .i64 z, .string F, .string T, .int .i64 E] 23)
  have By8 := Blk.up By7 (.cells #[.string I, .int .i64 v, .int .i64 z, .string F, .string T, .int .i64 E] 23)
  have Bq8 := hide ((Blk.newAt w7 (w7.heap.size) (rfl) #[.string I, .int .i64 v, .int .i64 z, .string F, .string T, .int .i64 E] 23))
  have HB8 : Hid (Below w.heap.size w (w7.alloc (.cells #[.string I, .int .i64 v, .int .i64 z, .string F, .string T, .int .i64 E] 23))) := (HB7.out.alloc HB7.out.size _)
  clear Bs7 Bx7 Bt7 Bu7 By7 HB7 ys0 ys1 ys2 ys3 ys4 ys5 yx0 yx1 yx2 yx3 yx4 yx5 yt0 yt1 yt2 yt3 yt4 yt5 yu0 yu1 yu2 yu3 yu4 yu5 yy0 yy1 yy2 yy3 yy4 yy5
  obtain ⟨ys0, ys1, ys2, ys3, ys4, ys5⟩ := Bs8.out.six
  obtain ⟨yx0, yx1, yx2, yx3, yx4, yx5⟩ := Bx8.out.six
  obtain ⟨yt0, yt1, yt2, yt3, yt4, yt5⟩ := Bt8.out.six
  obtain ⟨yu0, yu1, yu2, yu3, yu4, yu5⟩ := Bu8.out.six
  obtain ⟨yy0, yy1, yy2, yy3, yy4, yy5⟩ := By8.out.six
  obtain ⟨yq0, yq1, yq2, yq3, yq4, yq5⟩ := Bq8.out.six
  clear HO HO2 HO3 HT
  go_upto_region 13 with (fail)
  obtain ⟨V, hV⟩ : ∃ V, V = (w7.alloc (.cells #[.string I, .int .i64 v, .int .i64 z, .string F, .string T, .int .i64 E] 23)) := ⟨_, rfl⟩
  rw [← hV] at HB8 Bs8 Bx8 Bt8 Bu8 By8 Bq8 ys0 ys1 ys2 ys3 ys4 ys5 yx0 yx1 yx2 yx3 yx4 yx5 yt0 yt1 yt2 yt3 yt4 yt5 yu0 yu1 yu2 yu3 yu4 yu5 yy0 yy1 yy2 yy3 yy4 yy5 yq0 yq1 yq2 yq3 yq4 yq5
  simp only [← hV]
  clear hV
  have nxy : ¬ w1.heap.size = w5.heap.size := by omega
  have mxy : ¬ w5.heap.size = w1.heap.size := by omega
  have nxq : ¬ w1.heap.size = w7.heap.size := by omega
  have mxq : ¬ w7.heap.size = w1.heap.size := by omega
  have LX := hide (show w.heap.size ≤ w1.heap.size from HB1x.out.size)
  have fx1 := Bx8.out.free 1
  have fx3 := Bx8.out.free 3
  have BXE : Hid (Blk ((((V.setCell ⟨w1.heap.size, 1, none⟩ (.int .i64 (v + 1))).setCell ⟨w1.heap.size, 3, none⟩ (.string G)).setCell ⟨w1.heap.size, 1, none⟩ (.int .i64 v)).setCell ⟨w1.heap.size, 3, none⟩ (.string F)) w1.heap.size #[.string I, .int .i64 v, .int .i64 z, .string F, .string T, .int .i64 E] 23) := ((((Bx8.out.setC 1 (.int .i64 (v + 1))).setC 3 (.string G)).setC 1 (.int .i64 v)).setC 3 (.string F))
  have BQE : Hid (Blk ((((V.setCell ⟨w1.heap.size, 1, none⟩ (.int .i64 (v + 1))).setCell ⟨w1.heap.size, 3, none⟩ (.string G)).setCell ⟨w1.heap.size, 1, none⟩ (.int .i64 v)).setCell ⟨w1.heap.size, 3, none⟩ (.string F)) w7.heap.size #[.string I, .int .i64 v, .int .i64 z, .string F, .string T, .int .i64 E] 23) := ((((Bq8.out.other (a := ⟨w1.heap.size, 1, none⟩) nxq (.int .i64 (v + 1))).other (a := ⟨w1.heap.size, 3, none⟩) nxq (.string G)).other (a := ⟨w1.heap.size, 1, none⟩) nxq (.int .i64 v)).other (a := ⟨w1.heap.size, 3, none⟩) nxq (.string F))
  have HBE : Hid (Below w.heap.size w ((((V.setCell ⟨w1.heap.size, 1, none⟩ (.int .i64 (v + 1))).setCell ⟨w1.heap.size, 3, none⟩ (.string G)).setCell ⟨w1.heap.size, 1, none⟩ (.int .i64 v)).setCell ⟨w1.heap.size, 3, none⟩ (.string F))) := ((((HB8.out.setCell LX.out _).setCell LX.out _).setCell LX.out _).setCell LX.out _)
  go_upto_region 21 with (fail)
  obtain ⟨U, hU⟩ : ∃ U, U = ((((V.setCell ⟨w1.heap.size, 1, none⟩ (.int .i64 (v + 1))).setCell ⟨w1.heap.size, 3, none⟩ (.string G)).setCell ⟨w1.heap.size, 1, none⟩ (.int .i64 v)).setCell ⟨w1.heap.size, 3, none⟩ (.string F)) := ⟨_, rfl⟩
  rw [← hU] at BXE BQE HBE
  simp only [← hU]
  clear hU ys0 ys1 ys2 ys3 ys4 ys5 yx0 yx1 yx2 yx3 yx4 yx5 yt0 yt1 yt2 yt3 yt4 yt5 yu0 yu1 yu2 yu3 yu4 yu5 yy0 yy1 yy2 yy3 yy4 yy5 yq0 yq1 yq2 yq3 yq4 yq5 Bs8 Bx8 Bt8 Bu8 By8 Bq8 HB8 fx1 fx3 LX
  obtain ⟨yx0, yx1, yx2, yx3, yx4, yx5⟩ := BXE.out.six
  obtain ⟨yq0, yq1, yq2, yq3, yq4, yq5⟩ := BQE.out.six
  clear BXE BQE
  go_wp2
  go_ret
  exact ⟨rfl, HBE.out⟩

theorem app_two (l m : List UInt8) : (⟨(l ++ m).toArray⟩ : ByteArray) = ⟨l.toArray⟩ ++ ⟨m.toArray⟩ := bys_inj (by rw [bys_append, bys_mk (l ++ m), bys_mk l, bys_mk m])

theorem has_more {n : Bool} {a b : List UInt8} {x : Int} (h : HasO ⟨0, n, a, b, x, false⟩) (hb : b.length < 4096) : HasO ⟨0, n, a, b ++ [48], x, false⟩ := by
  obtain ⟨⟨hx, h2⟩, hc, he⟩ := h
  rcases h2 with ⟨_, _, h3, ⟨_, h6⟩⟩ | ⟨h1, _⟩ | ⟨h1, _⟩
  · exact ⟨⟨hx, .inl ⟨rfl, .inr (by simp), h3, ⟨by simp only [List.length_append, List.length_singleton]; omega, h6.append (digB_rep 1)⟩⟩⟩, rfl, fun g => by cases g⟩
  · exact absurd (show (0 : Int) = 1 from h1) (by decide)
  · exact absurd (show (0 : Int) = 2 from h1) (by decide)

theorem has_ahead {n n' : Bool} {a b : List UInt8} {x : Int} (h : HasO ⟨0, n, a, b, x, false⟩) (ha : a.length < 4096) : HasO ⟨0, n', 48 :: a, b, x, false⟩ := by
  obtain ⟨⟨hx, h2⟩, hc, he⟩ := h
  rcases h2 with ⟨_, _, ⟨_, h4⟩, h5⟩ | ⟨h1, _⟩ | ⟨h1, _⟩
  · exact ⟨⟨hx, .inl ⟨rfl, .inl (by simp), ⟨by simp only [List.length_cons]; omega, (digB_rep 1).append h4⟩, h5⟩⟩, rfl, fun g => by cases g⟩
  · exact absurd (show (0 : Int) = 1 from h1) (by decide)
  · exact absurd (show (0 : Int) = 2 from h1) (by decide)

theorem onou_walk (w : World) (htab : Tab w) (c : Int) (n : Bool) (ti tf : ByteArray) (x : Int) (cm : Bool) : Calls Tryd.prog 4 #[shV c n ti tf x cm] w fun e w' => e = .returned (.bool true) ∧ Below w.heap.size w w' := by
  have hO := fun W hW => Of_any c n ti tf x cm W hW
  by_cases h : HasO ⟨c, n, bys ti, bys tf, x, cm⟩
  rotate_left
  · rw [ofS_no h] at hO
    exact onou_e c n ti tf x cm _ _ _ _ _ _ w htab hO
  rw [ofS_yes h] at hO
  cases cm
  rotate_left
  · exact onou_c c n ti tf x _ _ _ _ _ _ w htab hO
  by_cases h1 : tf.size < 4096
  rotate_left
  · exact onou_f c n ti tf x _ _ _ _ _ _ w htab hO (by omega)
  by_cases h2 : ti.size < 4096
  rotate_left
  · exact onou_i c n ti tf x _ _ _ _ _ _ w htab hO h1 (by omega)
  obtain rfl : c = 0 := h.2.1
  have m1 := has_more h (by rw [bys_len]; exact h1)
  have m2 := has_ahead (n' := !n) h (by rw [bys_len]; exact h2)
  have hO2 := fun W hW => Of_any 0 n ti (tf ++ ⟨#[48]⟩) x false W hW
  have e1 : bys (tf ++ ⟨#[48]⟩) = bys tf ++ [48] := by rw [bys_append]; rfl
  have hO3 := fun W hW => Of_any 0 (!n) (⟨#[48]⟩ ++ ti) tf x false W hW
  have e2 : bys (⟨#[48]⟩ ++ ti) = 48 :: bys ti := by rw [bys_append]; rfl
  rw [e1, ofS_yes m1, oper_more] at hO2
  rw [e2, ofS_yes m2, oper_ahead (n := n)] at hO3
  obtain ⟨⟨v1, v2⟩, _, _, _, hf, _⟩ := oper_may h
  generalize operS ⟨0, n, bys ti, bys tf, x, false⟩ = p at hO hO2 hO3 v1 v2 hf
  obtain ⟨pi, pv, pw, pf, pt, pe⟩ := p
  simp only at hO hO2 hO3 v1 v2 hf
  by_cases hz : pf = [48]
  · subst hz
    rw [if_pos rfl] at hO2
    exact onou_mainz n ti tf x ⟨pi.toArray⟩ pv pw ⟨pt.toArray⟩ pe w htab hO hO2 hO3 h1 h2 v1 (by omega)
  · rw [if_neg hz] at hO2
    unfold opErr opVal at hO2
    simp only at hO2
    rw [app_two pf [48]] at hO2
    obtain ⟨g1, g2, _, _⟩ := hf.resolve_left hz
    have hl := List.length_pos_iff.2 g1
    exact onou_mainn n ti tf x ⟨pi.toArray⟩ pv pw ⟨pf.toArray⟩ (⟨pf.toArray⟩ ++ ⟨#[48]⟩) ⟨pt.toArray⟩ pe w htab hO hO2 hO3 h1 h2 v1 (by omega) rfl (by rw [bys_mk pf]; exact hz) (by rw [size_mk0]; omega) (by rw [size_mk0]; omega)

end Go.Proofs.YtobloamnaemfnaaDoor

namespace Go.Proofs.YtobloamnaemfnaaDoor
open Go.RowKit

theorem tg : Tryd.prog.globalNamed "internal/strconv.uint64pow10" = some 0 := by kernel_rfl
theorem tgt : (Tryd.prog.globals[0]?).map (·.type) = some 105 := by kernel_rfl
theorem tc20 : Tryd.prog.cellsOf 105 = 20 := by kernel_rfl
theorem tc1 : Tryd.prog.cellsOf 80 = 1 := by kernel_rfl

theorem table {W : World} (h : laidMetH Tryd.prog [("math/bits.deBruijn32tab", Rows.laid_math_bits_deBruijn32tab), ("math/bits.deBruijn64tab", Rows.laid_math_bits_deBruijn64tab), ("internal/strconv.uint64pow10", Rows.laid_internal_strconv_uint64pow10), ("unicode/utf8.acceptRanges", Rows.laid_unicode_utf8_acceptRanges), ("strconv.ErrRange", Rows.laid_strconv_ErrRange), ("strconv.ErrSyntax", Rows.laid_strconv_ErrSyntax), ("unicode/utf8.first", Rows.laid_unicode_utf8_first)] W) : Tab W := by
  have h' : laidMet Tryd.prog [("math/bits.deBruijn32tab", Rows.laid_math_bits_deBruijn32tab), ("math/bits.deBruijn64tab", Rows.laid_math_bits_deBruijn64tab), ("internal/strconv.uint64pow10", Rows.laid_internal_strconv_uint64pow10), ("unicode/utf8.acceptRanges", Rows.laid_unicode_utf8_acceptRanges), ("strconv.ErrRange", Rows.laid_strconv_ErrRange), ("strconv.ErrSyntax", Rows.laid_strconv_ErrSyntax), ("unicode/utf8.first", Rows.laid_unicode_utf8_first)] W := h
  obtain ⟨ps, ⟨_, _, _, _, _, q1, _, _, _, _, ⟨_, _, _, _, _, q2, _, _, _, _, ⟨g', t', cs, fuel, p3, q3, hg', ht', hvar, hd, _, _⟩, _⟩, _⟩, _⟩ := h'
  obtain rfl := Option.some.inj (tg.symm.trans hg')
  obtain rfl := Option.some.inj (tgt.symm.trans ht')
  unfold Tab Lib.TabIs
  have hd' : DataW.trod (fun _ => ()) Tryd.prog W 0 (fun _ => true) false fuel 105 cs.toList = some (Lib.tabData .u64 Lib.pow10Tab, p3) := hd
  rw [hvar, ← Lib.cells_of_tab Tryd.underlying105 Tryd.underlying80 tc1 tc20 hd']

def tabVals : DataW Unit → Array Value
  | .agg l => (l.flatMap fun
      | .lit (.int k z) => [Value.int k z]
      | .agg l2 => l2.map fun
        | .lit (.int k z) => Value.int k z
        | _ => .int .u8 0
      | _ => []).toArray
  | _ => #[]

def putVals (d : DataW Unit) : Obj → Obj
  | .cells _ t frozen => .cells (tabVals d) t frozen
  | o => o

def errText : DataW Unit → ByteArray
  | .iface _ (.ptr (.agg [.lit (.string l)])) => ⟨l.toArray⟩
  | _ => ⟨#[]⟩

def putErr (b : Nat) : Obj → Obj
  | .cells _ t frozen => .cells #[.iface 131 (.pointer (some ⟨b, 0, none⟩))] t frozen
  | o => o

noncomputable def laidWorld (os : Os) : World :=
  { World.holding Tryd.prog os ⟨#[], #[], []⟩ with
    heap := (((((((((World.holding Tryd.prog os ⟨#[], #[], []⟩).heap.modify 6 (putVals Rows.laid_math_bits_deBruijn32tab)).modify 7 (putVals Rows.laid_math_bits_deBruijn64tab)).modify 0 (putVals Rows.laid_internal_strconv_uint64pow10)).modify 5 (putVals Rows.laid_unicode_utf8_acceptRanges)).modify 4 (putVals Rows.laid_unicode_utf8_first)).modify 3 (putErr (World.holding Tryd.prog os ⟨#[], #[], []⟩).heap.size)).modify 2 (putErr ((World.holding Tryd.prog os ⟨#[], #[], []⟩).heap.size + 1))).push (.cells #[.string (errText Rows.laid_strconv_ErrRange)] 133)).push (.cells #[.string (errText Rows.laid_strconv_ErrSyntax)] 133) }

end Go.Proofs.YtobloamnaemfnaaDoor
