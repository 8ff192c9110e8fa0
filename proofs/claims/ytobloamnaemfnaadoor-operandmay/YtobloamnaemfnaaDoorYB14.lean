/-
  What operand's hasOperands and Of do.
  What operand's May does.
  quipulaw08's awake answers true.
-/
import Derived.Test.YtobloamnaemfnaaDoorYB12
import Derived.Test.YtobloamnaemfnaaDoorYB13
namespace Go.Proofs.YtobloamnaemfnaaDoor
open Go.RowKit

abbrev opV (i : ByteArray) (v z : Int) (f t : ByteArray) (e : Int) : Value := .agg #[.string i, .int .i64 v, .int .i64 z, .string f, .string t, .int .i64 e]
def opVal (x : OperT) : Value := opV ⟨x.i.toArray⟩ x.v x.w ⟨x.f.toArray⟩ ⟨x.t.toArray⟩ x.e
def opErr (p : OperT × Int) : Value := .tuple #[opVal p.1, .int .i64 p.2]

theorem extract_mk (l : List UInt8) (n : Nat) : (⟨l.toArray⟩ : ByteArray).extract 0 n = ⟨(l.take n).toArray⟩ := by
  have h := mk_bys ((⟨l.toArray⟩ : ByteArray).extract 0 n)
  rw [bys_to, bys_mk] at h
  exact h.symm

theorem results_opr2 {fn : Func} {a c : Tmp} (h : fn.results = #[.cell a 23, .tmp c]) (tmps : Array Value) (H : Nat) (x0 x1 x2 x3 x4 x5 : Value) (w : World) (ht : tmps.getD a undef = .pointer (some ⟨H, 0, none⟩)) (hp : Blk w H #[x0, x1, x2, x3, x4, x5] 23) :
    (results fn tmps).run Tryd.prog w = .ok (.tuple #[.agg #[x0, x1, x2, x3, x4, x5], tmps.getD c undef]) w := by
  have c0 := hp.cell 0
  have c1 := hp.cell 1
  have c2 := hp.cell 2
  have c3 := hp.cell 3
  have c4 := hp.cell 4
  have c5 := hp.cell 5
  simp at c0 c1 c2 c3 c4 c5
  rw [Array.getD_eq_getD_getElem?] at ht
  simp [results, h, ht, go_sem, c0, c1, c2, c3, c4, c5]

set_option maxHeartbeats 1000000 in
theorem has_no (c : Int) (n : Bool) (ti tf : ByteArray) (x : Int) (cm : Bool) (cx : Int) (nx : Bool) (tx : ByteArray) (ex : Int) (w : World) (htab : Tab w) (hV : ∀ W, Tab W → Calls Tryd.prog 10 #[shV c n ti tf x cm] W fun e w' => e = .returned (.tuple #[.agg #[.int .i64 cx, .bool nx, .string tx, .int .i64 ex], .int .i64 71]) ∧ Below W.heap.size W w')  : Calls Tryd.prog 12 #[shV c n ti tf x cm] w fun e w' => e = .returned (.bool false) ∧ Below w.heap.size w w' := by
  have HV := hide hV
  have HT := hide htab
  clear hV htab
  have Bs0 := hide (Blk.newAt w (w.heap.size) (rfl) #[.int .i64 c, .bool n, .string ti, .string tf, .int .i64 x, .bool cm] 25)
  have HB0 : Hid (Below w.heap.size w (w.alloc (.cells #[.int .i64 c, .bool n, .string ti, .string tf, .int .i64 x, .bool cm] 25))) := ((Below.refl _ _).alloc (Nat.le_refl _) _)
  go_enter Tryd.func12, Tryd.ntmps12
  go_wp2_with fail
  refine (HV.out _ (HT.out.below HB0.out)).mono ?_
  rintro e w1 ⟨rfl, hb⟩
  have Bs1 := Blk.on Bs0 hb
  have HB1 := hide (HB0.out.trans (hb.mono HB0.out.size))
  clear hb Bs0 HB0 
  obtain ⟨ys0, ys1, ys2, ys3, ys4, ys5⟩ := Bs1.out.six
  have Bs2 := Blk.up Bs1 (.cells #[.int .i64 cx, .bool nx, .string tx, .int .i64 ex] 34)
  have Bd2 := hide ((Blk.newAt w1 (w1.heap.size) (rfl) #[.int .i64 cx, .bool nx, .string tx, .int .i64 ex] 34))
  have HB2 : Hid (Below w.heap.size w (w1.alloc (.cells #[.int .i64 cx, .bool nx, .string tx, .int .i64 ex] 34))) := (HB1.out.alloc HB1.out.size _)
  clear Bs1 HB1 ys0 ys1 ys2 ys3 ys4 ys5
  obtain ⟨ys0, ys1, ys2, ys3, ys4, ys5⟩ := Bs2.out.six
  obtain ⟨yd0, yd1, yd2, yd3⟩ := Bd2.out.four
  go_wp2
  go_ret
  exact ⟨rfl, HB2.out⟩

set_option maxHeartbeats 1000000 in
theorem has_p0 (n : Bool) (ti tf : ByteArray) (x cx : Int) (nx : Bool) (tx : ByteArray) (ex : Int) (w : World) (htab : Tab w) (hV : ∀ W, Tab W → Calls Tryd.prog 10 #[shV 0 n ti tf x false] W fun e w' => e = .returned (.tuple #[.agg #[.int .i64 cx, .bool nx, .string tx, .int .i64 ex], .int .i64 0]) ∧ Below W.heap.size W w')  : Calls Tryd.prog 12 #[shV 0 n ti tf x false] w fun e w' => e = .returned (.bool true) ∧ Below w.heap.size w w' := by
  have HV := hide hV
  have HT := hide htab
  clear hV htab
  have Bs0 := hide (Blk.newAt w (w.heap.size) (rfl) #[.int .i64 0, .bool n, .string ti, .string tf, .int .i64 x, .bool false] 25)
  have HB0 : Hid (Below w.heap.size w (w.alloc (.cells #[.int .i64 0, .bool n, .string ti, .string tf, .int .i64 x, .bool false] 25))) := ((Below.refl _ _).alloc (Nat.le_refl _) _)
  go_enter Tryd.func12, Tryd.ntmps12
  go_wp2_with fail
  refine (HV.out _ (HT.out.below HB0.out)).mono ?_
  rintro e w1 ⟨rfl, hb⟩
  have Bs1 := Blk.on Bs0 hb
  have HB1 := hide (HB0.out.trans (hb.mono HB0.out.size))
  clear hb Bs0 HB0 
  obtain ⟨ys0, ys1, ys2, ys3, ys4, ys5⟩ := Bs1.out.six
  have Bs2 := Blk.up Bs1 (.cells #[.int .i64 cx, .bool nx, .string tx, .int .i64 ex] 34)
  have Bd2 := hide ((Blk.newAt w1 (w1.heap.size) (rfl) #[.int .i64 cx, .bool nx, .string tx, .int .i64 ex] 34))
  have HB2 : Hid (Below w.heap.size w (w1.alloc (.cells #[.int .i64 cx, .bool nx, .string tx, .int .i64 ex] 34))) := (HB1.out.alloc HB1.out.size _)
  clear Bs1 HB1 ys0 ys1 ys2 ys3 ys4 ys5
  obtain ⟨ys0, ys1, ys2, ys3, ys4, ys5⟩ := Bs2.out.six
  obtain ⟨yd0, yd1, yd2, yd3⟩ := Bd2.out.four
  go_wp2
  go_ret
  exact ⟨rfl, HB2.out⟩

set_option maxHeartbeats 1000000 in
theorem has_c0 (n : Bool) (ti tf : ByteArray) (x cx : Int) (nx : Bool) (tx : ByteArray) (ex : Int) (w : World) (htab : Tab w) (hV : ∀ W, Tab W → Calls Tryd.prog 10 #[shV 0 n ti tf x true] W fun e w' => e = .returned (.tuple #[.agg #[.int .i64 cx, .bool nx, .string tx, .int .i64 ex], .int .i64 0]) ∧ Below W.heap.size W w') (h : 0 ≤ x) : Calls Tryd.prog 12 #[shV 0 n ti tf x true] w fun e w' => e = .returned (.bool true) ∧ Below w.heap.size w w' := by
  have HV := hide hV
  have HT := hide htab
  clear hV htab
  have h2 : decide (0 ≤ x) = true := decide_eq_true h
  have Bs0 := hide (Blk.newAt w (w.heap.size) (rfl) #[.int .i64 0, .bool n, .string ti, .string tf, .int .i64 x, .bool true] 25)
  have HB0 : Hid (Below w.heap.size w (w.alloc (.cells #[.int .i64 0, .bool n, .string ti, .string tf, .int .i64 x, .bool true] 25))) := ((Below.refl _ _).alloc (Nat.le_refl _) _)
  go_enter Tryd.func12, Tryd.ntmps12
  go_wp2_with fail
  refine (HV.out _ (HT.out.below HB0.out)).mono ?_
  rintro e w1 ⟨rfl, hb⟩
  have Bs1 := Blk.on Bs0 hb
  have HB1 := hide (HB0.out.trans (hb.mono HB0.out.size))
  clear hb Bs0 HB0 
  obtain ⟨ys0, ys1, ys2, ys3, ys4, ys5⟩ := Bs1.out.six
  have Bs2 := Blk.up Bs1 (.cells #[.int .i64 cx, .bool nx, .string tx, .int .i64 ex] 34)
  have Bd2 := hide ((Blk.newAt w1 (w1.heap.size) (rfl) #[.int .i64 cx, .bool nx, .string tx, .int .i64 ex] 34))
  have HB2 : Hid (Below w.heap.size w (w1.alloc (.cells #[.int .i64 cx, .bool nx, .string tx, .int .i64 ex] 34))) := (HB1.out.alloc HB1.out.size _)
  clear Bs1 HB1 ys0 ys1 ys2 ys3 ys4 ys5
  obtain ⟨ys0, ys1, ys2, ys3, ys4, ys5⟩ := Bs2.out.six
  obtain ⟨yd0, yd1, yd2, yd3⟩ := Bd2.out.four
  go_wp2
  go_ret
  exact ⟨rfl, HB2.out⟩

set_option maxHeartbeats 1000000 in
theorem has_n0 (n : Bool) (ti tf : ByteArray) (x cx : Int) (nx : Bool) (tx : ByteArray) (ex : Int) (w : World) (htab : Tab w) (hV : ∀ W, Tab W → Calls Tryd.prog 10 #[shV 0 n ti tf x true] W fun e w' => e = .returned (.tuple #[.agg #[.int .i64 cx, .bool nx, .string tx, .int .i64 ex], .int .i64 0]) ∧ Below W.heap.size W w') (h : ¬ 0 ≤ x) : Calls Tryd.prog 12 #[shV 0 n ti tf x true] w fun e w' => e = .returned (.bool false) ∧ Below w.heap.size w w' := by
  have HV := hide hV
  have HT := hide htab
  clear hV htab
  have h2 : decide (0 ≤ x) = false := decide_eq_false h
  have Bs0 := hide (Blk.newAt w (w.heap.size) (rfl) #[.int .i64 0, .bool n, .string ti, .string tf, .int .i64 x, .bool true] 25)
  have HB0 : Hid (Below w.heap.size w (w.alloc (.cells #[.int .i64 0, .bool n, .string ti, .string tf, .int .i64 x, .bool true] 25))) := ((Below.refl _ _).alloc (Nat.le_refl _) _)
  go_enter Tryd.func12, Tryd.ntmps12
  go_wp2_with fail
  refine (HV.out _ (HT.out.below HB0.out)).mono ?_
  rintro e w1 ⟨rfl, hb⟩
  have Bs1 := Blk.on Bs0 hb
  have HB1 := hide (HB0.out.trans (hb.mono HB0.out.size))
  clear hb Bs0 HB0 
  obtain ⟨ys0, ys1, ys2, ys3, ys4, ys5⟩ := Bs1.out.six
  have Bs2 := Blk.up Bs1 (.cells #[.int .i64 cx, .bool nx, .string tx, .int .i64 ex] 34)
  have Bd2 := hide ((Blk.newAt w1 (w1.heap.size) (rfl) #[.int .i64 cx, .bool nx, .string tx, .int .i64 ex] 34))
  have HB2 : Hid (Below w.heap.size w (w1.alloc (.cells #[.int .i64 cx, .bool nx, .string tx, .int .i64 ex] 34))) := (HB1.out.alloc HB1.out.size _)
  clear Bs1 HB1 ys0 ys1 ys2 ys3 ys4 ys5
  obtain ⟨ys0, ys1, ys2, ys3, ys4, ys5⟩ := Bs2.out.six
  obtain ⟨yd0, yd1, yd2, yd3⟩ := Bd2.out.four
  go_wp2
  go_ret
  exact ⟨rfl, HB2.out⟩

set_option maxHeartbeats 1000000 in
theorem has_p51 (n : Bool) (ti tf : ByteArray) (x cx : Int) (nx : Bool) (tx : ByteArray) (ex : Int) (w : World) (htab : Tab w) (hV : ∀ W, Tab W → Calls Tryd.prog 10 #[shV 0 n ti tf x false] W fun e w' => e = .returned (.tuple #[.agg #[.int .i64 cx, .bool nx, .string tx, .int .i64 ex], .int .i64 51]) ∧ Below W.heap.size W w')  : Calls Tryd.prog 12 #[shV 0 n ti tf x false] w fun e w' => e = .returned (.bool true) ∧ Below w.heap.size w w' := by
  have HV := hide hV
  have HT := hide htab
  clear hV htab
  have Bs0 := hide (Blk.newAt w (w.heap.size) (rfl) #[.int .i64 0, .bool n, .string ti, .string tf, .int .i64 x, .bool false] 25)
  have HB0 : Hid (Below w.heap.size w (w.alloc (.cells #[.int .i64 0, .bool n, .string ti, .string tf, .int .i64 x, .bool false] 25))) := ((Below.refl _ _).alloc (Nat.le_refl _) _)
  go_enter Tryd.func12, Tryd.ntmps12
  go_wp2_with fail
  refine (HV.out _ (HT.out.below HB0.out)).mono ?_
  rintro e w1 ⟨rfl, hb⟩
  have Bs1 := Blk.on Bs0 hb
  have HB1 := hide (HB0.out.trans (hb.mono HB0.out.size))
  clear hb Bs0 HB0 
  obtain ⟨ys0, ys1, ys2, ys3, ys4, ys5⟩ := Bs1.out.six
  have Bs2 := Blk.up Bs1 (.cells #[.int .i64 cx, .bool nx, .string tx, .int .i64 ex] 34)
  have Bd2 := hide ((Blk.newAt w1 (w1.heap.size) (rfl) #[.int .i64 cx, .bool nx, .string tx, .int .i64 ex] 34))
  have HB2 : Hid (Below w.heap.size w (w1.alloc (.cells #[.int .i64 cx, .bool nx, .string tx, .int .i64 ex] 34))) := (HB1.out.alloc HB1.out.size _)
  clear Bs1 HB1 ys0 ys1 ys2 ys3 ys4 ys5
  obtain ⟨ys0, ys1, ys2, ys3, ys4, ys5⟩ := Bs2.out.six
  obtain ⟨yd0, yd1, yd2, yd3⟩ := Bd2.out.four
  go_wp2
  go_ret
  exact ⟨rfl, HB2.out⟩

set_option maxHeartbeats 1000000 in
theorem has_c51 (n : Bool) (ti tf : ByteArray) (x cx : Int) (nx : Bool) (tx : ByteArray) (ex : Int) (w : World) (htab : Tab w) (hV : ∀ W, Tab W → Calls Tryd.prog 10 #[shV 0 n ti tf x true] W fun e w' => e = .returned (.tuple #[.agg #[.int .i64 cx, .bool nx, .string tx, .int .i64 ex], .int .i64 51]) ∧ Below W.heap.size W w') (h : 0 ≤ x) : Calls Tryd.prog 12 #[shV 0 n ti tf x true] w fun e w' => e = .returned (.bool true) ∧ Below w.heap.size w w' := by
  have HV := hide hV
  have HT := hide htab
  clear hV htab
  have h2 : decide (0 ≤ x) = true := decide_eq_true h
  have Bs0 := hide (Blk.newAt w (w.heap.size) (rfl) #[.int .i64 0, .bool n, .string ti, .string tf, .int .i64 x, .bool true] 25)
  have HB0 : Hid (Below w.heap.size w (w.alloc (.cells #[.int .i64 0, .bool n, .string ti, .string tf, .int .i64 x, .bool true] 25))) := ((Below.refl _ _).alloc (Nat.le_refl _) _)
  go_enter Tryd.func12, Tryd.ntmps12
  go_wp2_with fail
  refine (HV.out _ (HT.out.below HB0.out)).mono ?_
  rintro e w1 ⟨rfl, hb⟩
  have Bs1 := Blk.on Bs0 hb
  have HB1 := hide (HB0.out.trans (hb.mono HB0.out.size))
  clear hb Bs0 HB0 
  obtain ⟨ys0, ys1, ys2, ys3, ys4, ys5⟩ := Bs1.out.six
  have Bs2 := Blk.up Bs1 (.cells #[.int .i64 cx, .bool nx, .string tx, .int .i64 ex] 34)
  have Bd2 := hide ((Blk.newAt w1 (w1.heap.size) (rfl) #[.int .i64 cx, .bool nx, .string tx, .int .i64 ex] 34))
  have HB2 : Hid (Below w.heap.size w (w1.alloc (.cells #[.int .i64 cx, .bool nx, .string tx, .int .i64 ex] 34))) := (HB1.out.alloc HB1.out.size _)
  clear Bs1 HB1 ys0 ys1 ys2 ys3 ys4 ys5
  obtain ⟨ys0, ys1, ys2, ys3, ys4, ys5⟩ := Bs2.out.six
  obtain ⟨yd0, yd1, yd2, yd3⟩ := Bd2.out.four
  go_wp2
  go_ret
  exact ⟨rfl, HB2.out⟩

set_option maxHeartbeats 1000000 in
theorem has_n51 (n : Bool) (ti tf : ByteArray) (x cx : Int) (nx : Bool) (tx : ByteArray) (ex : Int) (w : World) (htab : Tab w) (hV : ∀ W, Tab W → Calls Tryd.prog 10 #[shV 0 n ti tf x true] W fun e w' => e = .returned (.tuple #[.agg #[.int .i64 cx, .bool nx, .string tx, .int .i64 ex], .int .i64 51]) ∧ Below W.heap.size W w') (h : ¬ 0 ≤ x) : Calls Tryd.prog 12 #[shV 0 n ti tf x true] w fun e w' => e = .returned (.bool false) ∧ Below w.heap.size w w' := by
  have HV := hide hV
  have HT := hide htab
  clear hV htab
  have h2 : decide (0 ≤ x) = false := decide_eq_false h
  have Bs0 := hide (Blk.newAt w (w.heap.size) (rfl) #[.int .i64 0, .bool n, .string ti, .string tf, .int .i64 x, .bool true] 25)
  have HB0 : Hid (Below w.heap.size w (w.alloc (.cells #[.int .i64 0, .bool n, .string ti, .string tf, .int .i64 x, .bool true] 25))) := ((Below.refl _ _).alloc (Nat.le_refl _) _)
  go_enter Tryd.func12, Tryd.ntmps12
  go_wp2_with fail
  refine (HV.out _ (HT.out.below HB0.out)).mono ?_
  rintro e w1 ⟨rfl, hb⟩
  have Bs1 := Blk.on Bs0 hb
  have HB1 := hide (HB0.out.trans (hb.mono HB0.out.size))
  clear hb Bs0 HB0 
  obtain ⟨ys0, ys1, ys2, ys3, ys4, ys5⟩ := Bs1.out.six
  have Bs2 := Blk.up Bs1 (.cells #[.int .i64 cx, .bool nx, .string tx, .int .i64 ex] 34)
  have Bd2 := hide ((Blk.newAt w1 (w1.heap.size) (rfl) #[.int .i64 cx, .bool nx, .string tx, .int .i64 ex] 34))
  have HB2 : Hid (Below w.heap.size w (w1.alloc (.cells #[.int .i64 cx, .bool nx, .string tx, .int .i64 ex] 34))) := (HB1.out.alloc HB1.out.size _)
  clear Bs1 HB1 ys0 ys1 ys2 ys3 ys4 ys5
  obtain ⟨ys0, ys1, ys2, ys3, ys4, ys5⟩ := Bs2.out.six
  obtain ⟨yd0, yd1, yd2, yd3⟩ := Bd2.out.four
  go_wp2
  go_ret
  exact ⟨rfl, HB2.out⟩

set_option maxHeartbeats 1000000 in
theorem has_k1 (n : Bool) (ti tf : ByteArray) (x : Int) (cm : Bool) (cx : Int) (nx : Bool) (tx : ByteArray) (ex : Int) (w : World) (htab : Tab w) (hV : ∀ W, Tab W → Calls Tryd.prog 10 #[shV 1 n ti tf x cm] W fun e w' => e = .returned (.tuple #[.agg #[.int .i64 cx, .bool nx, .string tx, .int .i64 ex], .int .i64 0]) ∧ Below W.heap.size W w')  : Calls Tryd.prog 12 #[shV 1 n ti tf x cm] w fun e w' => e = .returned (.bool false) ∧ Below w.heap.size w w' := by
  have HV := hide hV
  have HT := hide htab
  clear hV htab
  have Bs0 := hide (Blk.newAt w (w.heap.size) (rfl) #[.int .i64 1, .bool n, .string ti, .string tf, .int .i64 x, .bool cm] 25)
  have HB0 : Hid (Below w.heap.size w (w.alloc (.cells #[.int .i64 1, .bool n, .string ti, .string tf, .int .i64 x, .bool cm] 25))) := ((Below.refl _ _).alloc (Nat.le_refl _) _)
  go_enter Tryd.func12, Tryd.ntmps12
  go_wp2_with fail
  refine (HV.out _ (HT.out.below HB0.out)).mono ?_
  rintro e w1 ⟨rfl, hb⟩
  have Bs1 := Blk.on Bs0 hb
  have HB1 := hide (HB0.out.trans (hb.mono HB0.out.size))
  clear hb Bs0 HB0 
  obtain ⟨ys0, ys1, ys2, ys3, ys4, ys5⟩ := Bs1.out.six
  have Bs2 := Blk.up Bs1 (.cells #[.int .i64 cx, .bool nx, .string tx, .int .i64 ex] 34)
  have Bd2 := hide ((Blk.newAt w1 (w1.heap.size) (rfl) #[.int .i64 cx, .bool nx, .string tx, .int .i64 ex] 34))
  have HB2 : Hid (Below w.heap.size w (w1.alloc (.cells #[.int .i64 cx, .bool nx, .string tx, .int .i64 ex] 34))) := (HB1.out.alloc HB1.out.size _)
  clear Bs1 HB1 ys0 ys1 ys2 ys3 ys4 ys5
  obtain ⟨ys0, ys1, ys2, ys3, ys4, ys5⟩ := Bs2.out.six
  obtain ⟨yd0, yd1, yd2, yd3⟩ := Bd2.out.four
  go_wp2
  go_ret
  exact ⟨rfl, HB2.out⟩

set_option maxHeartbeats 1000000 in
theorem has_k2 (n : Bool) (ti tf : ByteArray) (x : Int) (cm : Bool) (cx : Int) (nx : Bool) (tx : ByteArray) (ex : Int) (w : World) (htab : Tab w) (hV : ∀ W, Tab W → Calls Tryd.prog 10 #[shV 2 n ti tf x cm] W fun e w' => e = .returned (.tuple #[.agg #[.int .i64 cx, .bool nx, .string tx, .int .i64 ex], .int .i64 0]) ∧ Below W.heap.size W w')  : Calls Tryd.prog 12 #[shV 2 n ti tf x cm] w fun e w' => e = .returned (.bool false) ∧ Below w.heap.size w w' := by
  have HV := hide hV
  have HT := hide htab
  clear hV htab
  have Bs0 := hide (Blk.newAt w (w.heap.size) (rfl) #[.int .i64 2, .bool n, .string ti, .string tf, .int .i64 x, .bool cm] 25)
  have HB0 : Hid (Below w.heap.size w (w.alloc (.cells #[.int .i64 2, .bool n, .string ti, .string tf, .int .i64 x, .bool cm] 25))) := ((Below.refl _ _).alloc (Nat.le_refl _) _)
  go_enter Tryd.func12, Tryd.ntmps12
  go_wp2_with fail
  refine (HV.out _ (HT.out.below HB0.out)).mono ?_
  rintro e w1 ⟨rfl, hb⟩
  have Bs1 := Blk.on Bs0 hb
  have HB1 := hide (HB0.out.trans (hb.mono HB0.out.size))
  clear hb Bs0 HB0 
  obtain ⟨ys0, ys1, ys2, ys3, ys4, ys5⟩ := Bs1.out.six
  have Bs2 := Blk.up Bs1 (.cells #[.int .i64 cx, .bool nx, .string tx, .int .i64 ex] 34)
  have Bd2 := hide ((Blk.newAt w1 (w1.heap.size) (rfl) #[.int .i64 cx, .bool nx, .string tx, .int .i64 ex] 34))
  have HB2 : Hid (Below w.heap.size w (w1.alloc (.cells #[.int .i64 cx, .bool nx, .string tx, .int .i64 ex] 34))) := (HB1.out.alloc HB1.out.size _)
  clear Bs1 HB1 ys0 ys1 ys2 ys3 ys4 ys5
  obtain ⟨ys0, ys1, ys2, ys3, ys4, ys5⟩ := Bs2.out.six
  obtain ⟨yd0, yd1, yd2, yd3⟩ := Bd2.out.four
  go_wp2
  go_ret
  exact ⟨rfl, HB2.out⟩

theorem val_err {s : ShownT} (h : MayS s) : (valueS s).2 = 0 ∨ (valueS s).2 = 51 := by
  unfold valueS
  rw [if_neg (fun g => g h)]
  split
  · exact .inl rfl
  · unfold tellF
    split
    · exact .inl rfl
    · exact .inr rfl

theorem has_T (c : Int) (n : Bool) (ti tf : ByteArray) (x : Int) (cm : Bool) (w : World) (htab : Tab w) (h : HasO ⟨c, n, bys ti, bys tf, x, cm⟩) : Calls Tryd.prog 12 #[shV c n ti tf x cm] w fun e w' => e = .returned (.bool true) ∧ Below w.heap.size w w' := by
  obtain ⟨hm, hc, he⟩ := h
  simp only at hc he
  subst hc
  have hV := fun W hW => Value_any 0 n ti tf x cm W hW
  have hr := val_err hm
  generalize valueS ⟨0, n, bys ti, bys tf, x, cm⟩ = V at hV hr
  obtain ⟨d, r⟩ := V
  replace hr : r = 0 ∨ r = 51 := hr
  cases cm
  · rcases hr with rfl | rfl
    · exact has_p0 n ti tf x _ _ _ _ w htab hV
    · exact has_p51 n ti tf x _ _ _ _ w htab hV
  · rcases hr with rfl | rfl
    · exact has_c0 n ti tf x _ _ _ _ w htab hV (he rfl)
    · exact has_c51 n ti tf x _ _ _ _ w htab hV (he rfl)

theorem has_F (c : Int) (n : Bool) (ti tf : ByteArray) (x : Int) (cm : Bool) (w : World) (htab : Tab w) (h : ¬ HasO ⟨c, n, bys ti, bys tf, x, cm⟩) : Calls Tryd.prog 12 #[shV c n ti tf x cm] w fun e w' => e = .returned (.bool false) ∧ Below w.heap.size w w' := by
  have hV := fun W hW => Value_any c n ti tf x cm W hW
  by_cases hm : MayS ⟨c, n, bys ti, bys tf, x, cm⟩
  · have hr := val_err hm
    have hcl : c = 0 ∨ c = 1 ∨ c = 2 := by
      rcases hm.2 with ⟨h1, _⟩ | ⟨h1, _⟩ | ⟨h1, _⟩
      · exact .inl h1
      · exact .inr (.inl h1)
      · exact .inr (.inr h1)
    rcases hcl with rfl | rfl | rfl
    · cases cm
      · exact absurd ⟨hm, rfl, fun g => by cases g⟩ h
      · have he : ¬ 0 ≤ x := fun g => h ⟨hm, rfl, fun _ => g⟩
        generalize valueS ⟨0, n, bys ti, bys tf, x, true⟩ = V at hV hr
        obtain ⟨d, r⟩ := V
        replace hr : r = 0 ∨ r = 51 := hr
        rcases hr with rfl | rfl
        · exact has_n0 n ti tf x _ _ _ _ w htab hV he
        · exact has_n51 n ti tf x _ _ _ _ w htab hV he
    · have e : (valueS ⟨1, n, bys ti, bys tf, x, cm⟩).2 = 0 := by unfold valueS; rw [if_neg (fun g => g hm), if_pos (show (1 : Int) ≠ 0 by decide)]
      generalize valueS ⟨1, n, bys ti, bys tf, x, cm⟩ = V at hV e
      obtain ⟨d, r⟩ := V
      obtain rfl : r = 0 := e
      exact has_k1 n ti tf x cm _ _ _ _ w htab hV
    · have e : (valueS ⟨2, n, bys ti, bys tf, x, cm⟩).2 = 0 := by unfold valueS; rw [if_neg (fun g => g hm), if_pos (show (2 : Int) ≠ 0 by decide)]
      generalize valueS ⟨2, n, bys ti, bys tf, x, cm⟩ = V at hV e
      obtain ⟨d, r⟩ := V
      obtain rfl : r = 0 := e
      exact has_k2 n ti tf x cm _ _ _ _ w htab hV
  · have e : (valueS ⟨c, n, bys ti, bys tf, x, cm⟩).2 = 71 := by unfold valueS; rw [if_pos hm]
    generalize valueS ⟨c, n, bys ti, bys tf, x, cm⟩ = V at hV e
    obtain ⟨d, r⟩ := V
    obtain rfl : r = 71 := e
    exact has_no c n ti tf x cm _ _ _ _ w htab hV

set_option maxHeartbeats 1000000 in
theorem of_no (c : Int) (n : Bool) (ti tf : ByteArray) (x : Int) (cm : Bool) (w : World) (htab : Tab w) (h : ¬ HasO ⟨c, n, bys ti, bys tf, x, cm⟩) : Calls Tryd.prog 6 #[shV c n ti tf x cm] w fun e w' => e = .returned (.tuple #[.agg #[.string ⟨#[]⟩, .int .i64 0, .int .i64 0, .string ⟨#[]⟩, .string ⟨#[]⟩, .int .i64 0], .int .i64 80]) ∧ Below w.heap.size w w' := by
  have HH := hide (fun W hW => has_F c n ti tf x cm W hW h)
  have HT := hide htab
  clear h htab
  have Bs0 := hide ((Blk.newAt w (w.heap.size) (rfl) #[.int .i64 c, .bool n, .string ti, .string tf, .int .i64 x, .bool cm] 25).alloc (.cells #[.string ⟨#[]⟩, .int .i64 0, .int .i64 0, .string ⟨#[]⟩, .string ⟨#[]⟩, .int .i64 0] 23))
  have Br0 := hide (Blk.newAt (w.alloc (.cells #[.int .i64 c, .bool n, .string ti, .string tf, .int .i64 x, .bool cm] 25)) (w.heap.size + 1) (by simp) #[.string ⟨#[]⟩, .int .i64 0, .int .i64 0, .string ⟨#[]⟩, .string ⟨#[]⟩, .int .i64 0] 23)
  have HB0 : Hid (Below w.heap.size w ((w.alloc (.cells #[.int .i64 c, .bool n, .string ti, .string tf, .int .i64 x, .bool cm] 25)).alloc (.cells #[.string ⟨#[]⟩, .int .i64 0, .int .i64 0, .string ⟨#[]⟩, .string ⟨#[]⟩, .int .i64 0] 23))) := (((Below.refl _ _).alloc (Nat.le_refl _) _).alloc (by simp <;> omega) _)
  go_enter Tryd.func6, Tryd.ntmps6
  go_wp2_with fail
  refine (HH.out _ (HT.out.below HB0.out)).mono ?_
  rintro e w1 ⟨rfl, hb⟩
  have Bs1 := Blk.on Bs0 hb
  have Br1 := Blk.on Br0 hb
  have HB1 := hide (HB0.out.trans (hb.mono HB0.out.size))
  clear hb Bs0 Br0 HB0 
  obtain ⟨ys0, ys1, ys2, ys3, ys4, ys5⟩ := Bs1.out.six
  obtain ⟨yr0, yr1, yr2, yr3, yr4, yr5⟩ := Br1.out.six
  have fr0 := Br1.out.free 0
  have fr1 := Br1.out.free 1
  have fr2 := Br1.out.free 2
  have fr3 := Br1.out.free 3
  have fr4 := Br1.out.free 4
  have fr5 := Br1.out.free 5
  go_wp2
  refine bodyPost_ret (results_opr2 rfl _ _ _ _ _ _ _ _ _ rfl (Br1.out.put6 _ _ _ _ _ _)) rfl ?_
  exact ⟨rfl, below_put6 (HB1.out) (by omega) _ _ _ _ _ _⟩

set_option maxHeartbeats 4000000 in
theorem of_false (n : Bool) (ti tf : ByteArray) (x : Int) (A B I F T : ByteArray) (q : Nat) (w : World) (htab : Tab w) (hH : ∀ W, Tab W → Calls Tryd.prog 12 #[shV 0 n ti tf x false] W fun e w' => e = .returned (.bool true) ∧ Below W.heap.size W w') (hM : ∀ W, Calls Tryd.prog 13 #[.string ti, .string tf, .int .i64 0] W fun e w' => e = .returned (.tuple #[.string A, .string B]) ∧ Below W.heap.size W w') (hK : ∀ W, Calls Tryd.prog 14 #[.string B] W fun e w' => e = .returned (.tuple #[.int .i64 (B.size : Int), .int .i64 (q : Int)]) ∧ Below W.heap.size W w') (hq : q ≤ B.size) (hI : ∀ W, Calls Tryd.prog 15 #[.string A] W fun e w' => e = .returned (.string I) ∧ Below W.heap.size W w') (hF : ∀ W, Calls Tryd.prog 15 #[.string B] W fun e w' => e = .returned (.string F) ∧ Below W.heap.size W w') (hN : ∀ W, Calls Tryd.prog 15 #[.string (B.extract 0 q)] W fun e w' => e = .returned (.string T) ∧ Below W.heap.size W w') : Calls Tryd.prog 6 #[shV 0 n ti tf x false] w fun e w' => e = .returned (.tuple #[.agg #[.string I, .int .i64 (B.size : Int), .int .i64 (q : Int), .string F, .string T, .int .i64 0], .int .i64 0]) ∧ Below w.heap.size w w' := by
  have HH := hide hH
  have HM := hide hM
  have HK := hide hK
  have HI := hide hI
  have HF := hide hF
  have HN := hide hN
  have HT := hide htab
  have hq1 : (q : Int) ≤ (B.size : Int) := by omega
  clear hH hM hK hI hF hN htab hq
  have Bs0 := hide ((Blk.newAt w (w.heap.size) (rfl) #[.int .i64 0, .bool n, .string ti, .string tf, .int .i64 x, .bool false] 25).alloc (.cells #[.string ⟨#[]⟩, .int .i64 0, .int .i64 0, .string ⟨#[]⟩, .string ⟨#[]⟩, .int .i64 0] 23))
  have Br0 := hide (Blk.newAt (w.alloc (.cells #[.int .i64 0, .bool n, .string ti, .string tf, .int .i64 x, .bool false] 25)) (w.heap.size + 1) (by simp) #[.string ⟨#[]⟩, .int .i64 0, .int .i64 0, .string ⟨#[]⟩, .string ⟨#[]⟩, .int .i64 0] 23)
  have HB0 : Hid (Below w.heap.size w ((w.alloc (.cells #[.int .i64 0, .bool n, .string ti, .string tf, .int .i64 x, .bool false] 25)).alloc (.cells #[.string ⟨#[]⟩, .int .i64 0, .int .i64 0, .string ⟨#[]⟩, .string ⟨#[]⟩, .int .i64 0] 23))) := (((Below.refl _ _).alloc (Nat.le_refl _) _).alloc (by simp <;> omega) _)
  go_enter Tryd.func6, Tryd.ntmps6
  go_wp2_with fail
  refine (HH.out _ (HT.out.below HB0.out)).mono ?_
  rintro e w1 ⟨rfl, hb⟩
  have Bs1 := Blk.on Bs0 hb
  have Br1 := Blk.on Br0 hb
  have HB1 := hide (HB0.out.trans (hb.mono HB0.out.size))
  clear hb Bs0 Br0 HB0 
  obtain ⟨ys0, ys1, ys2, ys3, ys4, ys5⟩ := Bs1.out.six
  obtain ⟨yr0, yr1, yr2, yr3, yr4, yr5⟩ := Br1.out.six
  go_wp2_with fail
  refine (HM.out _).mono ?_
  rintro e w2 ⟨rfl, hb⟩
  have Bs2 := Blk.on Bs1 hb
  have Br2 := Blk.on Br1 hb
  have HB2 := hide (HB1.out.trans (hb.mono HB1.out.size))
  clear hb Bs1 Br1 HB1 ys0 ys1 ys2 ys3 ys4 ys5 yr0 yr1 yr2 yr3 yr4 yr5
  obtain ⟨ys0, ys1, ys2, ys3, ys4, ys5⟩ := Bs2.out.six
  obtain ⟨yr0, yr1, yr2, yr3, yr4, yr5⟩ := Br2.out.six
  go_wp2_with fail
  refine (HK.out _).mono ?_
  rintro e w3 ⟨rfl, hb⟩
  have Bs3 := Blk.on Bs2 hb
  have Br3 := Blk.on Br2 hb
  have HB3 := hide (HB2.out.trans (hb.mono HB2.out.size))
  clear hb Bs2 Br2 HB2 ys0 ys1 ys2 ys3 ys4 ys5 yr0 yr1 yr2 yr3 yr4 yr5
  obtain ⟨ys0, ys1, ys2, ys3, ys4, ys5⟩ := Bs3.out.six
  obtain ⟨yr0, yr1, yr2, yr3, yr4, yr5⟩ := Br3.out.six
  clear HH HM HK HT
  have HL : Hid (w.heap.size < w3.heap.size ∧ w.heap.size + 1 < w3.heap.size) := ⟨Bs3.out.lt, Br3.out.lt⟩
  obtain ⟨G, hG⟩ : ∃ G, G = w.heap.size + 1 := ⟨_, rfl⟩
  have gn0 : ¬ G = w.heap.size := by omega
  have gn1 : ¬ w.heap.size = G := by omega
  have gle : w.heap.size ≤ G := by omega
  have HG := hide hG
  rw [← hG] at Br3
  clear hG HL ys0 ys1 ys2 ys3 ys4 ys5 yr0 yr1 yr2 yr3 yr4 yr5
  have d0 : w3.cell? ⟨w.heap.size, 0, none⟩ = some (.int .i64 0) := Bs3.out.cell 0
  have HC : Hid (∀ w', Below w3.heap.size w3 w' → w'.cell? ⟨w.heap.size, 0, none⟩ = some (.int .i64 0) ∧ w'.cell? ⟨G, 0, none⟩ = some (.string ⟨#[]⟩) ∧ w'.cell? ⟨G, 1, none⟩ = some (.int .i64 0) ∧ w'.cell? ⟨G, 2, none⟩ = some (.int .i64 0) ∧ w'.cell? ⟨G, 3, none⟩ = some (.string ⟨#[]⟩) ∧ w'.cell? ⟨G, 4, none⟩ = some (.string ⟨#[]⟩) ∧ w'.cell? ⟨G, 5, none⟩ = some (.int .i64 0) ∧ w'.frozen? ⟨G, 0, none⟩ = false ∧ w'.frozen? ⟨G, 1, none⟩ = false ∧ w'.frozen? ⟨G, 2, none⟩ = false ∧ w'.frozen? ⟨G, 3, none⟩ = false ∧ w'.frozen? ⟨G, 4, none⟩ = false ∧ w'.frozen? ⟨G, 5, none⟩ = false) := by
    intro w' hb
    have Bs3q := Bs3.out.below hb Bs3.out.lt
    have Br3q := Br3.out.below hb Br3.out.lt
    exact ⟨Bs3q.cell 0, Br3q.cell 0, Br3q.cell 1, Br3q.cell 2, Br3q.cell 3, Br3q.cell 4, Br3q.cell 5, Br3q.free 0, Br3q.free 1, Br3q.free 2, Br3q.free 3, Br3q.free 4, Br3q.free 5⟩
  have b0 : Hid (Below w3.heap.size w3 w3.drew) := bdrewD w3
  have C0 : Hid (∀ X, Hid (Below w3.heap.size w3 X) → Calls Tryd.prog 15 #[.string A] X fun e w' => e = .returned (.string I) ∧ Hid (Below w3.heap.size w3 w') ∧ w'.cell? ⟨w.heap.size, 0, none⟩ = some (.int .i64 0) ∧ w'.cell? ⟨G, 0, none⟩ = some (.string ⟨#[]⟩) ∧ w'.cell? ⟨G, 1, none⟩ = some (.int .i64 0) ∧ w'.cell? ⟨G, 2, none⟩ = some (.int .i64 0) ∧ w'.cell? ⟨G, 3, none⟩ = some (.string ⟨#[]⟩) ∧ w'.cell? ⟨G, 4, none⟩ = some (.string ⟨#[]⟩) ∧ w'.cell? ⟨G, 5, none⟩ = some (.int .i64 0) ∧ w'.frozen? ⟨G, 0, none⟩ = false ∧ w'.frozen? ⟨G, 1, none⟩ = false ∧ w'.frozen? ⟨G, 2, none⟩ = false ∧ w'.frozen? ⟨G, 3, none⟩ = false ∧ w'.frozen? ⟨G, 4, none⟩ = false ∧ w'.frozen? ⟨G, 5, none⟩ = false) := by
    intro X bX
    refine (HI.out X).mono ?_
    rintro e w' ⟨rfl, hb⟩
    have bb := bX.out.trans (hb.mono bX.out.size)
    exact ⟨rfl, bb, HC.out _ bb⟩
  have C1 : Hid (∀ X, Hid (Below w3.heap.size w3 X) → Calls Tryd.prog 15 #[.string B] X fun e w' => e = .returned (.string F) ∧ Hid (Below w3.heap.size w3 w') ∧ w'.cell? ⟨w.heap.size, 0, none⟩ = some (.int .i64 0) ∧ w'.cell? ⟨G, 0, none⟩ = some (.string ⟨#[]⟩) ∧ w'.cell? ⟨G, 1, none⟩ = some (.int .i64 0) ∧ w'.cell? ⟨G, 2, none⟩ = some (.int .i64 0) ∧ w'.cell? ⟨G, 3, none⟩ = some (.string ⟨#[]⟩) ∧ w'.cell? ⟨G, 4, none⟩ = some (.string ⟨#[]⟩) ∧ w'.cell? ⟨G, 5, none⟩ = some (.int .i64 0) ∧ w'.frozen? ⟨G, 0, none⟩ = false ∧ w'.frozen? ⟨G, 1, none⟩ = false ∧ w'.frozen? ⟨G, 2, none⟩ = false ∧ w'.frozen? ⟨G, 3, none⟩ = false ∧ w'.frozen? ⟨G, 4, none⟩ = false ∧ w'.frozen? ⟨G, 5, none⟩ = false) := by
    intro X bX
    refine (HF.out X).mono ?_
    rintro e w' ⟨rfl, hb⟩
    have bb := bX.out.trans (hb.mono bX.out.size)
    exact ⟨rfl, bb, HC.out _ bb⟩
  have C2 : Hid (∀ X, Hid (Below w3.heap.size w3 X) → Calls Tryd.prog 15 #[.string (B.extract 0 q)] X fun e w' => e = .returned (.string T) ∧ Hid (Below w3.heap.size w3 w') ∧ w'.cell? ⟨w.heap.size, 0, none⟩ = some (.int .i64 0) ∧ w'.cell? ⟨G, 0, none⟩ = some (.string ⟨#[]⟩) ∧ w'.cell? ⟨G, 1, none⟩ = some (.int .i64 0) ∧ w'.cell? ⟨G, 2, none⟩ = some (.int .i64 0) ∧ w'.cell? ⟨G, 3, none⟩ = some (.string ⟨#[]⟩) ∧ w'.cell? ⟨G, 4, none⟩ = some (.string ⟨#[]⟩) ∧ w'.cell? ⟨G, 5, none⟩ = some (.int .i64 0) ∧ w'.frozen? ⟨G, 0, none⟩ = false ∧ w'.frozen? ⟨G, 1, none⟩ = false ∧ w'.frozen? ⟨G, 2, none⟩ = false ∧ w'.frozen? ⟨G, 3, none⟩ = false ∧ w'.frozen? ⟨G, 4, none⟩ = false ∧ w'.frozen? ⟨G, 5, none⟩ = false) := by
    intro X bX
    refine (HN.out X).mono ?_
    rintro e w' ⟨rfl, hb⟩
    have bb := bX.out.trans (hb.mono bX.out.size)
    exact ⟨rfl, bb, HC.out _ bb⟩
  have BRF : Hid (∀ w', Below w3.heap.size w3 w' → Below w.heap.size w w' ∧ Blk w' G #[.string ⟨#[]⟩, .int .i64 0, .int .i64 0, .string ⟨#[]⟩, .string ⟨#[]⟩, .int .i64 0] 23) := fun w' hb => ⟨HB3.out.trans (hb.mono HB3.out.size), Br3.out.below hb Br3.out.lt⟩
  clear HC Bs3 Br3 HB3 HI HF HN
  go_wp2_with fail
  simp only [← HG.out]
  have mk0 : True := trivial
  go_region_held3 (fun w' => w'.cell? ⟨w.heap.size, 0, none⟩ = some (.int .i64 0)) (go_keep) (first
    | (clear mk0; go_at_call 15; refine (C0.out _ b0).mono ?_; rintro e v1 ⟨rfl, b1, q0_0, q0_1, q0_2, q0_3, q0_4, q0_5, q0_6, q0_7, q0_8, q0_9, q0_10, q0_11, q0_12⟩; have mk1 : True := trivial)
    | (clear mk1; go_at_call 15; refine (C1.out _ b1).mono ?_; rintro e v2 ⟨rfl, b2, q1_0, q1_1, q1_2, q1_3, q1_4, q1_5, q1_6, q1_7, q1_8, q1_9, q1_10, q1_11, q1_12⟩; have mk2 : True := trivial)
    | (clear mk2; go_at_call 15; refine (C2.out _ b2).mono ?_; rintro e v3 ⟨rfl, b3, q2_0, q2_1, q2_2, q2_3, q2_4, q2_5, q2_6, q2_7, q2_8, q2_9, q2_10, q2_11, q2_12⟩; have mk3 : True := trivial))
  obtain ⟨hbel, hblk⟩ := BRF.out _ b3.out
  have HBL := hide hbel
  have QR := hide hblk
  clear hbel hblk BRF b0 b1 b2 b3 C0 C1 C2
  repeat (first | go_values | go_skip | go_guarded | go_step | go_upon)
  refine bodyPost_ret (results_opr2 rfl _ _ _ _ _ _ _ _ _ rfl (QR.out.put6 _ _ _ _ _ _)) rfl ?_
  exact ⟨rfl, below_put6 HBL.out gle _ _ _ _ _ _⟩

set_option maxHeartbeats 4000000 in
theorem of_true (n : Bool) (ti tf : ByteArray) (x : Int) (A B I F T : ByteArray) (q : Nat) (w : World) (htab : Tab w) (hH : ∀ W, Tab W → Calls Tryd.prog 12 #[shV 0 n ti tf x true] W fun e w' => e = .returned (.bool true) ∧ Below W.heap.size W w') (hM : ∀ W, Calls Tryd.prog 13 #[.string ti, .string tf, .int .i64 x] W fun e w' => e = .returned (.tuple #[.string A, .string B]) ∧ Below W.heap.size W w') (hK : ∀ W, Calls Tryd.prog 14 #[.string B] W fun e w' => e = .returned (.tuple #[.int .i64 (B.size : Int), .int .i64 (q : Int)]) ∧ Below W.heap.size W w') (hq : q ≤ B.size) (hI : ∀ W, Calls Tryd.prog 15 #[.string A] W fun e w' => e = .returned (.string I) ∧ Below W.heap.size W w') (hF : ∀ W, Calls Tryd.prog 15 #[.string B] W fun e w' => e = .returned (.string F) ∧ Below W.heap.size W w') (hN : ∀ W, Calls Tryd.prog 15 #[.string (B.extract 0 q)] W fun e w' => e = .returned (.string T) ∧ Below W.heap.size W w') : Calls Tryd.prog 6 #[shV 0 n ti tf x true] w fun e w' => e = .returned (.tuple #[.agg #[.string I, .int .i64 (B.size : Int), .int .i64 (q : Int), .string F, .string T, .int .i64 x], .int .i64 0]) ∧ Below w.heap.size w w' := by
  have HH := hide hH
  have HM := hide hM
  have HK := hide hK
  have HI := hide hI
  have HF := hide hF
  have HN := hide hN
  have HT := hide htab
  have hq1 : (q : Int) ≤ (B.size : Int) := by omega
  clear hH hM hK hI hF hN htab hq
  have Bs0 := hide ((Blk.newAt w (w.heap.size) (rfl) #[.int .i64 0, .bool n, .string ti, .string tf, .int .i64 x, .bool true] 25).alloc (.cells #[.string ⟨#[]⟩, .int .i64 0, .int .i64 0, .string ⟨#[]⟩, .string ⟨#[]⟩, .int .i64 0] 23))
  have Br0 := hide (Blk.newAt (w.alloc (.cells #[.int .i64 0, .bool n, .string ti, .string tf, .int .i64 x, .bool true] 25)) (w.heap.size + 1) (by simp) #[.string ⟨#[]⟩, .int .i64 0, .int .i64 0, .string ⟨#[]⟩, .string ⟨#[]⟩, .int .i64 0] 23)
  have HB0 : Hid (Below w.heap.size w ((w.alloc (.cells #[.int .i64 0, .bool n, .string ti, .string tf, .int .i64 x, .bool true] 25)).alloc (.cells #[.string ⟨#[]⟩, .int .i64 0, .int .i64 0, .string ⟨#[]⟩, .string ⟨#[]⟩, .int .i64 0] 23))) := (((Below.refl _ _).alloc (Nat.le_refl _) _).alloc (by simp <;> omega) _)
  go_enter Tryd.func6, Tryd.ntmps6
  go_wp2_with fail
  refine (HH.out _ (HT.out.below HB0.out)).mono ?_
  rintro e w1 ⟨rfl, hb⟩
  have Bs1 := Blk.on Bs0 hb
  have Br1 := Blk.on Br0 hb
  have HB1 := hide (HB0.out.trans (hb.mono HB0.out.size))
  clear hb Bs0 Br0 HB0 
  obtain ⟨ys0, ys1, ys2, ys3, ys4, ys5⟩ := Bs1.out.six
  obtain ⟨yr0, yr1, yr2, yr3, yr4, yr5⟩ := Br1.out.six
  go_wp2_with fail
  refine (HM.out _).mono ?_
  rintro e w2 ⟨rfl, hb⟩
  have Bs2 := Blk.on Bs1 hb
  have Br2 := Blk.on Br1 hb
  have HB2 := hide (HB1.out.trans (hb.mono HB1.out.size))
  clear hb Bs1 Br1 HB1 ys0 ys1 ys2 ys3 ys4 ys5 yr0 yr1 yr2 yr3 yr4 yr5
  obtain ⟨ys0, ys1, ys2, ys3, ys4, ys5⟩ := Bs2.out.six
  obtain ⟨yr0, yr1, yr2, yr3, yr4, yr5⟩ := Br2.out.six
  go_wp2_with fail
  refine (HK.out _).mono ?_
  rintro e w3 ⟨rfl, hb⟩
  have Bs3 := Blk.on Bs2 hb
  have Br3 := Blk.on Br2 hb
  have HB3 := hide (HB2.out.trans (hb.mono HB2.out.size))
  clear hb Bs2 Br2 HB2 ys0 ys1 ys2 ys3 ys4 ys5 yr0 yr1 yr2 yr3 yr4 yr5
  obtain ⟨ys0, ys1, ys2, ys3, ys4, ys5⟩ := Bs3.out.six
  obtain ⟨yr0, yr1, yr2, yr3, yr4, yr5⟩ := Br3.out.six
  clear HH HM HK HT
  have HL : Hid (w.heap.size < w3.heap.size ∧ w.heap.size + 1 < w3.heap.size) := ⟨Bs3.out.lt, Br3.out.lt⟩
  obtain ⟨G, hG⟩ : ∃ G, G = w.heap.size + 1 := ⟨_, rfl⟩
  have gn0 : ¬ G = w.heap.size := by omega
  have gn1 : ¬ w.heap.size = G := by omega
  have gle : w.heap.size ≤ G := by omega
  have HG := hide hG
  rw [← hG] at Br3
  clear hG HL ys0 ys1 ys2 ys3 ys4 ys5 yr0 yr1 yr2 yr3 yr4 yr5
  have d0 : w3.cell? ⟨w.heap.size, 0, none⟩ = some (.int .i64 0) := Bs3.out.cell 0
  have HC : Hid (∀ w', Below w3.heap.size w3 w' → w'.cell? ⟨w.heap.size, 0, none⟩ = some (.int .i64 0) ∧ w'.cell? ⟨G, 0, none⟩ = some (.string ⟨#[]⟩) ∧ w'.cell? ⟨G, 1, none⟩ = some (.int .i64 0) ∧ w'.cell? ⟨G, 2, none⟩ = some (.int .i64 0) ∧ w'.cell? ⟨G, 3, none⟩ = some (.string ⟨#[]⟩) ∧ w'.cell? ⟨G, 4, none⟩ = some (.string ⟨#[]⟩) ∧ w'.cell? ⟨G, 5, none⟩ = some (.int .i64 0) ∧ w'.frozen? ⟨G, 0, none⟩ = false ∧ w'.frozen? ⟨G, 1, none⟩ = false ∧ w'.frozen? ⟨G, 2, none⟩ = false ∧ w'.frozen? ⟨G, 3, none⟩ = false ∧ w'.frozen? ⟨G, 4, none⟩ = false ∧ w'.frozen? ⟨G, 5, none⟩ = false) := by
    intro w' hb
    have Bs3q := Bs3.out.below hb Bs3.out.lt
    have Br3q := Br3.out.below hb Br3.out.lt
    exact ⟨Bs3q.cell 0, Br3q.cell 0, Br3q.cell 1, Br3q.cell 2, Br3q.cell 3, Br3q.cell 4, Br3q.cell 5, Br3q.free 0, Br3q.free 1, Br3q.free 2, Br3q.free 3, Br3q.free 4, Br3q.free 5⟩
  have b0 : Hid (Below w3.heap.size w3 w3.drew) := bdrewD w3
  have C0 : Hid (∀ X, Hid (Below w3.heap.size w3 X) → Calls Tryd.prog 15 #[.string A] X fun e w' => e = .returned (.string I) ∧ Hid (Below w3.heap.size w3 w') ∧ w'.cell? ⟨w.heap.size, 0, none⟩ = some (.int .i64 0) ∧ w'.cell? ⟨G, 0, none⟩ = some (.string ⟨#[]⟩) ∧ w'.cell? ⟨G, 1, none⟩ = some (.int .i64 0) ∧ w'.cell? ⟨G, 2, none⟩ = some (.int .i64 0) ∧ w'.cell? ⟨G, 3, none⟩ = some (.string ⟨#[]⟩) ∧ w'.cell? ⟨G, 4, none⟩ = some (.string ⟨#[]⟩) ∧ w'.cell? ⟨G, 5, none⟩ = some (.int .i64 0) ∧ w'.frozen? ⟨G, 0, none⟩ = false ∧ w'.frozen? ⟨G, 1, none⟩ = false ∧ w'.frozen? ⟨G, 2, none⟩ = false ∧ w'.frozen? ⟨G, 3, none⟩ = false ∧ w'.frozen? ⟨G, 4, none⟩ = false ∧ w'.frozen? ⟨G, 5, none⟩ = false) := by
    intro X bX
    refine (HI.out X).mono ?_
    rintro e w' ⟨rfl, hb⟩
    have bb := bX.out.trans (hb.mono bX.out.size)
    exact ⟨rfl, bb, HC.out _ bb⟩
  have C1 : Hid (∀ X, Hid (Below w3.heap.size w3 X) → Calls Tryd.prog 15 #[.string B] X fun e w' => e = .returned (.string F) ∧ Hid (Below w3.heap.size w3 w') ∧ w'.cell? ⟨w.heap.size, 0, none⟩ = some (.int .i64 0) ∧ w'.cell? ⟨G, 0, none⟩ = some (.string ⟨#[]⟩) ∧ w'.cell? ⟨G, 1, none⟩ = some (.int .i64 0) ∧ w'.cell? ⟨G, 2, none⟩ = some (.int .i64 0) ∧ w'.cell? ⟨G, 3, none⟩ = some (.string ⟨#[]⟩) ∧ w'.cell? ⟨G, 4, none⟩ = some (.string ⟨#[]⟩) ∧ w'.cell? ⟨G, 5, none⟩ = some (.int .i64 0) ∧ w'.frozen? ⟨G, 0, none⟩ = false ∧ w'.frozen? ⟨G, 1, none⟩ = false ∧ w'.frozen? ⟨G, 2, none⟩ = false ∧ w'.frozen? ⟨G, 3, none⟩ = false ∧ w'.frozen? ⟨G, 4, none⟩ = false ∧ w'.frozen? ⟨G, 5, none⟩ = false) := by
    intro X bX
    refine (HF.out X).mono ?_
    rintro e w' ⟨rfl, hb⟩
    have bb := bX.out.trans (hb.mono bX.out.size)
    exact ⟨rfl, bb, HC.out _ bb⟩
  have C2 : Hid (∀ X, Hid (Below w3.heap.size w3 X) → Calls Tryd.prog 15 #[.string (B.extract 0 q)] X fun e w' => e = .returned (.string T) ∧ Hid (Below w3.heap.size w3 w') ∧ w'.cell? ⟨w.heap.size, 0, none⟩ = some (.int .i64 0) ∧ w'.cell? ⟨G, 0, none⟩ = some (.string ⟨#[]⟩) ∧ w'.cell? ⟨G, 1, none⟩ = some (.int .i64 0) ∧ w'.cell? ⟨G, 2, none⟩ = some (.int .i64 0) ∧ w'.cell? ⟨G, 3, none⟩ = some (.string ⟨#[]⟩) ∧ w'.cell? ⟨G, 4, none⟩ = some (.string ⟨#[]⟩) ∧ w'.cell? ⟨G, 5, none⟩ = some (.int .i64 0) ∧ w'.frozen? ⟨G, 0, none⟩ = false ∧ w'.frozen? ⟨G, 1, none⟩ = false ∧ w'.frozen? ⟨G, 2, none⟩ = false ∧ w'.frozen? ⟨G, 3, none⟩ = false ∧ w'.frozen? ⟨G, 4, none⟩ = false ∧ w'.frozen? ⟨G, 5, none⟩ = false) := by
    intro X bX
    refine (HN.out X).mono ?_
    rintro e w' ⟨rfl, hb⟩
    have bb := bX.out.trans (hb.mono bX.out.size)
    exact ⟨rfl, bb, HC.out _ bb⟩
  have BRF : Hid (∀ w', Below w3.heap.size w3 w' → Below w.heap.size w w' ∧ Blk w' G #[.string ⟨#[]⟩, .int .i64 0, .int .i64 0, .string ⟨#[]⟩, .string ⟨#[]⟩, .int .i64 0] 23) := fun w' hb => ⟨HB3.out.trans (hb.mono HB3.out.size), Br3.out.below hb Br3.out.lt⟩
  clear HC Bs3 Br3 HB3 HI HF HN
  go_wp2_with fail
  simp only [← HG.out]
  have mk0 : True := trivial
  go_region_held3 (fun w' => w'.cell? ⟨w.heap.size, 0, none⟩ = some (.int .i64 0)) (go_keep) (first
    | (clear mk0; go_at_call 15; refine (C0.out _ b0).mono ?_; rintro e v1 ⟨rfl, b1, q0_0, q0_1, q0_2, q0_3, q0_4, q0_5, q0_6, q0_7, q0_8, q0_9, q0_10, q0_11, q0_12⟩; have mk1 : True := trivial)
    | (clear mk1; go_at_call 15; refine (C1.out _ b1).mono ?_; rintro e v2 ⟨rfl, b2, q1_0, q1_1, q1_2, q1_3, q1_4, q1_5, q1_6, q1_7, q1_8, q1_9, q1_10, q1_11, q1_12⟩; have mk2 : True := trivial)
    | (clear mk2; go_at_call 15; refine (C2.out _ b2).mono ?_; rintro e v3 ⟨rfl, b3, q2_0, q2_1, q2_2, q2_3, q2_4, q2_5, q2_6, q2_7, q2_8, q2_9, q2_10, q2_11, q2_12⟩; have mk3 : True := trivial))
  obtain ⟨hbel, hblk⟩ := BRF.out _ b3.out
  have HBL := hide hbel
  have QR := hide hblk
  clear hbel hblk BRF b0 b1 b2 b3 C0 C1 C2
  repeat (first | go_values | go_skip | go_guarded | go_step | go_upon)
  refine bodyPost_ret (results_opr2 rfl _ _ _ _ _ _ _ _ _ rfl (QR.out.put6 _ _ _ _ _ _)) rfl ?_
  exact ⟨rfl, below_put6 HBL.out gle _ _ _ _ _ _⟩

theorem Of_any (c : Int) (n : Bool) (ti tf : ByteArray) (x : Int) (cm : Bool) (w : World) (htab : Tab w) : Calls Tryd.prog 6 #[shV c n ti tf x cm] w fun e w' => e = .returned (opErr (ofS ⟨c, n, bys ti, bys tf, x, cm⟩)) ∧ Below w.heap.size w w' := by
  by_cases h : HasO ⟨c, n, bys ti, bys tf, x, cm⟩
  rotate_left
  · rw [ofS_no h]
    exact of_no c n ti tf x cm w htab h
  rw [ofS_yes h]
  have hH := fun W hW => has_T c n ti tf x cm W hW h
  obtain ⟨⟨⟨x1, x2⟩, h2⟩, hc, he⟩ := h
  simp only at hc he x1 x2
  subst hc
  rcases h2 with ⟨_, _, ⟨h3, h4⟩, ⟨h5, h6⟩⟩ | ⟨h1, _⟩ | ⟨h1, _⟩
  rotate_left
  · exact absurd (show (0 : Int) = 1 from h1) (by decide)
  · exact absurd (show (0 : Int) = 2 from h1) (by decide)
  simp only at h3 h4 h5 h6
  have key : ∀ k : Nat, k ≤ 2001 → ∀ W, Calls Tryd.prog 15 #[.string ⟨(moveA (bys ti) (bys tf) k).toArray⟩] W fun e w' => e = .returned (.string ⟨(numO (moveA (bys ti) (bys tf) k)).toArray⟩) ∧ Below W.heap.size W w' := fun k hk W => number_any _ W (by rw [moveA_len]; omega) (moveA_digB h4 h6 k)
  have kf : ∀ k : Nat, ∀ W, Calls Tryd.prog 15 #[.string ⟨((bys tf).drop k).toArray⟩] W fun e w' => e = .returned (.string ⟨(numO ((bys tf).drop k)).toArray⟩) ∧ Below W.heap.size W w' := fun k W => number_any _ W (by rw [List.length_drop]; omega) (h6.drop k)
  have kt : ∀ k : Nat, ∀ W, Calls Tryd.prog 15 #[.string ((⟨((bys tf).drop k).toArray⟩ : ByteArray).extract 0 (shortN ((bys tf).drop k)))] W fun e w' => e = .returned (.string ⟨(numO (((bys tf).drop k).take (shortN ((bys tf).drop k)))).toArray⟩) ∧ Below W.heap.size W w' := fun k W => by
    rw [extract_mk]
    exact number_any _ W (by rw [List.length_take, List.length_drop]; omega) ((h6.drop k).take _)
  have kc : ∀ k : Nat, ∀ W, Calls Tryd.prog 14 #[.string ⟨((bys tf).drop k).toArray⟩] W fun e w' => e = .returned (.tuple #[.int .i64 ((⟨((bys tf).drop k).toArray⟩ : ByteArray).size : Int), .int .i64 (shortN ((bys tf).drop k) : Int)]) ∧ Below W.heap.size W w' := fun k W => by
    have := count_any ⟨((bys tf).drop k).toArray⟩ W (by rw [size_mk0, List.length_drop]; omega) (by rw [bys_mk]; exact h6.drop k)
    rwa [bys_mk] at this
  have kq : ∀ k : Nat, shortN ((bys tf).drop k) ≤ (⟨((bys tf).drop k).toArray⟩ : ByteArray).size := fun k => by rw [size_mk0]; exact shortN_le _
  rw [bys_len] at h3 h5
  unfold opErr opVal operS
  cases cm
  · have e0 : expO ⟨0, n, bys ti, bys tf, x, false⟩ = 0 := rfl
    simp only [e0]
    have g := of_false n ti tf x _ _ _ _ _ _ w htab hH (fun W => moved_any ti tf 0 W (by omega) h3 h5) (kc 0) (kq 0) (key 0 (by omega)) (kf 0) (kt 0)
    rw [size_mk0] at g
    exact g
  · have hx := he rfl
    have e0 : expO ⟨0, n, bys ti, bys tf, x, true⟩ = x.toNat := rfl
    simp only [e0]
    have ex : ((x.toNat : Nat) : Int) = x := by omega
    have g := of_true n ti tf x _ _ _ _ _ _ w htab hH (fun W => by have := moved_any ti tf x.toNat W (by omega) h3 h5; rwa [ex] at this) (kc _) (kq _) (key x.toNat (by omega)) (kf _) (kt _)
    rw [size_mk0] at g
    rw [ex]
    exact g

end Go.Proofs.YtobloamnaemfnaaDoor

namespace Go.Proofs.YtobloamnaemfnaaDoor
open Go.RowKit

theorem ne_text {f g : ByteArray} (h : bys f ≠ bys g) : (f.toList == g.toList) = false := by
  rw [ByteArray.toList_eq, ByteArray.toList_eq]
  exact beq_eq_false_iff_ne.2 h

set_option maxHeartbeats 2000000 in
theorem omay_0 (i : ByteArray) (v z : Int) (f t : ByteArray) (e : Int) (w : World) (h0 : ¬ (NumT (bys i) 8192))  : Calls Tryd.prog 8 #[opV i v z f t e] w fun e w' => e = .returned (.bool false) ∧ Below w.heap.size w w' := by
  have K0 := hide (fun W => isNum_F i W h0)
  clear h0
  have Bs0 := hide (Blk.newAt w (w.heap.size) (rfl) #[.string i, .int .i64 v, .int .i64 z, .string f, .string t, .int .i64 e] 23)
  have HB0 : Hid (Below w.heap.size w (w.alloc (.cells #[.string i, .int .i64 v, .int .i64 z, .string f, .string t, .int .i64 e] 23))) := ((Below.refl _ _).alloc (Nat.le_refl _) _)
  go_enter Tryd.func8, Tryd.ntmps8
  go_wp2_with fail
  refine (K0.out _).mono ?_
  rintro e w1 ⟨rfl, hb⟩
  have Bs1 := Blk.on Bs0 hb
  have HB1 := hide (HB0.out.trans (hb.mono HB0.out.size))
  clear hb Bs0 HB0 
  obtain ⟨ys0, ys1, ys2, ys3, ys4, ys5⟩ := Bs1.out.six
  go_wp2
  go_ret
  exact ⟨rfl, HB1.out⟩

set_option maxHeartbeats 2000000 in
theorem omay_1 (i : ByteArray) (v z : Int) (f t : ByteArray) (e : Int) (w : World) (h0 : NumT (bys i) 8192) (h1 : ¬ (NumT (bys t) 8192))  : Calls Tryd.prog 8 #[opV i v z f t e] w fun e w' => e = .returned (.bool false) ∧ Below w.heap.size w w' := by
  have K0 := hide (fun W => isNum_T i W h0)
  have K1 := hide (fun W => isNum_F t W h1)
  clear h0 h1
  have Bs0 := hide (Blk.newAt w (w.heap.size) (rfl) #[.string i, .int .i64 v, .int .i64 z, .string f, .string t, .int .i64 e] 23)
  have HB0 : Hid (Below w.heap.size w (w.alloc (.cells #[.string i, .int .i64 v, .int .i64 z, .string f, .string t, .int .i64 e] 23))) := ((Below.refl _ _).alloc (Nat.le_refl _) _)
  go_enter Tryd.func8, Tryd.ntmps8
  go_wp2_with fail
  refine (K0.out _).mono ?_
  rintro e w1 ⟨rfl, hb⟩
  have Bs1 := Blk.on Bs0 hb
  have HB1 := hide (HB0.out.trans (hb.mono HB0.out.size))
  clear hb Bs0 HB0 
  obtain ⟨ys0, ys1, ys2, ys3, ys4, ys5⟩ := Bs1.out.six
  go_wp2_with fail
  refine (K1.out _).mono ?_
  rintro e w2 ⟨rfl, hb⟩
  have Bs2 := Blk.on Bs1 hb
  have HB2 := hide (HB1.out.trans (hb.mono HB1.out.size))
  clear hb Bs1 HB1 ys0 ys1 ys2 ys3 ys4 ys5
  obtain ⟨ys0, ys1, ys2, ys3, ys4, ys5⟩ := Bs2.out.six
  go_wp2
  go_ret
  exact ⟨rfl, HB2.out⟩

set_option maxHeartbeats 2000000 in
theorem omay_2 (i : ByteArray) (v z : Int) (f t : ByteArray) (e : Int) (w : World) (h0 : NumT (bys i) 8192) (h1 : NumT (bys t) 8192) (h2 : ¬ (0 ≤ v ∧ v ≤ 8192))  : Calls Tryd.prog 8 #[opV i v z f t e] w fun e w' => e = .returned (.bool false) ∧ Below w.heap.size w w' := by
  have K0 := hide (fun W => isNum_T i W h0)
  have K1 := hide (fun W => isNum_T t W h1)
  have K2 := hide (fun W => isCount_f v W h2)
  clear h0 h1 h2
  have Bs0 := hide (Blk.newAt w (w.heap.size) (rfl) #[.string i, .int .i64 v, .int .i64 z, .string f, .string t, .int .i64 e] 23)
  have HB0 : Hid (Below w.heap.size w (w.alloc (.cells #[.string i, .int .i64 v, .int .i64 z, .string f, .string t, .int .i64 e] 23))) := ((Below.refl _ _).alloc (Nat.le_refl _) _)
  go_enter Tryd.func8, Tryd.ntmps8
  go_wp2_with fail
  refine (K0.out _).mono ?_
  rintro e w1 ⟨rfl, hb⟩
  have Bs1 := Blk.on Bs0 hb
  have HB1 := hide (HB0.out.trans (hb.mono HB0.out.size))
  clear hb Bs0 HB0 
  obtain ⟨ys0, ys1, ys2, ys3, ys4, ys5⟩ := Bs1.out.six
  go_wp2_with fail
  refine (K1.out _).mono ?_
  rintro e w2 ⟨rfl, hb⟩
  have Bs2 := Blk.on Bs1 hb
  have HB2 := hide (HB1.out.trans (hb.mono HB1.out.size))
  clear hb Bs1 HB1 ys0 ys1 ys2 ys3 ys4 ys5
  obtain ⟨ys0, ys1, ys2, ys3, ys4, ys5⟩ := Bs2.out.six
  go_wp2_with fail
  refine (K2.out _).mono ?_
  rintro e w3 ⟨rfl, hb⟩
  have Bs3 := Blk.on Bs2 hb
  have HB3 := hide (HB2.out.trans (hb.mono HB2.out.size))
  clear hb Bs2 HB2 ys0 ys1 ys2 ys3 ys4 ys5
  obtain ⟨ys0, ys1, ys2, ys3, ys4, ys5⟩ := Bs3.out.six
  go_wp2
  go_ret
  exact ⟨rfl, HB3.out⟩

set_option maxHeartbeats 2000000 in
theorem omay_3 (i : ByteArray) (v z : Int) (f t : ByteArray) (e : Int) (w : World) (h0 : NumT (bys i) 8192) (h1 : NumT (bys t) 8192) (h2 : 0 ≤ v ∧ v ≤ 8192) (h3 : ¬ (0 ≤ z ∧ z ≤ 8192))  : Calls Tryd.prog 8 #[opV i v z f t e] w fun e w' => e = .returned (.bool false) ∧ Below w.heap.size w w' := by
  have K0 := hide (fun W => isNum_T i W h0)
  have K1 := hide (fun W => isNum_T t W h1)
  have K2 := hide (fun W => isCount_t v W h2.1 h2.2)
  have K3 := hide (fun W => isCount_f z W h3)
  clear h0 h1 h2 h3
  have Bs0 := hide (Blk.newAt w (w.heap.size) (rfl) #[.string i, .int .i64 v, .int .i64 z, .string f, .string t, .int .i64 e] 23)
  have HB0 : Hid (Below w.heap.size w (w.alloc (.cells #[.string i, .int .i64 v, .int .i64 z, .string f, .string t, .int .i64 e] 23))) := ((Below.refl _ _).alloc (Nat.le_refl _) _)
  go_enter Tryd.func8, Tryd.ntmps8
  go_wp2_with fail
  refine (K0.out _).mono ?_
  rintro e w1 ⟨rfl, hb⟩
  have Bs1 := Blk.on Bs0 hb
  have HB1 := hide (HB0.out.trans (hb.mono HB0.out.size))
  clear hb Bs0 HB0 
  obtain ⟨ys0, ys1, ys2, ys3, ys4, ys5⟩ := Bs1.out.six
  go_wp2_with fail
  refine (K1.out _).mono ?_
  rintro e w2 ⟨rfl, hb⟩
  have Bs2 := Blk.on Bs1 hb
  have HB2 := hide (HB1.out.trans (hb.mono HB1.out.size))
  clear hb Bs1 HB1 ys0 ys1 ys2 ys3 ys4 ys5
  obtain ⟨ys0, ys1, ys2, ys3, ys4, ys5⟩ := Bs2.out.six
  go_wp2_with fail
  refine (K2.out _).mono ?_
  rintro e w3 ⟨rfl, hb⟩
  have Bs3 := Blk.on Bs2 hb
  have HB3 := hide (HB2.out.trans (hb.mono HB2.out.size))
  clear hb Bs2 HB2 ys0 ys1 ys2 ys3 ys4 ys5
  obtain ⟨ys0, ys1, ys2, ys3, ys4, ys5⟩ := Bs3.out.six
  go_wp2_with fail
  refine (K3.out _).mono ?_
  rintro e w4 ⟨rfl, hb⟩
  have Bs4 := Blk.on Bs3 hb
  have HB4 := hide (HB3.out.trans (hb.mono HB3.out.size))
  clear hb Bs3 HB3 ys0 ys1 ys2 ys3 ys4 ys5
  obtain ⟨ys0, ys1, ys2, ys3, ys4, ys5⟩ := Bs4.out.six
  go_wp2
  go_ret
  exact ⟨rfl, HB4.out⟩

set_option maxHeartbeats 2000000 in
theorem omay_4 (i : ByteArray) (v z : Int) (f t : ByteArray) (e : Int) (w : World) (h0 : NumT (bys i) 8192) (h1 : NumT (bys t) 8192) (h2 : 0 ≤ v ∧ v ≤ 8192) (h3 : 0 ≤ z ∧ z ≤ 8192) (h4 : ¬ (0 ≤ e ∧ e ≤ 8192))  : Calls Tryd.prog 8 #[opV i v z f t e] w fun e w' => e = .returned (.bool false) ∧ Below w.heap.size w w' := by
  have K0 := hide (fun W => isNum_T i W h0)
  have K1 := hide (fun W => isNum_T t W h1)
  have K2 := hide (fun W => isCount_t v W h2.1 h2.2)
  have K3 := hide (fun W => isCount_t z W h3.1 h3.2)
  have K4 := hide (fun W => isCount_f e W h4)
  clear h0 h1 h2 h3 h4
  have Bs0 := hide (Blk.newAt w (w.heap.size) (rfl) #[.string i, .int .i64 v, .int .i64 z, .string f, .string t, .int .i64 e] 23)
  have HB0 : Hid (Below w.heap.size w (w.alloc (.cells #[.string i, .int .i64 v, .int .i64 z, .string f, .string t, .int .i64 e] 23))) := ((Below.refl _ _).alloc (Nat.le_refl _) _)
  go_enter Tryd.func8, Tryd.ntmps8
  go_wp2_with fail
  refine (K0.out _).mono ?_
  rintro e w1 ⟨rfl, hb⟩
  have Bs1 := Blk.on Bs0 hb
  have HB1 := hide (HB0.out.trans (hb.mono HB0.out.size))
  clear hb Bs0 HB0 
  obtain ⟨ys0, ys1, ys2, ys3, ys4, ys5⟩ := Bs1.out.six
  go_wp2_with fail
  refine (K1.out _).mono ?_
  rintro e w2 ⟨rfl, hb⟩
  have Bs2 := Blk.on Bs1 hb
  have HB2 := hide (HB1.out.trans (hb.mono HB1.out.size))
  clear hb Bs1 HB1 ys0 ys1 ys2 ys3 ys4 ys5
  obtain ⟨ys0, ys1, ys2, ys3, ys4, ys5⟩ := Bs2.out.six
  go_wp2_with fail
  refine (K2.out _).mono ?_
  rintro e w3 ⟨rfl, hb⟩
  have Bs3 := Blk.on Bs2 hb
  have HB3 := hide (HB2.out.trans (hb.mono HB2.out.size))
  clear hb Bs2 HB2 ys0 ys1 ys2 ys3 ys4 ys5
  obtain ⟨ys0, ys1, ys2, ys3, ys4, ys5⟩ := Bs3.out.six
  go_wp2_with fail
  refine (K3.out _).mono ?_
  rintro e w4 ⟨rfl, hb⟩
  have Bs4 := Blk.on Bs3 hb
  have HB4 := hide (HB3.out.trans (hb.mono HB3.out.size))
  clear hb Bs3 HB3 ys0 ys1 ys2 ys3 ys4 ys5
  obtain ⟨ys0, ys1, ys2, ys3, ys4, ys5⟩ := Bs4.out.six
  go_wp2_with fail
  refine (K4.out _).mono ?_
  rintro e w5 ⟨rfl, hb⟩
  have Bs5 := Blk.on Bs4 hb
  have HB5 := hide (HB4.out.trans (hb.mono HB4.out.size))
  clear hb Bs4 HB4 ys0 ys1 ys2 ys3 ys4 ys5
  obtain ⟨ys0, ys1, ys2, ys3, ys4, ys5⟩ := Bs5.out.six
  go_wp2
  go_ret
  exact ⟨rfl, HB5.out⟩

set_option maxHeartbeats 2000000 in
theorem omay_5 (i : ByteArray) (v z : Int) (f t : ByteArray) (e : Int) (w : World) (h0 : NumT (bys i) 8192) (h1 : NumT (bys t) 8192) (h2 : 0 ≤ v ∧ v ≤ 8192) (h3 : 0 ≤ z ∧ z ≤ 8192) (h4 : 0 ≤ e ∧ e ≤ 8192) (h5 : v < z) : Calls Tryd.prog 8 #[opV i v z f t e] w fun e w' => e = .returned (.bool false) ∧ Below w.heap.size w w' := by
  have K0 := hide (fun W => isNum_T i W h0)
  have K1 := hide (fun W => isNum_T t W h1)
  have K2 := hide (fun W => isCount_t v W h2.1 h2.2)
  have K3 := hide (fun W => isCount_t z W h3.1 h3.2)
  have K4 := hide (fun W => isCount_t e W h4.1 h4.2)
  have g5 : decide (v < z) = true := decide_eq_true h5
  clear h0 h1 h2 h3 h4
  have Bs0 := hide (Blk.newAt w (w.heap.size) (rfl) #[.string i, .int .i64 v, .int .i64 z, .string f, .string t, .int .i64 e] 23)
  have HB0 : Hid (Below w.heap.size w (w.alloc (.cells #[.string i, .int .i64 v, .int .i64 z, .string f, .string t, .int .i64 e] 23))) := ((Below.refl _ _).alloc (Nat.le_refl _) _)
  go_enter Tryd.func8, Tryd.ntmps8
  go_wp2_with fail
  refine (K0.out _).mono ?_
  rintro e w1 ⟨rfl, hb⟩
  have Bs1 := Blk.on Bs0 hb
  have HB1 := hide (HB0.out.trans (hb.mono HB0.out.size))
  clear hb Bs0 HB0 
  obtain ⟨ys0, ys1, ys2, ys3, ys4, ys5⟩ := Bs1.out.six
  go_wp2_with fail
  refine (K1.out _).mono ?_
  rintro e w2 ⟨rfl, hb⟩
  have Bs2 := Blk.on Bs1 hb
  have HB2 := hide (HB1.out.trans (hb.mono HB1.out.size))
  clear hb Bs1 HB1 ys0 ys1 ys2 ys3 ys4 ys5
  obtain ⟨ys0, ys1, ys2, ys3, ys4, ys5⟩ := Bs2.out.six
  go_wp2_with fail
  refine (K2.out _).mono ?_
  rintro e w3 ⟨rfl, hb⟩
  have Bs3 := Blk.on Bs2 hb
  have HB3 := hide (HB2.out.trans (hb.mono HB2.out.size))
  clear hb Bs2 HB2 ys0 ys1 ys2 ys3 ys4 ys5
  obtain ⟨ys0, ys1, ys2, ys3, ys4, ys5⟩ := Bs3.out.six
  go_wp2_with fail
  refine (K3.out _).mono ?_
  rintro e w4 ⟨rfl, hb⟩
  have Bs4 := Blk.on Bs3 hb
  have HB4 := hide (HB3.out.trans (hb.mono HB3.out.size))
  clear hb Bs3 HB3 ys0 ys1 ys2 ys3 ys4 ys5
  obtain ⟨ys0, ys1, ys2, ys3, ys4, ys5⟩ := Bs4.out.six
  go_wp2_with fail
  refine (K4.out _).mono ?_
  rintro e w5 ⟨rfl, hb⟩
  have Bs5 := Blk.on Bs4 hb
  have HB5 := hide (HB4.out.trans (hb.mono HB4.out.size))
  clear hb Bs4 HB4 ys0 ys1 ys2 ys3 ys4 ys5
  obtain ⟨ys0, ys1, ys2, ys3, ys4, ys5⟩ := Bs5.out.six
  go_wp2
  go_ret
  exact ⟨rfl, HB5.out⟩

set_option maxHeartbeats 2000000 in
theorem omay_zt (i : ByteArray) (v z e : Int) (w : World) (h0 : NumT (bys i) 8192) (h2 : 0 ≤ v ∧ v ≤ 8192) (h3 : 0 ≤ z ∧ z ≤ 8192) (h4 : 0 ≤ e ∧ e ≤ 8192) (h5 : z ≤ v)  : Calls Tryd.prog 8 #[opV i v z ⟨#[48]⟩ ⟨#[48]⟩ e] w fun e w' => e = .returned (.bool true) ∧ Below w.heap.size w w' := by
  have K0 := hide (fun W => isNum_T i W h0)
  have K1 := hide (fun W => isNum_0 W)
  have K2 := hide (fun W => isCount_t v W h2.1 h2.2)
  have K3 := hide (fun W => isCount_t z W h3.1 h3.2)
  have K4 := hide (fun W => isCount_t e W h4.1 h4.2)
  have g5 : decide (v < z) = false := decide_eq_false (by omega)
  clear h5
  clear h0 h2 h3 h4
  have Bs0 := hide (Blk.newAt w (w.heap.size) (rfl) #[.string i, .int .i64 v, .int .i64 z, .string ⟨#[48]⟩, .string ⟨#[48]⟩, .int .i64 e] 23)
  have HB0 : Hid (Below w.heap.size w (w.alloc (.cells #[.string i, .int .i64 v, .int .i64 z, .string ⟨#[48]⟩, .string ⟨#[48]⟩, .int .i64 e] 23))) := ((Below.refl _ _).alloc (Nat.le_refl _) _)
  go_enter Tryd.func8, Tryd.ntmps8
  go_wp2_with fail
  refine (K0.out _).mono ?_
  rintro e w1 ⟨rfl, hb⟩
  have Bs1 := Blk.on Bs0 hb
  have HB1 := hide (HB0.out.trans (hb.mono HB0.out.size))
  clear hb Bs0 HB0 
  obtain ⟨ys0, ys1, ys2, ys3, ys4, ys5⟩ := Bs1.out.six
  go_wp2_with fail
  refine (K1.out _).mono ?_
  rintro e w2 ⟨rfl, hb⟩
  have Bs2 := Blk.on Bs1 hb
  have HB2 := hide (HB1.out.trans (hb.mono HB1.out.size))
  clear hb Bs1 HB1 ys0 ys1 ys2 ys3 ys4 ys5
  obtain ⟨ys0, ys1, ys2, ys3, ys4, ys5⟩ := Bs2.out.six
  go_wp2_with fail
  refine (K2.out _).mono ?_
  rintro e w3 ⟨rfl, hb⟩
  have Bs3 := Blk.on Bs2 hb
  have HB3 := hide (HB2.out.trans (hb.mono HB2.out.size))
  clear hb Bs2 HB2 ys0 ys1 ys2 ys3 ys4 ys5
  obtain ⟨ys0, ys1, ys2, ys3, ys4, ys5⟩ := Bs3.out.six
  go_wp2_with fail
  refine (K3.out _).mono ?_
  rintro e w4 ⟨rfl, hb⟩
  have Bs4 := Blk.on Bs3 hb
  have HB4 := hide (HB3.out.trans (hb.mono HB3.out.size))
  clear hb Bs3 HB3 ys0 ys1 ys2 ys3 ys4 ys5
  obtain ⟨ys0, ys1, ys2, ys3, ys4, ys5⟩ := Bs4.out.six
  go_wp2_with fail
  refine (K4.out _).mono ?_
  rintro e w5 ⟨rfl, hb⟩
  have Bs5 := Blk.on Bs4 hb
  have HB5 := hide (HB4.out.trans (hb.mono HB4.out.size))
  clear hb Bs4 HB4 ys0 ys1 ys2 ys3 ys4 ys5
  obtain ⟨ys0, ys1, ys2, ys3, ys4, ys5⟩ := Bs5.out.six
  go_wp2
  go_ret
  exact ⟨rfl, HB5.out⟩

set_option maxHeartbeats 2000000 in
theorem omay_zf (i : ByteArray) (v z : Int) (f : ByteArray) (e : Int) (w : World) (h0 : NumT (bys i) 8192) (h2 : 0 ≤ v ∧ v ≤ 8192) (h3 : 0 ≤ z ∧ z ≤ 8192) (h4 : 0 ≤ e ∧ e ≤ 8192) (h5 : z ≤ v) (h6 : bys f ≠ [48]) : Calls Tryd.prog 8 #[opV i v z f ⟨#[48]⟩ e] w fun e w' => e = .returned (.bool false) ∧ Below w.heap.size w w' := by
  have K0 := hide (fun W => isNum_T i W h0)
  have K1 := hide (fun W => isNum_0 W)
  have K2 := hide (fun W => isCount_t v W h2.1 h2.2)
  have K3 := hide (fun W => isCount_t z W h3.1 h3.2)
  have K4 := hide (fun W => isCount_t e W h4.1 h4.2)
  have g5 : decide (v < z) = false := decide_eq_false (by omega)
  have hq := ne_nought h6
  clear h5 h6
  clear h0 h2 h3 h4
  have Bs0 := hide (Blk.newAt w (w.heap.size) (rfl) #[.string i, .int .i64 v, .int .i64 z, .string f, .string ⟨#[48]⟩, .int .i64 e] 23)
  have HB0 : Hid (Below w.heap.size w (w.alloc (.cells #[.string i, .int .i64 v, .int .i64 z, .string f, .string ⟨#[48]⟩, .int .i64 e] 23))) := ((Below.refl _ _).alloc (Nat.le_refl _) _)
  go_enter Tryd.func8, Tryd.ntmps8
  go_wp2_with fail
  refine (K0.out _).mono ?_
  rintro e w1 ⟨rfl, hb⟩
  have Bs1 := Blk.on Bs0 hb
  have HB1 := hide (HB0.out.trans (hb.mono HB0.out.size))
  clear hb Bs0 HB0 
  obtain ⟨ys0, ys1, ys2, ys3, ys4, ys5⟩ := Bs1.out.six
  go_wp2_with fail
  refine (K1.out _).mono ?_
  rintro e w2 ⟨rfl, hb⟩
  have Bs2 := Blk.on Bs1 hb
  have HB2 := hide (HB1.out.trans (hb.mono HB1.out.size))
  clear hb Bs1 HB1 ys0 ys1 ys2 ys3 ys4 ys5
  obtain ⟨ys0, ys1, ys2, ys3, ys4, ys5⟩ := Bs2.out.six
  go_wp2_with fail
  refine (K2.out _).mono ?_
  rintro e w3 ⟨rfl, hb⟩
  have Bs3 := Blk.on Bs2 hb
  have HB3 := hide (HB2.out.trans (hb.mono HB2.out.size))
  clear hb Bs2 HB2 ys0 ys1 ys2 ys3 ys4 ys5
  obtain ⟨ys0, ys1, ys2, ys3, ys4, ys5⟩ := Bs3.out.six
  go_wp2_with fail
  refine (K3.out _).mono ?_
  rintro e w4 ⟨rfl, hb⟩
  have Bs4 := Blk.on Bs3 hb
  have HB4 := hide (HB3.out.trans (hb.mono HB3.out.size))
  clear hb Bs3 HB3 ys0 ys1 ys2 ys3 ys4 ys5
  obtain ⟨ys0, ys1, ys2, ys3, ys4, ys5⟩ := Bs4.out.six
  go_wp2_with fail
  refine (K4.out _).mono ?_
  rintro e w5 ⟨rfl, hb⟩
  have Bs5 := Blk.on Bs4 hb
  have HB5 := hide (HB4.out.trans (hb.mono HB4.out.size))
  clear hb Bs4 HB4 ys0 ys1 ys2 ys3 ys4 ys5
  obtain ⟨ys0, ys1, ys2, ys3, ys4, ys5⟩ := Bs5.out.six
  go_wp2
  go_ret
  exact ⟨rfl, HB5.out⟩

set_option maxHeartbeats 2000000 in
theorem omay_l (i : ByteArray) (v z : Int) (f t : ByteArray) (e : Int) (w : World) (h0 : NumT (bys i) 8192) (h1 : NumT (bys t) 8192) (h2 : 0 ≤ v ∧ v ≤ 8192) (h3 : 0 ≤ z ∧ z ≤ 8192) (h4 : 0 ≤ e ∧ e ≤ 8192) (h5 : z ≤ v) (h6 : bys t ≠ [48]) (h7 : ¬ (t.size : Int) ≤ z) : Calls Tryd.prog 8 #[opV i v z f t e] w fun e w' => e = .returned (.bool false) ∧ Below w.heap.size w w' := by
  have K0 := hide (fun W => isNum_T i W h0)
  have K1 := hide (fun W => isNum_T t W h1)
  have K2 := hide (fun W => isCount_t v W h2.1 h2.2)
  have K3 := hide (fun W => isCount_t z W h3.1 h3.2)
  have K4 := hide (fun W => isCount_t e W h4.1 h4.2)
  have g5 : decide (v < z) = false := decide_eq_false (by omega)
  have hq := ne_nought h6
  have h8 : decide ((t.size : Int) ≤ z) = false := decide_eq_false h7
  clear h5 h6 h7
  clear h0 h1 h2 h3 h4
  have Bs0 := hide (Blk.newAt w (w.heap.size) (rfl) #[.string i, .int .i64 v, .int .i64 z, .string f, .string t, .int .i64 e] 23)
  have HB0 : Hid (Below w.heap.size w (w.alloc (.cells #[.string i, .int .i64 v, .int .i64 z, .string f, .string t, .int .i64 e] 23))) := ((Below.refl _ _).alloc (Nat.le_refl _) _)
  go_enter Tryd.func8, Tryd.ntmps8
  go_wp2_with fail
  refine (K0.out _).mono ?_
  rintro e w1 ⟨rfl, hb⟩
  have Bs1 := Blk.on Bs0 hb
  have HB1 := hide (HB0.out.trans (hb.mono HB0.out.size))
  clear hb Bs0 HB0 
  obtain ⟨ys0, ys1, ys2, ys3, ys4, ys5⟩ := Bs1.out.six
  go_wp2_with fail
  refine (K1.out _).mono ?_
  rintro e w2 ⟨rfl, hb⟩
  have Bs2 := Blk.on Bs1 hb
  have HB2 := hide (HB1.out.trans (hb.mono HB1.out.size))
  clear hb Bs1 HB1 ys0 ys1 ys2 ys3 ys4 ys5
  obtain ⟨ys0, ys1, ys2, ys3, ys4, ys5⟩ := Bs2.out.six
  go_wp2_with fail
  refine (K2.out _).mono ?_
  rintro e w3 ⟨rfl, hb⟩
  have Bs3 := Blk.on Bs2 hb
  have HB3 := hide (HB2.out.trans (hb.mono HB2.out.size))
  clear hb Bs2 HB2 ys0 ys1 ys2 ys3 ys4 ys5
  obtain ⟨ys0, ys1, ys2, ys3, ys4, ys5⟩ := Bs3.out.six
  go_wp2_with fail
  refine (K3.out _).mono ?_
  rintro e w4 ⟨rfl, hb⟩
  have Bs4 := Blk.on Bs3 hb
  have HB4 := hide (HB3.out.trans (hb.mono HB3.out.size))
  clear hb Bs3 HB3 ys0 ys1 ys2 ys3 ys4 ys5
  obtain ⟨ys0, ys1, ys2, ys3, ys4, ys5⟩ := Bs4.out.six
  go_wp2_with fail
  refine (K4.out _).mono ?_
  rintro e w5 ⟨rfl, hb⟩
  have Bs5 := Blk.on Bs4 hb
  have HB5 := hide (HB4.out.trans (hb.mono HB4.out.size))
  clear hb Bs4 HB4 ys0 ys1 ys2 ys3 ys4 ys5
  obtain ⟨ys0, ys1, ys2, ys3, ys4, ys5⟩ := Bs5.out.six
  go_wp2_with fail
  refine wp_region_held_drew (S := (fun w' => w'.cell? ⟨w.heap.size, 2, none⟩ = some (.int .i64 z) ∧ w'.cell? ⟨w.heap.size, 4, none⟩ = some (.string t))) (by kernel_rfl) ?_ (fun hHeld => ?_)
  · (try dsimp only)
    go_keep
  refine wpAnyH_take (i := 0) (oi := Oper.mk (some 44) _ _ _ _ _) (v := .pointer (some ⟨w.heap.size, 4, none⟩)) rfl (by kernel_rfl) (by kernel_rfl) (by kernel_rfl) (fun _ _ _ h => h) (Or.inl ⟨by rfl, ?_⟩) (by assumption) ?_
  · intro wX hSw
    (try dsimp only at hSw)
    go_simp
  simp only [Act.put, List.setIfInBounds_toArray, List.set_cons_succ, List.set_cons_zero]
  refine wpAnyH_take (i := 1) (oi := Oper.mk (some 45) _ _ _ _ _) (v := .string t) rfl (by kernel_rfl) (by kernel_rfl) (by kernel_rfl) (fun _ _ _ h => h) (Or.inl ⟨by rfl, ?_⟩) (by assumption) ?_
  · intro wX hSw
    (try dsimp only at hSw)
    go_simp
  simp only [Act.put, List.setIfInBounds_toArray, List.set_cons_succ, List.set_cons_zero]
  refine wpAnyH_take (i := 2) (oi := Oper.mk (some 46) _ _ _ _ _) (v := .int .i64 (t.size : Int)) rfl (by kernel_rfl) (by kernel_rfl) (by kernel_rfl) (fun _ _ _ h => h) (Or.inl ⟨by rfl, ?_⟩) (by assumption) ?_
  · intro wX hSw
    (try dsimp only at hSw)
    go_simp
  simp only [Act.put, List.setIfInBounds_toArray, List.set_cons_succ, List.set_cons_zero]
  refine wpAnyH_take (i := 3) (oi := Oper.mk (some 47) _ _ _ _ _) (v := .pointer (some ⟨w.heap.size, 2, none⟩)) rfl (by kernel_rfl) (by kernel_rfl) (by kernel_rfl) (fun _ _ _ h => h) (Or.inl ⟨by rfl, ?_⟩) (by assumption) ?_
  · intro wX hSw
    (try dsimp only at hSw)
    go_simp
  simp only [Act.put, List.setIfInBounds_toArray, List.set_cons_succ, List.set_cons_zero]
  refine wpAnyH_take (i := 4) (oi := Oper.mk (some 48) _ _ _ _ _) (v := .int .i64 z) rfl (by kernel_rfl) (by kernel_rfl) (by kernel_rfl) (fun _ _ _ h => h) (Or.inl ⟨by rfl, ?_⟩) (by assumption) ?_
  · intro wX hSw
    (try dsimp only at hSw)
    go_simp
  simp only [Act.put, List.setIfInBounds_toArray, List.set_cons_succ, List.set_cons_zero]
  refine wpAnyH_take (i := 5) (oi := Oper.mk (some 49) _ _ _ _ _) (v := .bool false) rfl (by kernel_rfl) (by kernel_rfl) (by kernel_rfl) (fun _ _ _ h => h) (Or.inl ⟨by rfl, ?_⟩) (by assumption) ?_
  · intro wX hSw
    (try dsimp only at hSw)
    go_simp
  simp only [Act.put, List.setIfInBounds_toArray, List.set_cons_succ, List.set_cons_zero]
  refine wpAnyH_take (i := 6) (oi := Oper.mk (some 50) _ _ _ _ _) (v := .bool false) rfl (by kernel_rfl) (by kernel_rfl) (by kernel_rfl) (fun _ _ _ h => h) (Or.inl ⟨by rfl, ?_⟩) (by assumption) ?_
  · intro wX hSw
    (try dsimp only at hSw)
    go_simp
  simp only [Act.put, List.setIfInBounds_toArray, List.set_cons_succ, List.set_cons_zero]
  refine wpAnyH_take (i := 7) (oi := Oper.mk (some 51) _ _ _ _ _) (v := undef) rfl (by kernel_rfl) (by kernel_rfl) (by kernel_rfl) (fun _ _ _ h => h) (Or.inr ⟨by rfl, rfl⟩) (by assumption) ?_
  simp only [Act.put, List.setIfInBounds_toArray, List.set_cons_succ, List.set_cons_zero]
  refine wpAnyH_take (i := 8) (oi := Oper.mk (some 52) _ _ _ _ _) (v := undef) rfl (by kernel_rfl) (by kernel_rfl) (by kernel_rfl) (fun _ _ _ h => h) (Or.inr ⟨by rfl, rfl⟩) (by assumption) ?_
  simp only [Act.put, List.setIfInBounds_toArray, List.set_cons_succ, List.set_cons_zero]
  refine wpAnyH_take (i := 9) (oi := Oper.mk (some 53) _ _ _ _ _) (v := undef) rfl (by kernel_rfl) (by kernel_rfl) (by kernel_rfl) (fun _ _ _ h => h) (Or.inr ⟨by rfl, rfl⟩) (by assumption) ?_
  simp only [Act.put, List.setIfInBounds_toArray, List.set_cons_succ, List.set_cons_zero]
  refine wpAnyH_take (i := 10) (oi := Oper.mk (some 54) _ _ _ _ _) (v := undef) rfl (by kernel_rfl) (by kernel_rfl) (by kernel_rfl) (fun _ _ _ h => h) (Or.inr ⟨by rfl, rfl⟩) (by assumption) ?_
  simp only [Act.put, List.setIfInBounds_toArray, List.set_cons_succ, List.set_cons_zero]
  refine wpAnyH_take (i := 11) (oi := Oper.mk (some 55) _ _ _ _ _) (v := undef) rfl (by kernel_rfl) (by kernel_rfl) (by kernel_rfl) (fun _ _ _ h => h) (Or.inr ⟨by rfl, rfl⟩) (by assumption) ?_
  simp only [Act.put, List.setIfInBounds_toArray, List.set_cons_succ, List.set_cons_zero]
  refine wpAnyH_take (i := 12) (oi := Oper.mk (some 56) _ _ _ _ _) (v := undef) rfl (by kernel_rfl) (by kernel_rfl) (by kernel_rfl) (fun _ _ _ h => h) (Or.inr ⟨by rfl, rfl⟩) (by assumption) ?_
  simp only [Act.put, List.setIfInBounds_toArray, List.set_cons_succ, List.set_cons_zero]
  refine wpAnyH_take (i := 13) (oi := Oper.mk (some 57) _ _ _ _ _) (v := undef) rfl (by kernel_rfl) (by kernel_rfl) (by kernel_rfl) (fun _ _ _ h => h) (Or.inr ⟨by rfl, rfl⟩) (by assumption) ?_
  simp only [Act.put, List.setIfInBounds_toArray, List.set_cons_succ, List.set_cons_zero]
  refine wpAnyH_take (i := 14) (oi := Oper.mk (some 58) _ _ _ _ _) (v := undef) rfl (by kernel_rfl) (by kernel_rfl) (by kernel_rfl) (fun _ _ _ h => h) (Or.inr ⟨by rfl, rfl⟩) (by assumption) ?_
  simp only [Act.put, List.setIfInBounds_toArray, List.set_cons_succ, List.set_cons_zero]
  refine wpAnyH_take (i := 15) (oi := Oper.mk (some 59) _ _ _ _ _) (v := undef) rfl (by kernel_rfl) (by kernel_rfl) (by kernel_rfl) (fun _ _ _ h => h) (Or.inr ⟨by rfl, rfl⟩) (by assumption) ?_
  simp only [Act.put, List.setIfInBounds_toArray, List.set_cons_succ, List.set_cons_zero]
  refine wpAnyH_take (i := 16) (oi := Oper.mk (some 60) _ _ _ _ _) (v := undef) rfl (by kernel_rfl) (by kernel_rfl) (by kernel_rfl) (fun _ _ _ h => h) (Or.inr ⟨by rfl, rfl⟩) (by assumption) ?_
  simp only [Act.put, List.setIfInBounds_toArray, List.set_cons_succ, List.set_cons_zero]
  refine wpAnyH_take (i := 17) (oi := Oper.mk (some 61) _ _ _ _ _) (v := undef) rfl (by kernel_rfl) (by kernel_rfl) (by kernel_rfl) (fun _ _ _ h => h) (Or.inr ⟨by rfl, rfl⟩) (by assumption) ?_
  simp only [Act.put, List.setIfInBounds_toArray, List.set_cons_succ, List.set_cons_zero]
  refine wpAnyH_take (i := 18) (oi := Oper.mk (some 62) _ _ _ _ _) (v := undef) rfl (by kernel_rfl) (by kernel_rfl) (by kernel_rfl) (fun _ _ _ h => h) (Or.inr ⟨by rfl, rfl⟩) (by assumption) ?_
  simp only [Act.put, List.setIfInBounds_toArray, List.set_cons_succ, List.set_cons_zero]
  refine wpAnyH_take (i := 19) (oi := Oper.mk (some 63) _ _ _ _ _) (v := .bool false) rfl (by kernel_rfl) (by kernel_rfl) (by kernel_rfl) (fun _ _ _ h => h) (Or.inl ⟨by rfl, ?_⟩) (by assumption) ?_
  · intro wX hSw
    (try dsimp only at hSw)
    go_simp
  simp only [Act.put, List.setIfInBounds_toArray, List.set_cons_succ, List.set_cons_zero]
  refine wpAnyH_take (i := 20) (oi := Oper.mk (some 2) _ _ _ _ _) (v := .bool false) rfl (by kernel_rfl) (by kernel_rfl) (by kernel_rfl) (fun _ _ _ h => h) (Or.inl ⟨by rfl, ?_⟩) (by assumption) ?_
  · intro wX hSw
    (try dsimp only at hSw)
    go_simp
  simp only [Act.put, List.setIfInBounds_toArray, List.set_cons_succ, List.set_cons_zero]
  refine wpAnyH_done (by kernel_rfl) ?_ _
  have HBE := hide HB5.out.drew
  go_wp2
  go_ret
  exact ⟨rfl, HBE.out⟩

set_option maxHeartbeats 2000000 in
theorem omay_n (i : ByteArray) (v z : Int) (f t : ByteArray) (e : Int) (w : World) (h0 : NumT (bys i) 8192) (h1 : NumT (bys t) 8192) (h2 : 0 ≤ v ∧ v ≤ 8192) (h3 : 0 ≤ z ∧ z ≤ 8192) (h4 : 0 ≤ e ∧ e ≤ 8192) (h5 : z ≤ v) (h6 : bys t ≠ [48]) (h7 : (t.size : Int) ≤ z) (N : ByteArray) (hN : ∀ W, Calls Tryd.prog 18 #[.int .i64 (v - z)] W fun e w' => e = .returned (.string N) ∧ Below W.heap.size W w') (hn : N.size ≤ 10000) (ht : t.size ≤ 10000) (h9 : bys f ≠ bys t ++ bys N) : Calls Tryd.prog 8 #[opV i v z f t e] w fun e w' => e = .returned (.bool false) ∧ Below w.heap.size w w' := by
  have K0 := hide (fun W => isNum_T i W h0)
  have K1 := hide (fun W => isNum_T t W h1)
  have K2 := hide (fun W => isCount_t v W h2.1 h2.2)
  have K3 := hide (fun W => isCount_t z W h3.1 h3.2)
  have K4 := hide (fun W => isCount_t e W h4.1 h4.2)
  have g5 : decide (v < z) = false := decide_eq_false (by omega)
  have hq := ne_nought h6
  have hf := ne_text (f := f) (g := t ++ N) (by rw [bys_append]; exact h9)
  clear h9
  have HN := hide hN
  have hw : IntKind.i64.wrap (v - z) = v - z := by rw [IntKind.wrap_i64]; omega
  have hs : ¬ 9223372036854775807 < t.size + N.size := by omega
  have h8 : decide ((t.size : Int) ≤ z) = true := decide_eq_true h7
  clear h5 h6 h7 hN hn ht
  clear h0 h1 h2 h3 h4
  have Bs0 := hide (Blk.newAt w (w.heap.size) (rfl) #[.string i, .int .i64 v, .int .i64 z, .string f, .string t, .int .i64 e] 23)
  have HB0 : Hid (Below w.heap.size w (w.alloc (.cells #[.string i, .int .i64 v, .int .i64 z, .string f, .string t, .int .i64 e] 23))) := ((Below.refl _ _).alloc (Nat.le_refl _) _)
  go_enter Tryd.func8, Tryd.ntmps8
  go_wp2_with fail
  refine (K0.out _).mono ?_
  rintro e w1 ⟨rfl, hb⟩
  have Bs1 := Blk.on Bs0 hb
  have HB1 := hide (HB0.out.trans (hb.mono HB0.out.size))
  clear hb Bs0 HB0 
  obtain ⟨ys0, ys1, ys2, ys3, ys4, ys5⟩ := Bs1.out.six
  go_wp2_with fail
  refine (K1.out _).mono ?_
  rintro e w2 ⟨rfl, hb⟩
  have Bs2 := Blk.on Bs1 hb
  have HB2 := hide (HB1.out.trans (hb.mono HB1.out.size))
  clear hb Bs1 HB1 ys0 ys1 ys2 ys3 ys4 ys5
  obtain ⟨ys0, ys1, ys2, ys3, ys4, ys5⟩ := Bs2.out.six
  go_wp2_with fail
  refine (K2.out _).mono ?_
  rintro e w3 ⟨rfl, hb⟩
  have Bs3 := Blk.on Bs2 hb
  have HB3 := hide (HB2.out.trans (hb.mono HB2.out.size))
  clear hb Bs2 HB2 ys0 ys1 ys2 ys3 ys4 ys5
  obtain ⟨ys0, ys1, ys2, ys3, ys4, ys5⟩ := Bs3.out.six
  go_wp2_with fail
  refine (K3.out _).mono ?_
  rintro e w4 ⟨rfl, hb⟩
  have Bs4 := Blk.on Bs3 hb
  have HB4 := hide (HB3.out.trans (hb.mono HB3.out.size))
  clear hb Bs3 HB3 ys0 ys1 ys2 ys3 ys4 ys5
  obtain ⟨ys0, ys1, ys2, ys3, ys4, ys5⟩ := Bs4.out.six
  go_wp2_with fail
  refine (K4.out _).mono ?_
  rintro e w5 ⟨rfl, hb⟩
  have Bs5 := Blk.on Bs4 hb
  have HB5 := hide (HB4.out.trans (hb.mono HB4.out.size))
  clear hb Bs4 HB4 ys0 ys1 ys2 ys3 ys4 ys5
  obtain ⟨ys0, ys1, ys2, ys3, ys4, ys5⟩ := Bs5.out.six
  have b0 : Hid (Below w5.heap.size w5 w5.drew) := bdrewD w5
  have C0 : Hid (∀ X, Hid (Below w5.heap.size w5 X) → Calls Tryd.prog 18 #[.int .i64 (v - z)] X fun e w' => e = .returned (.string N) ∧ Hid (Below w5.heap.size w5 w') ∧ w'.cell? ⟨w.heap.size, 1, none⟩ = some (.int .i64 v) ∧ w'.cell? ⟨w.heap.size, 2, none⟩ = some (.int .i64 z) ∧ w'.cell? ⟨w.heap.size, 3, none⟩ = some (.string f) ∧ w'.cell? ⟨w.heap.size, 4, none⟩ = some (.string t)) := by
    intro X bX
    refine (HN.out X).mono ?_
    rintro e w' ⟨rfl, hb⟩
    have bb := bX.out.trans (hb.mono bX.out.size)
    have Bsq := Bs5.out.below bb Bs5.out.lt
    exact ⟨rfl, bb, Bsq.cell 1, Bsq.cell 2, Bsq.cell 3, Bsq.cell 4⟩
  go_wp2_with fail
  have mk0 : True := trivial
  go_region_held3 (fun w' => w'.cell? ⟨w.heap.size, 1, none⟩ = some (.int .i64 v) ∧ w'.cell? ⟨w.heap.size, 2, none⟩ = some (.int .i64 z) ∧ w'.cell? ⟨w.heap.size, 3, none⟩ = some (.string f) ∧ w'.cell? ⟨w.heap.size, 4, none⟩ = some (.string t)) (go_keep) (first
    | (clear mk0; go_at_call 18; refine (C0.out _ b0).mono ?_; rintro e w6 ⟨rfl, b1, q0_0, q0_1, q0_2, q0_3⟩; have mk1 : True := trivial))
  have Bs6 := hide (Bs5.out.below b1.out Bs5.out.lt)
  have HB6 := hide (HB5.out.trans (b1.out.mono HB5.out.size))
  clear mk1 b0 b1 C0 q0_0 q0_1 q0_2 q0_3 Bs5 HB5 ys0 ys1 ys2 ys3 ys4 ys5
  obtain ⟨ys0, ys1, ys2, ys3, ys4, ys5⟩ := Bs6.out.six
  go_wp2
  go_ret
  exact ⟨rfl, HB6.out⟩

set_option maxHeartbeats 2000000 in
theorem omay_y (i : ByteArray) (v z : Int) (t : ByteArray) (e : Int) (N : ByteArray) (w : World) (h0 : NumT (bys i) 8192) (h1 : NumT (bys t) 8192) (h2 : 0 ≤ v ∧ v ≤ 8192) (h3 : 0 ≤ z ∧ z ≤ 8192) (h4 : 0 ≤ e ∧ e ≤ 8192) (h5 : z ≤ v) (h6 : bys t ≠ [48]) (h7 : (t.size : Int) ≤ z) (hN : ∀ W, Calls Tryd.prog 18 #[.int .i64 (v - z)] W fun e w' => e = .returned (.string N) ∧ Below W.heap.size W w') (hn : N.size ≤ 10000) (ht : t.size ≤ 10000) : Calls Tryd.prog 8 #[opV i v z (t ++ N) t e] w fun e w' => e = .returned (.bool true) ∧ Below w.heap.size w w' := by
  have K0 := hide (fun W => isNum_T i W h0)
  have K1 := hide (fun W => isNum_T t W h1)
  have K2 := hide (fun W => isCount_t v W h2.1 h2.2)
  have K3 := hide (fun W => isCount_t z W h3.1 h3.2)
  have K4 := hide (fun W => isCount_t e W h4.1 h4.2)
  have g5 : decide (v < z) = false := decide_eq_false (by omega)
  have hq := ne_nought h6
  have HN := hide hN
  have hw : IntKind.i64.wrap (v - z) = v - z := by rw [IntKind.wrap_i64]; omega
  have hs : ¬ 9223372036854775807 < t.size + N.size := by omega
  have h8 : decide ((t.size : Int) ≤ z) = true := decide_eq_true h7
  clear h5 h6 h7 hN hn ht
  clear h0 h1 h2 h3 h4
  have Bs0 := hide (Blk.newAt w (w.heap.size) (rfl) #[.string i, .int .i64 v, .int .i64 z, .string (t ++ N), .string t, .int .i64 e] 23)
  have HB0 : Hid (Below w.heap.size w (w.alloc (.cells #[.string i, .int .i64 v, .int .i64 z, .string (t ++ N), .string t, .int .i64 e] 23))) := ((Below.refl _ _).alloc (Nat.le_refl _) _)
  go_enter Tryd.func8, Tryd.ntmps8
  go_wp2_with fail
  refine (K0.out _).mono ?_
  rintro e w1 ⟨rfl, hb⟩
  have Bs1 := Blk.on Bs0 hb
  have HB1 := hide (HB0.out.trans (hb.mono HB0.out.size))
  clear hb Bs0 HB0 
  obtain ⟨ys0, ys1, ys2, ys3, ys4, ys5⟩ := Bs1.out.six
  go_wp2_with fail
  refine (K1.out _).mono ?_
  rintro e w2 ⟨rfl, hb⟩
  have Bs2 := Blk.on Bs1 hb
  have HB2 := hide (HB1.out.trans (hb.mono HB1.out.size))
  clear hb Bs1 HB1 ys0 ys1 ys2 ys3 ys4 ys5
  obtain ⟨ys0, ys1, ys2, ys3, ys4, ys5⟩ := Bs2.out.six
  go_wp2_with fail
  refine (K2.out _).mono ?_
  rintro e w3 ⟨rfl, hb⟩
  have Bs3 := Blk.on Bs2 hb
  have HB3 := hide (HB2.out.trans (hb.mono HB2.out.size))
  clear hb Bs2 HB2 ys0 ys1 ys2 ys3 ys4 ys5
  obtain ⟨ys0, ys1, ys2, ys3, ys4, ys5⟩ := Bs3.out.six
  go_wp2_with fail
  refine (K3.out _).mono ?_
  rintro e w4 ⟨rfl, hb⟩
  have Bs4 := Blk.on Bs3 hb
  have HB4 := hide (HB3.out.trans (hb.mono HB3.out.size))
  clear hb Bs3 HB3 ys0 ys1 ys2 ys3 ys4 ys5
  obtain ⟨ys0, ys1, ys2, ys3, ys4, ys5⟩ := Bs4.out.six
  go_wp2_with fail
  refine (K4.out _).mono ?_
  rintro e w5 ⟨rfl, hb⟩
  have Bs5 := Blk.on Bs4 hb
  have HB5 := hide (HB4.out.trans (hb.mono HB4.out.size))
  clear hb Bs4 HB4 ys0 ys1 ys2 ys3 ys4 ys5
  obtain ⟨ys0, ys1, ys2, ys3, ys4, ys5⟩ := Bs5.out.six
  have b0 : Hid (Below w5.heap.size w5 w5.drew) := bdrewD w5
  have C0 : Hid (∀ X, Hid (Below w5.heap.size w5 X) → Calls Tryd.prog 18 #[.int .i64 (v - z)] X fun e w' => e = .returned (.string N) ∧ Hid (Below w5.heap.size w5 w') ∧ w'.cell? ⟨w.heap.size, 1, none⟩ = some (.int .i64 v) ∧ w'.cell? ⟨w.heap.size, 2, none⟩ = some (.int .i64 z) ∧ w'.cell? ⟨w.heap.size, 3, none⟩ = some (.string (t ++ N)) ∧ w'.cell? ⟨w.heap.size, 4, none⟩ = some (.string t)) := by
    intro X bX
    refine (HN.out X).mono ?_
    rintro e w' ⟨rfl, hb⟩
    have bb := bX.out.trans (hb.mono bX.out.size)
    have Bsq := Bs5.out.below bb Bs5.out.lt
    exact ⟨rfl, bb, Bsq.cell 1, Bsq.cell 2, Bsq.cell 3, Bsq.cell 4⟩
  go_wp2_with fail
  have mk0 : True := trivial
  go_region_held3 (fun w' => w'.cell? ⟨w.heap.size, 1, none⟩ = some (.int .i64 v) ∧ w'.cell? ⟨w.heap.size, 2, none⟩ = some (.int .i64 z) ∧ w'.cell? ⟨w.heap.size, 3, none⟩ = some (.string (t ++ N)) ∧ w'.cell? ⟨w.heap.size, 4, none⟩ = some (.string t)) (go_keep) (first
    | (clear mk0; go_at_call 18; refine (C0.out _ b0).mono ?_; rintro e w6 ⟨rfl, b1, q0_0, q0_1, q0_2, q0_3⟩; have mk1 : True := trivial))
  have Bs6 := hide (Bs5.out.below b1.out Bs5.out.lt)
  have HB6 := hide (HB5.out.trans (b1.out.mono HB5.out.size))
  clear mk1 b0 b1 C0 q0_0 q0_1 q0_2 q0_3 Bs5 HB5 ys0 ys1 ys2 ys3 ys4 ys5
  obtain ⟨ys0, ys1, ys2, ys3, ys4, ys5⟩ := Bs6.out.six
  go_wp2
  go_ret
  exact ⟨rfl, HB6.out⟩

theorem bys_inj {f g : ByteArray} (h : bys f = bys g) : f = g := (mk_bys f).symm.trans ((congrArg (fun l : List UInt8 => (⟨l.toArray⟩ : ByteArray)) h).trans (mk_bys g))

theorem NumT.up {l : List UInt8} {m m' : Int} (h : NumT l m) (hm : m ≤ m') : NumT l m' := by
  rcases h with h | ⟨h1, h2, h3⟩
  · exact .inl h
  · exact .inr ⟨h1, by omega, h3⟩

theorem mayO_iff (x : OperT) : MayO x ↔ NumT x.i 8192 ∧ NumT x.t 8192 ∧ (0 ≤ x.v ∧ x.v ≤ 8192) ∧ (0 ≤ x.w ∧ x.w ≤ 8192) ∧ (0 ≤ x.e ∧ x.e ≤ 8192) ∧ x.w ≤ x.v ∧ ((x.t = [48] ∧ x.f = [48]) ∨ (x.t ≠ [48] ∧ (x.t.length : Int) ≤ x.w ∧ x.f = x.t ++ List.replicate (x.v - x.w).toNat 48)) := by
  constructor
  · rintro ⟨⟨v1, v2⟩, ⟨w1, w2⟩, ⟨e1, e2⟩, hi, hf, ht, h1, h2⟩
    refine ⟨hi, ht.up (by omega), ⟨v1, v2⟩, ⟨w1, by omega⟩, ⟨e1, e2⟩, w2, ?_⟩
    by_cases h : x.t = [48]
    · exact .inl ⟨h, h1 h⟩
    · exact .inr ⟨h, (ht.resolve_left h).2.1, h2 h⟩
  · rintro ⟨hi, ht, ⟨v1, v2⟩, ⟨w1, w2⟩, ⟨e1, e2⟩, hw, h⟩
    rcases h with ⟨h1, h2⟩ | ⟨h1, h2, h3⟩
    · exact ⟨⟨v1, v2⟩, ⟨w1, hw⟩, ⟨e1, e2⟩, hi, .inl h2, .inl h1, fun _ => h2, fun g => absurd h1 g⟩
    · obtain ⟨a1, a2, a3, a4⟩ := ht.resolve_left h1
      refine ⟨⟨v1, v2⟩, ⟨w1, hw⟩, ⟨e1, e2⟩, hi, .inr ⟨?_, ?_, ?_, ?_⟩, .inr ⟨a1, h2, a3, a4⟩, fun g => absurd g h1, fun _ => h3⟩
      · rw [h3]; intro g; exact a1 (List.append_eq_nil_iff.1 g).1
      · rw [h3, List.length_append, List.length_replicate]; omega
      · rw [h3, byt_append_left _ _ (List.length_pos_iff.2 a1)]; exact a3
      · rw [h3]; exact a4.append (digB_rep _)

theorem May_T (i : ByteArray) (v z : Int) (f t : ByteArray) (e : Int) (w : World) (h : MayO ⟨bys i, v, z, bys f, bys t, e⟩) : Calls Tryd.prog 8 #[opV i v z f t e] w fun e w' => e = .returned (.bool true) ∧ Below w.heap.size w w' := by
  obtain ⟨h0, h1, h2, h3, h4, h5, h⟩ := (mayO_iff _).1 h
  simp only at h0 h1 h2 h3 h4 h5 h
  rcases h with ⟨g1, g2⟩ | ⟨g1, g2, g3⟩
  · obtain rfl : t = ⟨#[48]⟩ := by rw [← mk_bys t, g1]
    obtain rfl : f = ⟨#[48]⟩ := by rw [← mk_bys f, g2]
    exact omay_zt i v z e w h0 h2 h3 h4 h5
  · have hl : t.size ≤ 8192 := by
      rw [bys_len] at g2
      omega
    obtain rfl : f = t ++ ⟨(List.replicate (v - z).toNat 48).toArray⟩ := bys_inj (by rw [g3, bys_append, bys_mk (List.replicate (v - z).toNat 48)])
    refine omay_y i v z t e _ w h0 h1 h2 h3 h4 h5 g1 (by rw [bys_len] at g2; exact g2) (fun W => ?_) (by rw [size_mk0, List.length_replicate]; omega) (by omega)
    have := onoughts_any (v - z).toNat W (by omega)
    rwa [show (((v - z).toNat : Nat) : Int) = v - z by omega] at this

theorem May_F (i : ByteArray) (v z : Int) (f t : ByteArray) (e : Int) (w : World) (h : ¬ MayO ⟨bys i, v, z, bys f, bys t, e⟩) : Calls Tryd.prog 8 #[opV i v z f t e] w fun e w' => e = .returned (.bool false) ∧ Below w.heap.size w w' := by
  rw [mayO_iff] at h
  simp only at h
  by_cases h0 : NumT (bys i) 8192
  rotate_left
  · exact omay_0 i v z f t e w h0
  by_cases h1 : NumT (bys t) 8192
  rotate_left
  · exact omay_1 i v z f t e w h0 h1
  by_cases h2 : 0 ≤ v ∧ v ≤ 8192
  rotate_left
  · exact omay_2 i v z f t e w h0 h1 h2
  by_cases h3 : 0 ≤ z ∧ z ≤ 8192
  rotate_left
  · exact omay_3 i v z f t e w h0 h1 h2 h3
  by_cases h4 : 0 ≤ e ∧ e ≤ 8192
  rotate_left
  · exact omay_4 i v z f t e w h0 h1 h2 h3 h4
  by_cases h5 : z ≤ v
  rotate_left
  · exact omay_5 i v z f t e w h0 h1 h2 h3 h4 (by omega)
  by_cases g1 : bys t = [48]
  · obtain rfl : t = ⟨#[48]⟩ := by rw [← mk_bys t, g1]
    exact omay_zf i v z f e w h0 h2 h3 h4 h5 (fun g => h ⟨h0, h1, h2, h3, h4, h5, .inl ⟨g1, g⟩⟩)
  · by_cases g2 : (t.size : Int) ≤ z
    · refine omay_n i v z f t e w h0 h1 h2 h3 h4 h5 g1 g2 ⟨(List.replicate (v - z).toNat 48).toArray⟩ (fun W => ?_) (by rw [size_mk0, List.length_replicate]; omega) (by omega) (fun g => h ⟨h0, h1, h2, h3, h4, h5, .inr ⟨g1, by rw [bys_len]; exact g2, by rw [g, bys_mk (List.replicate (v - z).toNat 48)]⟩⟩)
      have := onoughts_any (v - z).toNat W (by omega)
      rwa [show (((v - z).toNat : Nat) : Int) = v - z by omega] at this
    · exact omay_l i v z f t e w h0 h1 h2 h3 h4 h5 g1 g2

end Go.Proofs.YtobloamnaemfnaaDoor

namespace Go.Proofs.YtobloamnaemfnaaDoor
open Go.RowKit

theorem digB_all {l : List UInt8} (h : l.all (fun b => decide (48 ≤ b.toNat) && decide (b.toNat ≤ 57)) = true) : DigB l := by
  intro k hk
  unfold byt
  rw [List.getElem?_eq_getElem hk]
  have := List.all_eq_true.1 h _ (List.getElem_mem hk)
  simpa using this

theorem qs1 : ofS ⟨0, false, [48, 49], [50, 51, 48], 0, false⟩ = (⟨[49], 3, 2, [50, 51, 48], [50, 51], 0⟩, 0) := (ofS_yes ⟨⟨⟨by decide, by decide⟩, .inl ⟨rfl, .inl (by decide), ⟨by decide, digB_all rfl⟩, ⟨by decide, digB_all rfl⟩⟩⟩, rfl, fun h => by first | decide | cases h⟩).trans rfl
theorem qs2 : ofS ⟨0, false, [49], [50], 6, true⟩ = (⟨[49, 50, 48, 48, 48, 48, 48], 0, 0, [48], [48], 6⟩, 0) := (ofS_yes ⟨⟨⟨by decide, by decide⟩, .inl ⟨rfl, .inl (by decide), ⟨by decide, digB_all rfl⟩, ⟨by decide, digB_all rfl⟩⟩⟩, rfl, fun h => by first | decide | cases h⟩).trans rfl
theorem qs3 : ofS ⟨0, false, [], [], 0, false⟩ = (⟨[], 0, 0, [], [], 0⟩, 80) := ofS_no (by
  rintro ⟨⟨_, ⟨_, h, _⟩ | ⟨h, _⟩ | ⟨h, _⟩⟩, _, _⟩
  · exact h.elim (fun g => g rfl) (fun g => g rfl)
  · exact absurd (show (0 : Int) = 1 from h) (by decide)
  · exact absurd (show (0 : Int) = 2 from h) (by decide))
theorem qm1 : MayO ⟨[49], 3, 2, [50, 51, 48], [50, 51], 0⟩ := by
  have h : HasO ⟨0, false, [48, 49], [50, 51, 48], 0, false⟩ := ⟨⟨⟨by decide, by decide⟩, .inl ⟨rfl, .inl (by decide), ⟨by decide, digB_all rfl⟩, ⟨by decide, digB_all rfl⟩⟩⟩, rfl, fun h => by first | decide | cases h⟩
  have e := congrArg Prod.fst ((ofS_yes h).symm.trans qs1)
  have g := oper_may h
  rw [show operS ⟨0, false, [48, 49], [50, 51, 48], 0, false⟩ = ⟨[49], 3, 2, [50, 51, 48], [50, 51], 0⟩ from e] at g
  exact g
theorem qm3 : ¬ MayO ⟨[], 0, 0, [], [], 0⟩ := fun h => by
  rcases h.2.2.2.1 with g | g
  · exact absurd (show ([] : List UInt8) = [48] from g) (by decide)
  · exact g.1 rfl

theorem qo1 (w : World) (htab : Tab w) : Calls Tryd.prog 6 #[shV 0 false ⟨#[48, 49]⟩ ⟨#[50, 51, 48]⟩ 0 false] w fun e w' => e = .returned (.tuple #[.agg #[.string ⟨#[49]⟩, .int .i64 3, .int .i64 2, .string ⟨#[50, 51, 48]⟩, .string ⟨#[50, 51]⟩, .int .i64 0], .int .i64 0]) ∧ Below w.heap.size w w' := by
  have h := Of_any 0 false ⟨#[48, 49]⟩ ⟨#[50, 51, 48]⟩ 0 false w htab
  rw [show ofS ⟨0, false, bys ⟨#[48, 49]⟩, bys ⟨#[50, 51, 48]⟩, 0, false⟩ = (⟨[49], 3, 2, [50, 51, 48], [50, 51], 0⟩, 0) from qs1] at h
  exact h
theorem qo2 (w : World) (htab : Tab w) : Calls Tryd.prog 6 #[shV 0 false ⟨#[49]⟩ ⟨#[50]⟩ 6 true] w fun e w' => e = .returned (.tuple #[.agg #[.string ⟨#[49, 50, 48, 48, 48, 48, 48]⟩, .int .i64 0, .int .i64 0, .string ⟨#[48]⟩, .string ⟨#[48]⟩, .int .i64 6], .int .i64 0]) ∧ Below w.heap.size w w' := by
  have h := Of_any 0 false ⟨#[49]⟩ ⟨#[50]⟩ 6 true w htab
  rw [show ofS ⟨0, false, bys ⟨#[49]⟩, bys ⟨#[50]⟩, 6, true⟩ = (⟨[49, 50, 48, 48, 48, 48, 48], 0, 0, [48], [48], 6⟩, 0) from qs2] at h
  exact h
theorem qo3 (w : World) (htab : Tab w) : Calls Tryd.prog 6 #[shV 0 false ⟨#[]⟩ ⟨#[]⟩ 0 false] w fun e w' => e = .returned (.tuple #[.agg #[.string ⟨#[]⟩, .int .i64 0, .int .i64 0, .string ⟨#[]⟩, .string ⟨#[]⟩, .int .i64 0], .int .i64 80]) ∧ Below w.heap.size w w' := by
  have h := Of_any 0 false ⟨#[]⟩ ⟨#[]⟩ 0 false w htab
  rw [show ofS ⟨0, false, bys ⟨#[]⟩, bys ⟨#[]⟩, 0, false⟩ = (⟨[], 0, 0, [], [], 0⟩, 80) from qs3] at h
  exact h
set_option maxRecDepth 100000 in
set_option maxHeartbeats 4000000 in
theorem qawake_any (w : World) (htab : Tab w) : Calls Tryd.prog 7 #[] w fun e w' => e = .returned (.bool true) ∧ Below w.heap.size w w' := by
  have HT := hide htab
  have HB0 : Hid (Below w.heap.size w w) := Below.refl _ _
  clear htab
  go_enter Tryd.func7, Tryd.ntmps7
  go_wp2_with fail
  refine (qo1 _ (HT.out.below HB0.out)).mono ?_
  rintro e w1 ⟨rfl, hb⟩
  have HB1 := hide (HB0.out.trans (hb.mono HB0.out.size))
  clear hb  HB0 
  have Bx2 := hide ((Blk.newAt w1 (w1.heap.size) (rfl) #[.string ⟨#[49]⟩, .int .i64 3, .int .i64 2, .string ⟨#[50, 51, 48]⟩, .string ⟨#[50, 51]⟩, .int .i64 0] 23))
  have HB2 : Hid (Below w.heap.size w (w1.alloc (.cells #[.string ⟨#[49]⟩, .int .i64 3, .int .i64 2, .string ⟨#[50, 51, 48]⟩, .string ⟨#[50, 51]⟩, .int .i64 0] 23))) := (HB1.out.alloc HB1.out.size _)
  clear  HB1 
  obtain ⟨yx0, yx1, yx2, yx3, yx4, yx5⟩ := Bx2.out.six
  go_wp2_with fail
  refine (qo2 _ (HT.out.below HB2.out)).mono ?_
  rintro e w3 ⟨rfl, hb⟩
  have Bx3 := Blk.on Bx2 hb
  have HB3 := hide (HB2.out.trans (hb.mono HB2.out.size))
  clear hb Bx2 HB2 yx0 yx1 yx2 yx3 yx4 yx5
  obtain ⟨yx0, yx1, yx2, yx3, yx4, yx5⟩ := Bx3.out.six
  have Bx4 := Blk.up Bx3 (.cells #[.string ⟨#[49, 50, 48, 48, 48, 48, 48]⟩, .int .i64 0, .int .i64 0, .string ⟨#[48]⟩, .string ⟨#[48]⟩, .int .i64 6] 23)
  have By4 := hide ((Blk.newAt w3 (w3.heap.size) (rfl) #[.string ⟨#[49, 50, 48, 48, 48, 48, 48]⟩, .int .i64 0, .int .i64 0, .string ⟨#[48]⟩, .string ⟨#[48]⟩, .int .i64 6] 23))
  have HB4 : Hid (Below w.heap.size w (w3.alloc (.cells #[.string ⟨#[49, 50, 48, 48, 48, 48, 48]⟩, .int .i64 0, .int .i64 0, .string ⟨#[48]⟩, .string ⟨#[48]⟩, .int .i64 6] 23))) := (HB3.out.alloc HB3.out.size _)
  clear Bx3 HB3 yx0 yx1 yx2 yx3 yx4 yx5
  obtain ⟨yx0, yx1, yx2, yx3, yx4, yx5⟩ := Bx4.out.six
  obtain ⟨yy0, yy1, yy2, yy3, yy4, yy5⟩ := By4.out.six
  go_wp2_with fail
  refine (qo3 _ (HT.out.below HB4.out)).mono ?_
  rintro e w5 ⟨rfl, hb⟩
  have Bx5 := Blk.on Bx4 hb
  have By5 := Blk.on By4 hb
  have HB5 := hide (HB4.out.trans (hb.mono HB4.out.size))
  clear hb Bx4 By4 HB4 yx0 yx1 yx2 yx3 yx4 yx5 yy0 yy1 yy2 yy3 yy4 yy5
  obtain ⟨yx0, yx1, yx2, yx3, yx4, yx5⟩ := Bx5.out.six
  obtain ⟨yy0, yy1, yy2, yy3, yy4, yy5⟩ := By5.out.six
  have Bx6 := Blk.up Bx5 (.cells #[.string ⟨#[]⟩, .int .i64 0, .int .i64 0, .string ⟨#[]⟩, .string ⟨#[]⟩, .int .i64 0] 23)
  have By6 := Blk.up By5 (.cells #[.string ⟨#[]⟩, .int .i64 0, .int .i64 0, .string ⟨#[]⟩, .string ⟨#[]⟩, .int .i64 0] 23)
  have Bg6 := hide ((Blk.newAt w5 (w5.heap.size) (rfl) #[.string ⟨#[]⟩, .int .i64 0, .int .i64 0, .string ⟨#[]⟩, .string ⟨#[]⟩, .int .i64 0] 23))
  have HB6 : Hid (Below w.heap.size w (w5.alloc (.cells #[.string ⟨#[]⟩, .int .i64 0, .int .i64 0, .string ⟨#[]⟩, .string ⟨#[]⟩, .int .i64 0] 23))) := (HB5.out.alloc HB5.out.size _)
  clear Bx5 By5 HB5 yx0 yx1 yx2 yx3 yx4 yx5 yy0 yy1 yy2 yy3 yy4 yy5
  obtain ⟨yx0, yx1, yx2, yx3, yx4, yx5⟩ := Bx6.out.six
  obtain ⟨yy0, yy1, yy2, yy3, yy4, yy5⟩ := By6.out.six
  obtain ⟨yg0, yg1, yg2, yg3, yg4, yg5⟩ := Bg6.out.six
  have Bx7 := Blk.up Bx6 (.cells #[.string ⟨#[49]⟩, .int .i64 3, .int .i64 2, .string ⟨#[50, 51, 48]⟩, .string ⟨#[50, 51]⟩, .int .i64 0] 23)
  have By7 := Blk.up By6 (.cells #[.string ⟨#[49]⟩, .int .i64 3, .int .i64 2, .string ⟨#[50, 51, 48]⟩, .string ⟨#[50, 51]⟩, .int .i64 0] 23)
  have Bg7 := Blk.up Bg6 (.cells #[.string ⟨#[49]⟩, .int .i64 3, .int .i64 2, .string ⟨#[50, 51, 48]⟩, .string ⟨#[50, 51]⟩, .int .i64 0] 23)
  have Bm7 := hide ((Blk.newAt (w5.alloc (.cells #[.string ⟨#[]⟩, .int .i64 0, .int .i64 0, .string ⟨#[]⟩, .string ⟨#[]⟩, .int .i64 0] 23)) ((w5.alloc (.cells #[.string ⟨#[]⟩, .int .i64 0, .int .i64 0, .string ⟨#[]⟩, .string ⟨#[]⟩, .int .i64 0] 23)).heap.size) (rfl) #[.string ⟨#[49]⟩, .int .i64 3, .int .i64 2, .string ⟨#[50, 51, 48]⟩, .string ⟨#[50, 51]⟩, .int .i64 0] 23))
  have HB7 : Hid (Below w.heap.size w ((w5.alloc (.cells #[.string ⟨#[]⟩, .int .i64 0, .int .i64 0, .string ⟨#[]⟩, .string ⟨#[]⟩, .int .i64 0] 23)).alloc (.cells #[.string ⟨#[49]⟩, .int .i64 3, .int .i64 2, .string ⟨#[50, 51, 48]⟩, .string ⟨#[50, 51]⟩, .int .i64 0] 23))) := (HB6.out.alloc HB6.out.size _)
  clear Bx6 By6 Bg6 HB6 yx0 yx1 yx2 yx3 yx4 yx5 yy0 yy1 yy2 yy3 yy4 yy5 yg0 yg1 yg2 yg3 yg4 yg5
  obtain ⟨yx0, yx1, yx2, yx3, yx4, yx5⟩ := Bx7.out.six
  obtain ⟨yy0, yy1, yy2, yy3, yy4, yy5⟩ := By7.out.six
  obtain ⟨yg0, yg1, yg2, yg3, yg4, yg5⟩ := Bg7.out.six
  obtain ⟨ym0, ym1, ym2, ym3, ym4, ym5⟩ := Bm7.out.six
  go_wp2_with fail
  refine (May_T ⟨#[49]⟩ 3 2 ⟨#[50, 51, 48]⟩ ⟨#[50, 51]⟩ 0 _ qm1).mono ?_
  rintro e w8 ⟨rfl, hb⟩
  have Bx8 := Blk.on Bx7 hb
  have By8 := Blk.on By7 hb
  have Bg8 := Blk.on Bg7 hb
  have Bm8 := Blk.on Bm7 hb
  have HB8 := hide (HB7.out.trans (hb.mono HB7.out.size))
  clear hb Bx7 By7 Bg7 Bm7 HB7 yx0 yx1 yx2 yx3 yx4 yx5 yy0 yy1 yy2 yy3 yy4 yy5 yg0 yg1 yg2 yg3 yg4 yg5 ym0 ym1 ym2 ym3 ym4 ym5
  obtain ⟨yx0, yx1, yx2, yx3, yx4, yx5⟩ := Bx8.out.six
  obtain ⟨yy0, yy1, yy2, yy3, yy4, yy5⟩ := By8.out.six
  obtain ⟨yg0, yg1, yg2, yg3, yg4, yg5⟩ := Bg8.out.six
  obtain ⟨ym0, ym1, ym2, ym3, ym4, ym5⟩ := Bm8.out.six
  go_wp2_with fail
  refine (May_F ⟨#[]⟩ 0 0 ⟨#[]⟩ ⟨#[]⟩ 0 _ qm3).mono ?_
  rintro e w9 ⟨rfl, hb⟩
  have Bx9 := Blk.on Bx8 hb
  have By9 := Blk.on By8 hb
  have Bg9 := Blk.on Bg8 hb
  have Bm9 := Blk.on Bm8 hb
  have HB9 := hide (HB8.out.trans (hb.mono HB8.out.size))
  clear hb Bx8 By8 Bg8 Bm8 HB8 yx0 yx1 yx2 yx3 yx4 yx5 yy0 yy1 yy2 yy3 yy4 yy5 yg0 yg1 yg2 yg3 yg4 yg5 ym0 ym1 ym2 ym3 ym4 ym5
  obtain ⟨yx0, yx1, yx2, yx3, yx4, yx5⟩ := Bx9.out.six
  obtain ⟨yy0, yy1, yy2, yy3, yy4, yy5⟩ := By9.out.six
  obtain ⟨yg0, yg1, yg2, yg3, yg4, yg5⟩ := Bg9.out.six
  obtain ⟨ym0, ym1, ym2, ym3, ym4, ym5⟩ := Bm9.out.six
  go_wp2
  go_ret
  exact ⟨rfl, HB9.out⟩

end Go.Proofs.YtobloamnaemfnaaDoor
