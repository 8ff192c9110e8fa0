/-
  What width's areShown, mayShown and Value do.
-/
import Derived.Test.YtbfegnbaleclfaaGreatDoorAB15
import Derived.Test.YtbfegnbaleclfaaGreatDoorAB18
import Derived.Test.YtbfegnbaleclfaaGreatDoorAB19
import Derived.Shelf.Strings.SlTrimAscii
import Derived.Deep.RegionHeld3
namespace Go.Proofs.YtbfegnbaleclfaaGreatDoor
open Go.RowKit

abbrev shV (c : Int) (n : Bool) (ti tf : ByteArray) (x : Int) (cm : Bool) : Value := .agg #[.int .i64 c, .bool n, .string ti, .string tf, .int .i64 x, .bool cm]

theorem trim_ten (t : ByteArray) (w : World) (h : t.size ≤ 4096) : Calls Tryz.prog 41 #[.string t, .string ⟨#[48, 49, 50, 51, 52, 53, 54, 55, 56, 57]⟩] w fun e w' => e = .returned (.string ⟨(Lib.trimS (bys t) tenD).toArray⟩) ∧ Below w.heap.size w w' :=
  Any.strings_Trim_laid Tryz.lays160 (by kernel_rfl) t ⟨#[48, 49, 50, 51, 52, 53, 54, 55, 56, 57]⟩ w (by omega) (by decide) (ascii_of_all (by decide))

set_option maxHeartbeats 1000000 in
theorem areShown_long (t : ByteArray) (w : World) (h : 4096 < t.size) : Calls Tryz.prog 28 #[.string t] w fun e w' => e = .returned (.bool false) ∧ Below w.heap.size w w' := by
  have h2 : decide ((t.size : Int) ≤ 4096) = false := decide_eq_false (by omega)
  clear h
  go_enter Tryz.func28, Tryz.ntmps28
  go_wp2
  go_ret
  exact ⟨rfl, Below.refl _ _⟩

set_option maxHeartbeats 1000000 in
theorem areShown_t (t : ByteArray) (w : World) (h : t.size ≤ 4096) (g : Lib.trimS (bys t) tenD = []) : Calls Tryz.prog 28 #[.string t] w fun e w' => e = .returned (.bool true) ∧ Below w.heap.size w w' := by
  have TR := hide (fun W => trim_ten t W h)
  have h2 : decide ((t.size : Int) ≤ 4096) = true := decide_eq_true (by omega)
  obtain ⟨D, hD⟩ : ∃ D : ByteArray, D = ⟨(Lib.trimS (bys t) tenD).toArray⟩ := ⟨_, rfl⟩
  rw [← hD] at TR
  obtain rfl : D = ⟨#[]⟩ := by rw [hD, g]
  clear hD g h
  go_enter Tryz.func28, Tryz.ntmps28
  go_wp2_with fail
  refine (TR.out _).mono ?_
  rintro e w1 ⟨rfl, hb⟩
  have HB := hide hb
  clear hb
  go_wp2
  go_ret
  exact ⟨rfl, HB.out⟩

set_option maxHeartbeats 1000000 in
theorem areShown_f (t : ByteArray) (w : World) (h : t.size ≤ 4096) (g : Lib.trimS (bys t) tenD ≠ []) : Calls Tryz.prog 28 #[.string t] w fun e w' => e = .returned (.bool false) ∧ Below w.heap.size w w' := by
  have TR := hide (fun W => trim_ten t W h)
  have h2 : decide ((t.size : Int) ≤ 4096) = true := decide_eq_true (by omega)
  obtain ⟨D, hD⟩ : ∃ D : ByteArray, D = ⟨(Lib.trimS (bys t) tenD).toArray⟩ := ⟨_, rfl⟩
  rw [← hD] at TR
  have hn := toList_ne (t := D) (by rw [hD, size_mk0]; exact fun e => g (List.length_eq_zero_iff.1 e))
  clear hD g h
  go_enter Tryz.func28, Tryz.ntmps28
  go_wp2_with fail
  refine (TR.out _).mono ?_
  rintro e w1 ⟨rfl, hb⟩
  have HB := hide hb
  clear hb
  go_wp2
  go_ret
  exact ⟨rfl, HB.out⟩

theorem areShown_T (t : ByteArray) (w : World) (h : (bys t).length ≤ 4096 ∧ DigB (bys t)) : Calls Tryz.prog 28 #[.string t] w fun e w' => e = .returned (.bool true) ∧ Below w.heap.size w w' :=
  areShown_t t w (by have := h.1; rwa [bys_len] at this) (trim_digB.2 h.2)
theorem areShown_F (t : ByteArray) (w : World) (h : ¬ ((bys t).length ≤ 4096 ∧ DigB (bys t))) : Calls Tryz.prog 28 #[.string t] w fun e w' => e = .returned (.bool false) ∧ Below w.heap.size w w' := by
  rw [bys_len] at h
  by_cases h1 : t.size ≤ 4096
  · exact areShown_f t w h1 (fun g => h ⟨h1, trim_digB.1 g⟩)
  · exact areShown_long t w (by omega)

set_option maxHeartbeats 1000000 in
theorem mayShown_x (c : Int) (n : Bool) (ti tf : ByteArray) (x : Int) (cm : Bool) (w : World) (h : ¬ (-2001 ≤ x ∧ x ≤ 2001)) : Calls Tryz.prog 20 #[shV c n ti tf x cm] w fun e w' => e = .returned (.bool false) ∧ Below w.heap.size w w' := by
  have C0 := hide (fun W => within_f x (-2001) 2001 W h)
  clear h
  have Bs0 := hide (Blk.newAt w (w.heap.size) (rfl) #[.int .i64 c, .bool n, .string ti, .string tf, .int .i64 x, .bool cm] 23)
  have HB0 : Hid (Below w.heap.size w (w.alloc (.cells #[.int .i64 c, .bool n, .string ti, .string tf, .int .i64 x, .bool cm] 23))) := ((Below.refl _ _).alloc (Nat.le_refl _) _)
  go_enter Tryz.func20, Tryz.ntmps20
  go_wp2_with fail
  refine (C0.out _).mono ?_
  rintro e w1 ⟨rfl, hb⟩
  have Bs1 := Blk.on Bs0 hb
  have HB1 := hide (HB0.out.trans (hb.mono HB0.out.size))
  clear hb Bs0 HB0 
  obtain ⟨ys0, ys1, ys2, ys3, ys4, ys5⟩ := Bs1.out.six
  go_wp2
  go_ret
  exact ⟨rfl, HB1.out⟩

set_option maxHeartbeats 1000000 in
theorem mayShown_0z (n : Bool) (x : Int) (cm : Bool) (w : World) (x1 : -2001 ≤ x) (x2 : x ≤ 2001) : Calls Tryz.prog 20 #[shV 0 n ⟨#[]⟩ ⟨#[]⟩ x cm] w fun e w' => e = .returned (.bool false) ∧ Below w.heap.size w w' := by
  have C0 := hide (fun W => within_t x (-2001) 2001 W x1 x2)
  clear x1 x2
  have Bs0 := hide (Blk.newAt w (w.heap.size) (rfl) #[.int .i64 0, .bool n, .string ⟨#[]⟩, .string ⟨#[]⟩, .int .i64 x, .bool cm] 23)
  have HB0 : Hid (Below w.heap.size w (w.alloc (.cells #[.int .i64 0, .bool n, .string ⟨#[]⟩, .string ⟨#[]⟩, .int .i64 x, .bool cm] 23))) := ((Below.refl _ _).alloc (Nat.le_refl _) _)
  go_enter Tryz.func20, Tryz.ntmps20
  go_wp2_with fail
  refine (C0.out _).mono ?_
  rintro e w1 ⟨rfl, hb⟩
  have Bs1 := Blk.on Bs0 hb
  have HB1 := hide (HB0.out.trans (hb.mono HB0.out.size))
  clear hb Bs0 HB0 
  obtain ⟨ys0, ys1, ys2, ys3, ys4, ys5⟩ := Bs1.out.six
  go_wp2
  go_ret
  exact ⟨rfl, HB1.out⟩

set_option maxHeartbeats 1000000 in
theorem mayShown_0if (n : Bool) (ti tf : ByteArray) (x : Int) (cm : Bool) (w : World) (x1 : -2001 ≤ x) (x2 : x ≤ 2001) (h : ti.size ≠ 0) (g : ¬ ((bys ti).length ≤ 4096 ∧ DigB (bys ti))) : Calls Tryz.prog 20 #[shV 0 n ti tf x cm] w fun e w' => e = .returned (.bool false) ∧ Below w.heap.size w w' := by
  have C0 := hide (fun W => within_t x (-2001) 2001 W x1 x2)
  have C1 := hide (fun W => areShown_F ti W g)
  have hn := toList_ne h
  clear x1 x2 h g
  have Bs0 := hide (Blk.newAt w (w.heap.size) (rfl) #[.int .i64 0, .bool n, .string ti, .string tf, .int .i64 x, .bool cm] 23)
  have HB0 : Hid (Below w.heap.size w (w.alloc (.cells #[.int .i64 0, .bool n, .string ti, .string tf, .int .i64 x, .bool cm] 23))) := ((Below.refl _ _).alloc (Nat.le_refl _) _)
  go_enter Tryz.func20, Tryz.ntmps20
  go_wp2_with fail
  refine (C0.out _).mono ?_
  rintro e w1 ⟨rfl, hb⟩
  have Bs1 := Blk.on Bs0 hb
  have HB1 := hide (HB0.out.trans (hb.mono HB0.out.size))
  clear hb Bs0 HB0 
  obtain ⟨ys0, ys1, ys2, ys3, ys4, ys5⟩ := Bs1.out.six
  go_wp2_with fail
  refine (C1.out _).mono ?_
  rintro e w2 ⟨rfl, hb⟩
  have Bs2 := Blk.on Bs1 hb
  have HB2 := hide (HB1.out.trans (hb.mono HB1.out.size))
  clear hb Bs1 HB1 ys0 ys1 ys2 ys3 ys4 ys5
  obtain ⟨ys0, ys1, ys2, ys3, ys4, ys5⟩ := Bs2.out.six
  go_wp2
  go_ret
  exact ⟨rfl, HB2.out⟩

set_option maxHeartbeats 1000000 in
theorem mayShown_0it (n : Bool) (ti tf : ByteArray) (x : Int) (cm : Bool) (w : World) (x1 : -2001 ≤ x) (x2 : x ≤ 2001) (h : ti.size ≠ 0) (g : (bys ti).length ≤ 4096 ∧ DigB (bys ti)) (b : Bool) (hb : ∀ W, Calls Tryz.prog 28 #[.string tf] W fun e w' => e = .returned (.bool b) ∧ Below W.heap.size W w') : Calls Tryz.prog 20 #[shV 0 n ti tf x cm] w fun e w' => e = .returned (.bool b) ∧ Below w.heap.size w w' := by
  have C0 := hide (fun W => within_t x (-2001) 2001 W x1 x2)
  have C1 := hide (fun W => areShown_T ti W g)
  have C2 := hide (fun W => hb W)
  have hn := toList_ne h
  clear x1 x2 h g hb
  have Bs0 := hide (Blk.newAt w (w.heap.size) (rfl) #[.int .i64 0, .bool n, .string ti, .string tf, .int .i64 x, .bool cm] 23)
  have HB0 : Hid (Below w.heap.size w (w.alloc (.cells #[.int .i64 0, .bool n, .string ti, .string tf, .int .i64 x, .bool cm] 23))) := ((Below.refl _ _).alloc (Nat.le_refl _) _)
  go_enter Tryz.func20, Tryz.ntmps20
  go_wp2_with fail
  refine (C0.out _).mono ?_
  rintro e w1 ⟨rfl, hb⟩
  have Bs1 := Blk.on Bs0 hb
  have HB1 := hide (HB0.out.trans (hb.mono HB0.out.size))
  clear hb Bs0 HB0 
  obtain ⟨ys0, ys1, ys2, ys3, ys4, ys5⟩ := Bs1.out.six
  go_wp2_with fail
  refine (C1.out _).mono ?_
  rintro e w2 ⟨rfl, hb⟩
  have Bs2 := Blk.on Bs1 hb
  have HB2 := hide (HB1.out.trans (hb.mono HB1.out.size))
  clear hb Bs1 HB1 ys0 ys1 ys2 ys3 ys4 ys5
  obtain ⟨ys0, ys1, ys2, ys3, ys4, ys5⟩ := Bs2.out.six
  go_wp2_with fail
  refine (C2.out _).mono ?_
  rintro e w3 ⟨rfl, hb⟩
  have Bs3 := Blk.on Bs2 hb
  have HB3 := hide (HB2.out.trans (hb.mono HB2.out.size))
  clear hb Bs2 HB2 ys0 ys1 ys2 ys3 ys4 ys5
  obtain ⟨ys0, ys1, ys2, ys3, ys4, ys5⟩ := Bs3.out.six
  go_wp2
  go_ret
  exact ⟨rfl, HB3.out⟩

set_option maxHeartbeats 1000000 in
theorem mayShown_0f (n : Bool) (tf : ByteArray) (x : Int) (cm : Bool) (w : World) (x1 : -2001 ≤ x) (x2 : x ≤ 2001) (h : tf.size ≠ 0) (b : Bool) (hb : ∀ W, Calls Tryz.prog 28 #[.string tf] W fun e w' => e = .returned (.bool b) ∧ Below W.heap.size W w') : Calls Tryz.prog 20 #[shV 0 n ⟨#[]⟩ tf x cm] w fun e w' => e = .returned (.bool b) ∧ Below w.heap.size w w' := by
  have C0 := hide (fun W => within_t x (-2001) 2001 W x1 x2)
  have C1 := hide (fun W => areShown_T ⟨#[]⟩ W ⟨by decide, fun k hk => absurd hk (by simp [bys])⟩)
  have C2 := hide (fun W => hb W)
  have hn := toList_ne h
  clear x1 x2 h hb
  have Bs0 := hide (Blk.newAt w (w.heap.size) (rfl) #[.int .i64 0, .bool n, .string ⟨#[]⟩, .string tf, .int .i64 x, .bool cm] 23)
  have HB0 : Hid (Below w.heap.size w (w.alloc (.cells #[.int .i64 0, .bool n, .string ⟨#[]⟩, .string tf, .int .i64 x, .bool cm] 23))) := ((Below.refl _ _).alloc (Nat.le_refl _) _)
  go_enter Tryz.func20, Tryz.ntmps20
  go_wp2_with fail
  refine (C0.out _).mono ?_
  rintro e w1 ⟨rfl, hb⟩
  have Bs1 := Blk.on Bs0 hb
  have HB1 := hide (HB0.out.trans (hb.mono HB0.out.size))
  clear hb Bs0 HB0 
  obtain ⟨ys0, ys1, ys2, ys3, ys4, ys5⟩ := Bs1.out.six
  go_wp2_with fail
  refine (C1.out _).mono ?_
  rintro e w2 ⟨rfl, hb⟩
  have Bs2 := Blk.on Bs1 hb
  have HB2 := hide (HB1.out.trans (hb.mono HB1.out.size))
  clear hb Bs1 HB1 ys0 ys1 ys2 ys3 ys4 ys5
  obtain ⟨ys0, ys1, ys2, ys3, ys4, ys5⟩ := Bs2.out.six
  go_wp2_with fail
  refine (C2.out _).mono ?_
  rintro e w3 ⟨rfl, hb⟩
  have Bs3 := Blk.on Bs2 hb
  have HB3 := hide (HB2.out.trans (hb.mono HB2.out.size))
  clear hb Bs2 HB2 ys0 ys1 ys2 ys3 ys4 ys5
  obtain ⟨ys0, ys1, ys2, ys3, ys4, ys5⟩ := Bs3.out.six
  go_wp2
  go_ret
  exact ⟨rfl, HB3.out⟩

set_option maxHeartbeats 1000000 in
theorem mayShown_1i (n : Bool) (ti tf : ByteArray) (x : Int) (cm : Bool) (w : World) (x1 : -2001 ≤ x) (x2 : x ≤ 2001) (h : ti.size ≠ 0) : Calls Tryz.prog 20 #[shV 1 n ti tf x cm] w fun e w' => e = .returned (.bool false) ∧ Below w.heap.size w w' := by
  have C0 := hide (fun W => within_t x (-2001) 2001 W x1 x2)
  have hn := toList_ne h
  clear x1 x2 h
  have Bs0 := hide (Blk.newAt w (w.heap.size) (rfl) #[.int .i64 1, .bool n, .string ti, .string tf, .int .i64 x, .bool cm] 23)
  have HB0 : Hid (Below w.heap.size w (w.alloc (.cells #[.int .i64 1, .bool n, .string ti, .string tf, .int .i64 x, .bool cm] 23))) := ((Below.refl _ _).alloc (Nat.le_refl _) _)
  go_enter Tryz.func20, Tryz.ntmps20
  go_wp2_with fail
  refine (C0.out _).mono ?_
  rintro e w1 ⟨rfl, hb⟩
  have Bs1 := Blk.on Bs0 hb
  have HB1 := hide (HB0.out.trans (hb.mono HB0.out.size))
  clear hb Bs0 HB0 
  obtain ⟨ys0, ys1, ys2, ys3, ys4, ys5⟩ := Bs1.out.six
  go_wp2
  go_ret
  exact ⟨rfl, HB1.out⟩

set_option maxHeartbeats 1000000 in
theorem mayShown_1f (n : Bool) (tf : ByteArray) (x : Int) (cm : Bool) (w : World) (x1 : -2001 ≤ x) (x2 : x ≤ 2001) (h : tf.size ≠ 0) : Calls Tryz.prog 20 #[shV 1 n ⟨#[]⟩ tf x cm] w fun e w' => e = .returned (.bool false) ∧ Below w.heap.size w w' := by
  have C0 := hide (fun W => within_t x (-2001) 2001 W x1 x2)
  have hn := toList_ne h
  clear x1 x2 h
  have Bs0 := hide (Blk.newAt w (w.heap.size) (rfl) #[.int .i64 1, .bool n, .string ⟨#[]⟩, .string tf, .int .i64 x, .bool cm] 23)
  have HB0 : Hid (Below w.heap.size w (w.alloc (.cells #[.int .i64 1, .bool n, .string ⟨#[]⟩, .string tf, .int .i64 x, .bool cm] 23))) := ((Below.refl _ _).alloc (Nat.le_refl _) _)
  go_enter Tryz.func20, Tryz.ntmps20
  go_wp2_with fail
  refine (C0.out _).mono ?_
  rintro e w1 ⟨rfl, hb⟩
  have Bs1 := Blk.on Bs0 hb
  have HB1 := hide (HB0.out.trans (hb.mono HB0.out.size))
  clear hb Bs0 HB0 
  obtain ⟨ys0, ys1, ys2, ys3, ys4, ys5⟩ := Bs1.out.six
  go_wp2
  go_ret
  exact ⟨rfl, HB1.out⟩

set_option maxHeartbeats 1000000 in
theorem mayShown_2i (n : Bool) (ti tf : ByteArray) (x : Int) (cm : Bool) (w : World) (x1 : -2001 ≤ x) (x2 : x ≤ 2001) (h : ti.size ≠ 0) : Calls Tryz.prog 20 #[shV 2 n ti tf x cm] w fun e w' => e = .returned (.bool false) ∧ Below w.heap.size w w' := by
  have C0 := hide (fun W => within_t x (-2001) 2001 W x1 x2)
  have hn := toList_ne h
  clear x1 x2 h
  have Bs0 := hide (Blk.newAt w (w.heap.size) (rfl) #[.int .i64 2, .bool n, .string ti, .string tf, .int .i64 x, .bool cm] 23)
  have HB0 : Hid (Below w.heap.size w (w.alloc (.cells #[.int .i64 2, .bool n, .string ti, .string tf, .int .i64 x, .bool cm] 23))) := ((Below.refl _ _).alloc (Nat.le_refl _) _)
  go_enter Tryz.func20, Tryz.ntmps20
  go_wp2_with fail
  refine (C0.out _).mono ?_
  rintro e w1 ⟨rfl, hb⟩
  have Bs1 := Blk.on Bs0 hb
  have HB1 := hide (HB0.out.trans (hb.mono HB0.out.size))
  clear hb Bs0 HB0 
  obtain ⟨ys0, ys1, ys2, ys3, ys4, ys5⟩ := Bs1.out.six
  go_wp2
  go_ret
  exact ⟨rfl, HB1.out⟩

set_option maxHeartbeats 1000000 in
theorem mayShown_2f (n : Bool) (tf : ByteArray) (x : Int) (cm : Bool) (w : World) (x1 : -2001 ≤ x) (x2 : x ≤ 2001) (h : tf.size ≠ 0) : Calls Tryz.prog 20 #[shV 2 n ⟨#[]⟩ tf x cm] w fun e w' => e = .returned (.bool false) ∧ Below w.heap.size w w' := by
  have C0 := hide (fun W => within_t x (-2001) 2001 W x1 x2)
  have hn := toList_ne h
  clear x1 x2 h
  have Bs0 := hide (Blk.newAt w (w.heap.size) (rfl) #[.int .i64 2, .bool n, .string ⟨#[]⟩, .string tf, .int .i64 x, .bool cm] 23)
  have HB0 : Hid (Below w.heap.size w (w.alloc (.cells #[.int .i64 2, .bool n, .string ⟨#[]⟩, .string tf, .int .i64 x, .bool cm] 23))) := ((Below.refl _ _).alloc (Nat.le_refl _) _)
  go_enter Tryz.func20, Tryz.ntmps20
  go_wp2_with fail
  refine (C0.out _).mono ?_
  rintro e w1 ⟨rfl, hb⟩
  have Bs1 := Blk.on Bs0 hb
  have HB1 := hide (HB0.out.trans (hb.mono HB0.out.size))
  clear hb Bs0 HB0 
  obtain ⟨ys0, ys1, ys2, ys3, ys4, ys5⟩ := Bs1.out.six
  go_wp2
  go_ret
  exact ⟨rfl, HB1.out⟩

set_option maxHeartbeats 1000000 in
theorem mayShown_1t (n : Bool) (x : Int) (cm : Bool) (w : World) (x1 : -2001 ≤ x) (x2 : x ≤ 2001) : Calls Tryz.prog 20 #[shV 1 n ⟨#[]⟩ ⟨#[]⟩ x cm] w fun e w' => e = .returned (.bool true) ∧ Below w.heap.size w w' := by
  have C0 := hide (fun W => within_t x (-2001) 2001 W x1 x2)
  clear x1 x2
  have Bs0 := hide (Blk.newAt w (w.heap.size) (rfl) #[.int .i64 1, .bool n, .string ⟨#[]⟩, .string ⟨#[]⟩, .int .i64 x, .bool cm] 23)
  have HB0 : Hid (Below w.heap.size w (w.alloc (.cells #[.int .i64 1, .bool n, .string ⟨#[]⟩, .string ⟨#[]⟩, .int .i64 x, .bool cm] 23))) := ((Below.refl _ _).alloc (Nat.le_refl _) _)
  go_enter Tryz.func20, Tryz.ntmps20
  go_wp2_with fail
  refine (C0.out _).mono ?_
  rintro e w1 ⟨rfl, hb⟩
  have Bs1 := Blk.on Bs0 hb
  have HB1 := hide (HB0.out.trans (hb.mono HB0.out.size))
  clear hb Bs0 HB0 
  obtain ⟨ys0, ys1, ys2, ys3, ys4, ys5⟩ := Bs1.out.six
  go_wp2
  go_ret
  exact ⟨rfl, HB1.out⟩

set_option maxHeartbeats 1000000 in
theorem mayShown_2t (x : Int) (cm : Bool) (w : World) (x1 : -2001 ≤ x) (x2 : x ≤ 2001) : Calls Tryz.prog 20 #[shV 2 false ⟨#[]⟩ ⟨#[]⟩ x cm] w fun e w' => e = .returned (.bool true) ∧ Below w.heap.size w w' := by
  have C0 := hide (fun W => within_t x (-2001) 2001 W x1 x2)
  clear x1 x2
  have Bs0 := hide (Blk.newAt w (w.heap.size) (rfl) #[.int .i64 2, .bool false, .string ⟨#[]⟩, .string ⟨#[]⟩, .int .i64 x, .bool cm] 23)
  have HB0 : Hid (Below w.heap.size w (w.alloc (.cells #[.int .i64 2, .bool false, .string ⟨#[]⟩, .string ⟨#[]⟩, .int .i64 x, .bool cm] 23))) := ((Below.refl _ _).alloc (Nat.le_refl _) _)
  go_enter Tryz.func20, Tryz.ntmps20
  go_wp2_with fail
  refine (C0.out _).mono ?_
  rintro e w1 ⟨rfl, hb⟩
  have Bs1 := Blk.on Bs0 hb
  have HB1 := hide (HB0.out.trans (hb.mono HB0.out.size))
  clear hb Bs0 HB0 
  obtain ⟨ys0, ys1, ys2, ys3, ys4, ys5⟩ := Bs1.out.six
  go_wp2
  go_ret
  exact ⟨rfl, HB1.out⟩

set_option maxHeartbeats 1000000 in
theorem mayShown_2n (x : Int) (cm : Bool) (w : World) (x1 : -2001 ≤ x) (x2 : x ≤ 2001) : Calls Tryz.prog 20 #[shV 2 true ⟨#[]⟩ ⟨#[]⟩ x cm] w fun e w' => e = .returned (.bool false) ∧ Below w.heap.size w w' := by
  have C0 := hide (fun W => within_t x (-2001) 2001 W x1 x2)
  clear x1 x2
  have Bs0 := hide (Blk.newAt w (w.heap.size) (rfl) #[.int .i64 2, .bool true, .string ⟨#[]⟩, .string ⟨#[]⟩, .int .i64 x, .bool cm] 23)
  have HB0 : Hid (Below w.heap.size w (w.alloc (.cells #[.int .i64 2, .bool true, .string ⟨#[]⟩, .string ⟨#[]⟩, .int .i64 x, .bool cm] 23))) := ((Below.refl _ _).alloc (Nat.le_refl _) _)
  go_enter Tryz.func20, Tryz.ntmps20
  go_wp2_with fail
  refine (C0.out _).mono ?_
  rintro e w1 ⟨rfl, hb⟩
  have Bs1 := Blk.on Bs0 hb
  have HB1 := hide (HB0.out.trans (hb.mono HB0.out.size))
  clear hb Bs0 HB0 
  obtain ⟨ys0, ys1, ys2, ys3, ys4, ys5⟩ := Bs1.out.six
  go_wp2
  go_ret
  exact ⟨rfl, HB1.out⟩

set_option maxHeartbeats 1000000 in
theorem mayShown_3 (c : Int) (n : Bool) (ti tf : ByteArray) (x : Int) (cm : Bool) (w : World) (x1 : -2001 ≤ x) (x2 : x ≤ 2001) (h0 : ¬ c = 0) (h1 : ¬ c = 1) (h2 : ¬ c = 2) : Calls Tryz.prog 20 #[shV c n ti tf x cm] w fun e w' => e = .returned (.bool false) ∧ Below w.heap.size w w' := by
  have C0 := hide (fun W => within_t x (-2001) 2001 W x1 x2)
  clear x1 x2
  have Bs0 := hide (Blk.newAt w (w.heap.size) (rfl) #[.int .i64 c, .bool n, .string ti, .string tf, .int .i64 x, .bool cm] 23)
  have HB0 : Hid (Below w.heap.size w (w.alloc (.cells #[.int .i64 c, .bool n, .string ti, .string tf, .int .i64 x, .bool cm] 23))) := ((Below.refl _ _).alloc (Nat.le_refl _) _)
  go_enter Tryz.func20, Tryz.ntmps20
  go_wp2_with fail
  refine (C0.out _).mono ?_
  rintro e w1 ⟨rfl, hb⟩
  have Bs1 := Blk.on Bs0 hb
  have HB1 := hide (HB0.out.trans (hb.mono HB0.out.size))
  clear hb Bs0 HB0 
  obtain ⟨ys0, ys1, ys2, ys3, ys4, ys5⟩ := Bs1.out.six
  go_wp2
  go_ret
  exact ⟨rfl, HB1.out⟩

theorem bys_ne {t : ByteArray} (h : bys t ≠ []) : t.size ≠ 0 := fun e => h (bys_nil.2 e)

theorem mayShown_T (c : Int) (n : Bool) (ti tf : ByteArray) (x : Int) (cm : Bool) (w : World) (h : MayS ⟨c, n, bys ti, bys tf, x, cm⟩) : Calls Tryz.prog 20 #[shV c n ti tf x cm] w fun e w' => e = .returned (.bool true) ∧ Below w.heap.size w w' := by
  obtain ⟨⟨x1, x2⟩, h⟩ := h
  simp only at x1 x2
  rcases h with ⟨h1, h2, h3, h4⟩ | ⟨h1, h2, h3⟩ | ⟨h1, h2, h3, h4⟩
  · simp only at h1 h2 h3 h4
    subst h1
    by_cases hi : bys ti = []
    · obtain rfl := nil_bys hi
      have hf : bys tf ≠ [] := h2.resolve_left (fun g => g hi)
      exact mayShown_0f n tf x cm w x1 x2 (bys_ne hf) true (fun W => areShown_T tf W h4)
    · exact mayShown_0it n ti tf x cm w x1 x2 (bys_ne hi) h3 true (fun W => areShown_T tf W h4)
  · simp only at h1 h2 h3
    obtain rfl := nil_bys h2
    obtain rfl := nil_bys h3
    subst h1
    exact mayShown_1t n x cm w x1 x2
  · simp only at h1 h2 h3 h4
    obtain rfl := nil_bys h2
    obtain rfl := nil_bys h3
    subst h1 h4
    exact mayShown_2t x cm w x1 x2

theorem mayShown_F (c : Int) (n : Bool) (ti tf : ByteArray) (x : Int) (cm : Bool) (w : World) (h : ¬ MayS ⟨c, n, bys ti, bys tf, x, cm⟩) : Calls Tryz.prog 20 #[shV c n ti tf x cm] w fun e w' => e = .returned (.bool false) ∧ Below w.heap.size w w' := by
  by_cases hx : -2001 ≤ x ∧ x ≤ 2001
  rotate_left
  · exact mayShown_x c n ti tf x cm w hx
  obtain ⟨x1, x2⟩ := hx
  by_cases h0 : c = 0
  · subst h0
    by_cases hi : bys ti = []
    · obtain rfl := nil_bys hi
      by_cases hf : bys tf = []
      · obtain rfl := nil_bys hf
        exact mayShown_0z n x cm w x1 x2
      · exact mayShown_0f n tf x cm w x1 x2 (bys_ne hf) false (fun W => areShown_F tf W (fun g => h ⟨⟨x1, x2⟩, .inl ⟨rfl, .inr hf, ⟨show (bys ⟨#[]⟩).length ≤ 4096 from by decide, fun k hk => absurd hk (by simp [bys])⟩, g⟩⟩))
    · by_cases g1 : (bys ti).length ≤ 4096 ∧ DigB (bys ti)
      · exact mayShown_0it n ti tf x cm w x1 x2 (bys_ne hi) g1 false (fun W => areShown_F tf W (fun g => h ⟨⟨x1, x2⟩, .inl ⟨rfl, .inl hi, g1, g⟩⟩))
      · exact mayShown_0if n ti tf x cm w x1 x2 (bys_ne hi) g1
  by_cases h1 : c = 1
  · subst h1
    by_cases hi : bys ti = []
    · obtain rfl := nil_bys hi
      by_cases hf : bys tf = []
      · exact absurd ⟨⟨x1, x2⟩, .inr (.inl ⟨rfl, hi, hf⟩)⟩ h
      · exact mayShown_1f n tf x cm w x1 x2 (bys_ne hf)
    · exact mayShown_1i n ti tf x cm w x1 x2 (bys_ne hi)
  by_cases h2 : c = 2
  · subst h2
    by_cases hi : bys ti = []
    · obtain rfl := nil_bys hi
      by_cases hf : bys tf = []
      · obtain rfl := nil_bys hf
        cases n
        · exact absurd ⟨⟨x1, x2⟩, .inr (.inr ⟨rfl, hi, hf, rfl⟩)⟩ h
        · exact mayShown_2n x cm w x1 x2
      · exact mayShown_2f n tf x cm w x1 x2 (bys_ne hf)
    · exact mayShown_2i n ti tf x cm w x1 x2 (bys_ne hi)
  · exact mayShown_3 c n ti tf x cm w x1 x2 h0 h1 h2

set_option maxHeartbeats 1000000 in
theorem value_no (c : Int) (n : Bool) (ti tf : ByteArray) (x : Int) (cm : Bool) (w : World) (h : ¬ MayS ⟨c, n, bys ti, bys tf, x, cm⟩) : Calls Tryz.prog 11 #[shV c n ti tf x cm] w fun e w' => e = .returned (.tuple #[dcV 0 false ⟨#[]⟩ 0, .int .i64 71]) ∧ Below w.heap.size w w' := by
  have MS := hide (fun W => mayShown_F c n ti tf x cm W h)
  clear h
  have Bs0 := hide ((Blk.newAt w (w.heap.size) (rfl) #[.int .i64 c, .bool n, .string ti, .string tf, .int .i64 x, .bool cm] 23).alloc (.cells #[.int .i64 0, .bool false, .string ⟨#[]⟩, .int .i64 0] 43))
  have Br0 := hide (Blk.newAt (w.alloc (.cells #[.int .i64 c, .bool n, .string ti, .string tf, .int .i64 x, .bool cm] 23)) (w.heap.size + 1) (by simp) #[.int .i64 0, .bool false, .string ⟨#[]⟩, .int .i64 0] 43)
  have HB0 : Hid (Below w.heap.size w ((w.alloc (.cells #[.int .i64 c, .bool n, .string ti, .string tf, .int .i64 x, .bool cm] 23)).alloc (.cells #[.int .i64 0, .bool false, .string ⟨#[]⟩, .int .i64 0] 43))) := (((Below.refl _ _).alloc (Nat.le_refl _) _).alloc (by simp <;> omega) _)
  go_enter Tryz.func11, Tryz.ntmps11
  go_wp2_with fail
  refine (MS.out _).mono ?_
  rintro e w1 ⟨rfl, hb⟩
  have Bs1 := Blk.on Bs0 hb
  have Br1 := Blk.on Br0 hb
  have HB1 := hide (HB0.out.trans (hb.mono HB0.out.size))
  clear hb Bs0 Br0 HB0 
  obtain ⟨ys0, ys1, ys2, ys3, ys4, ys5⟩ := Bs1.out.six
  obtain ⟨yr0, yr1, yr2, yr3⟩ := Br1.out.four
  have fr0 := Br1.out.free 0
  have fr1 := Br1.out.free 1
  have fr2 := Br1.out.free 2
  have fr3 := Br1.out.free 3
  go_wp2
  refine bodyPost_ret (results_dec2 rfl _ _ _ _ _ _ _ rfl (Br1.out.put4 _ _ _ _)) rfl ?_
  exact ⟨rfl, below_put4 (HB1.out) (by omega) _ _ _ _⟩

set_option maxHeartbeats 1000000 in
theorem value_cls (c : Int) (n : Bool) (ti tf : ByteArray) (x : Int) (cm : Bool) (w : World) (h : MayS ⟨c, n, bys ti, bys tf, x, cm⟩) (h0 : ¬ c = 0) : Calls Tryz.prog 11 #[shV c n ti tf x cm] w fun e w' => e = .returned (.tuple #[dcV c n ⟨#[]⟩ 0, .int .i64 0]) ∧ Below w.heap.size w w' := by
  have MS := hide (fun W => mayShown_T c n ti tf x cm W h)
  clear h
  have Bs0 := hide ((Blk.newAt w (w.heap.size) (rfl) #[.int .i64 c, .bool n, .string ti, .string tf, .int .i64 x, .bool cm] 23).alloc (.cells #[.int .i64 0, .bool false, .string ⟨#[]⟩, .int .i64 0] 43))
  have Br0 := hide (Blk.newAt (w.alloc (.cells #[.int .i64 c, .bool n, .string ti, .string tf, .int .i64 x, .bool cm] 23)) (w.heap.size + 1) (by simp) #[.int .i64 0, .bool false, .string ⟨#[]⟩, .int .i64 0] 43)
  have HB0 : Hid (Below w.heap.size w ((w.alloc (.cells #[.int .i64 c, .bool n, .string ti, .string tf, .int .i64 x, .bool cm] 23)).alloc (.cells #[.int .i64 0, .bool false, .string ⟨#[]⟩, .int .i64 0] 43))) := (((Below.refl _ _).alloc (Nat.le_refl _) _).alloc (by simp <;> omega) _)
  go_enter Tryz.func11, Tryz.ntmps11
  go_wp2_with fail
  refine (MS.out _).mono ?_
  rintro e w1 ⟨rfl, hb⟩
  have Bs1 := Blk.on Bs0 hb
  have Br1 := Blk.on Br0 hb
  have HB1 := hide (HB0.out.trans (hb.mono HB0.out.size))
  clear hb Bs0 Br0 HB0 
  obtain ⟨ys0, ys1, ys2, ys3, ys4, ys5⟩ := Bs1.out.six
  obtain ⟨yr0, yr1, yr2, yr3⟩ := Br1.out.four
  have fr0 := Br1.out.free 0
  have fr1 := Br1.out.free 1
  have fr2 := Br1.out.free 2
  have fr3 := Br1.out.free 3
  go_wp2
  refine bodyPost_ret (results_dec2 rfl _ _ _ _ _ _ _ rfl (Br1.out.put4 _ _ _ _)) rfl ?_
  exact ⟨rfl, below_put4 (HB1.out) (by omega) _ _ _ _⟩

set_option maxHeartbeats 2000000 in
theorem value_true (ti tf : ByteArray) (x : Int) (cm : Bool) (J : ByteArray) (cx : Int) (nx : Bool) (tx : ByteArray) (ex rx : Int) (w : World) (htab : Tab w) (h : MayS ⟨0, true, bys ti, bys tf, x, cm⟩) (hJ : ∀ W, Tab W → Calls Tryz.prog 21 #[.int .i64 x] W fun e w' => e = .returned (.string J) ∧ Below W.heap.size W w') (hP : ∀ W, Calls Tryz.prog 22 #[.string (⟨#[45]⟩ ++ (ti ++ ⟨#[46]⟩ ++ tf ++ ⟨#[101]⟩ ++ J))] W fun e w' => e = .returned (.tuple #[.agg #[.int .i64 cx, .bool nx, .string tx, .int .i64 ex], .int .i64 rx]) ∧ Below W.heap.size W w') (z1 : ti.size ≤ 4096) (z2 : tf.size ≤ 4096) (z3 : J.size ≤ 10) : Calls Tryz.prog 11 #[shV 0 true ti tf x cm] w fun e w' => e = .returned (.tuple #[.agg #[.int .i64 cx, .bool nx, .string tx, .int .i64 ex], .int .i64 rx]) ∧ Below w.heap.size w w' := by
  have MS := hide (fun W => mayShown_T 0 true ti tf x cm W h)
  have IT := hide hJ
  have PA := hide hP
  have HT := hide htab
  have s1 : ¬ 9223372036854775807 < ti.size + 1 := by omega
  have s2 : ¬ 9223372036854775807 < ti.size + 1 + tf.size := by omega
  have s3 : ¬ 9223372036854775807 < ti.size + 1 + tf.size + 1 := by omega
  have s4 : ¬ 9223372036854775807 < ti.size + 1 + tf.size + 1 + J.size := by omega
  have s5 : ¬ 9223372036854775807 < 1 + (ti.size + 1 + tf.size + 1 + J.size) := by omega
  have e1 : (ti ++ ⟨#[46]⟩ : ByteArray).size = ti.size + 1 := by rw [ByteArray.size_append]; rfl
  have e2 : (ti ++ ⟨#[46]⟩ ++ tf : ByteArray).size = ti.size + 1 + tf.size := by rw [ByteArray.size_append, e1]
  have e3 : (ti ++ ⟨#[46]⟩ ++ tf ++ ⟨#[101]⟩ : ByteArray).size = ti.size + 1 + tf.size + 1 := by rw [ByteArray.size_append, e2]; rfl
  have e4 : (ti ++ ⟨#[46]⟩ ++ tf ++ ⟨#[101]⟩ ++ J : ByteArray).size = ti.size + 1 + tf.size + 1 + J.size := by rw [ByteArray.size_append, e3]
  clear h hJ hP htab z1 z2 z3
  have Bs0 := hide ((Blk.newAt w (w.heap.size) (rfl) #[.int .i64 0, .bool true, .string ti, .string tf, .int .i64 x, .bool cm] 23).alloc (.cells #[.int .i64 0, .bool false, .string ⟨#[]⟩, .int .i64 0] 43))
  have Br0 := hide (Blk.newAt (w.alloc (.cells #[.int .i64 0, .bool true, .string ti, .string tf, .int .i64 x, .bool cm] 23)) (w.heap.size + 1) (by simp) #[.int .i64 0, .bool false, .string ⟨#[]⟩, .int .i64 0] 43)
  have HB0 : Hid (Below w.heap.size w ((w.alloc (.cells #[.int .i64 0, .bool true, .string ti, .string tf, .int .i64 x, .bool cm] 23)).alloc (.cells #[.int .i64 0, .bool false, .string ⟨#[]⟩, .int .i64 0] 43))) := (((Below.refl _ _).alloc (Nat.le_refl _) _).alloc (by simp <;> omega) _)
  go_enter Tryz.func11, Tryz.ntmps11
  go_wp2_with fail
  refine (MS.out _).mono ?_
  rintro e w1 ⟨rfl, hb⟩
  have Bs1 := Blk.on Bs0 hb
  have Br1 := Blk.on Br0 hb
  have HB1 := hide (HB0.out.trans (hb.mono HB0.out.size))
  clear hb Bs0 Br0 HB0 
  obtain ⟨ys0, ys1, ys2, ys3, ys4, ys5⟩ := Bs1.out.six
  obtain ⟨yr0, yr1, yr2, yr3⟩ := Br1.out.four
  have HTW := hide (HT.out.below HB1.out)
  have b0 : Hid (Below w1.heap.size w1 w1.drew) := bdrewD w1
  have C0 : Hid (∀ X, Hid (Below w1.heap.size w1 X) → Calls Tryz.prog 21 #[.int .i64 x] X fun e w' => e = .returned (.string J) ∧ Hid (Below w1.heap.size w1 w') ∧ w'.cell? ⟨w.heap.size, 2, none⟩ = some (.string ti) ∧ w'.cell? ⟨w.heap.size, 3, none⟩ = some (.string tf) ∧ w'.cell? ⟨w.heap.size, 4, none⟩ = some (.int .i64 x)) := by
    intro X bX
    refine (IT.out X (HTW.out.below bX.out)).mono ?_
    rintro e w' ⟨rfl, hb⟩
    have bb := bX.out.trans (hb.mono bX.out.size)
    have Bsq := Bs1.out.below bb Bs1.out.lt
    exact ⟨rfl, bb, Bsq.cell 2, Bsq.cell 3, Bsq.cell 4⟩
  go_wp2_with fail
  have mk0 : True := trivial
  go_region_held3 (fun w' => w'.cell? ⟨w.heap.size, 2, none⟩ = some (.string ti) ∧ w'.cell? ⟨w.heap.size, 3, none⟩ = some (.string tf) ∧ w'.cell? ⟨w.heap.size, 4, none⟩ = some (.int .i64 x)) (go_keep) (first
    | (clear mk0; go_at_call 21; refine (C0.out _ b0).mono ?_; rintro e w2 ⟨rfl, b1, q0_0, q0_1, q0_2⟩; have mk1 : True := trivial))
  have Bs2 := hide (Bs1.out.below b1.out Bs1.out.lt)
  have Br2 := hide (Br1.out.below b1.out Br1.out.lt)
  have HB2 := hide (HB1.out.trans (b1.out.mono HB1.out.size))
  clear mk1 b0 b1 C0 q0_0 q0_1 q0_2 Bs1 Br1 HB1 ys0 ys1 ys2 ys3 ys4 ys5 yr0 yr1 yr2 yr3
  obtain ⟨ys0, ys1, ys2, ys3, ys4, ys5⟩ := Bs2.out.six
  obtain ⟨yr0, yr1, yr2, yr3⟩ := Br2.out.four
  go_wp2_with fail
  refine (PA.out _).mono ?_
  rintro e w3 ⟨rfl, hb⟩
  have Bs3 := Blk.on Bs2 hb
  have Br3 := Blk.on Br2 hb
  have HB3 := hide (HB2.out.trans (hb.mono HB2.out.size))
  clear hb Bs2 Br2 HB2 ys0 ys1 ys2 ys3 ys4 ys5 yr0 yr1 yr2 yr3
  obtain ⟨ys0, ys1, ys2, ys3, ys4, ys5⟩ := Bs3.out.six
  obtain ⟨yr0, yr1, yr2, yr3⟩ := Br3.out.four
  have fr0 := Br3.out.free 0
  have fr1 := Br3.out.free 1
  have fr2 := Br3.out.free 2
  have fr3 := Br3.out.free 3
  go_wp2
  refine bodyPost_ret (results_dec2 rfl _ _ _ _ _ _ _ rfl (Br3.out.put4 _ _ _ _)) rfl ?_
  exact ⟨rfl, below_put4 (HB3.out) (by omega) _ _ _ _⟩

set_option maxHeartbeats 2000000 in
theorem value_false (ti tf : ByteArray) (x : Int) (cm : Bool) (J : ByteArray) (cx : Int) (nx : Bool) (tx : ByteArray) (ex rx : Int) (w : World) (htab : Tab w) (h : MayS ⟨0, false, bys ti, bys tf, x, cm⟩) (hJ : ∀ W, Tab W → Calls Tryz.prog 21 #[.int .i64 x] W fun e w' => e = .returned (.string J) ∧ Below W.heap.size W w') (hP : ∀ W, Calls Tryz.prog 22 #[.string (ti ++ ⟨#[46]⟩ ++ tf ++ ⟨#[101]⟩ ++ J)] W fun e w' => e = .returned (.tuple #[.agg #[.int .i64 cx, .bool nx, .string tx, .int .i64 ex], .int .i64 rx]) ∧ Below W.heap.size W w') (z1 : ti.size ≤ 4096) (z2 : tf.size ≤ 4096) (z3 : J.size ≤ 10) : Calls Tryz.prog 11 #[shV 0 false ti tf x cm] w fun e w' => e = .returned (.tuple #[.agg #[.int .i64 cx, .bool nx, .string tx, .int .i64 ex], .int .i64 rx]) ∧ Below w.heap.size w w' := by
  have MS := hide (fun W => mayShown_T 0 false ti tf x cm W h)
  have IT := hide hJ
  have PA := hide hP
  have HT := hide htab
  have s1 : ¬ 9223372036854775807 < ti.size + 1 := by omega
  have s2 : ¬ 9223372036854775807 < ti.size + 1 + tf.size := by omega
  have s3 : ¬ 9223372036854775807 < ti.size + 1 + tf.size + 1 := by omega
  have s4 : ¬ 9223372036854775807 < ti.size + 1 + tf.size + 1 + J.size := by omega
  have s5 : ¬ 9223372036854775807 < 1 + (ti.size + 1 + tf.size + 1 + J.size) := by omega
  have e1 : (ti ++ ⟨#[46]⟩ : ByteArray).size = ti.size + 1 := by rw [ByteArray.size_append]; rfl
  have e2 : (ti ++ ⟨#[46]⟩ ++ tf : ByteArray).size = ti.size + 1 + tf.size := by rw [ByteArray.size_append, e1]
  have e3 : (ti ++ ⟨#[46]⟩ ++ tf ++ ⟨#[101]⟩ : ByteArray).size = ti.size + 1 + tf.size + 1 := by rw [ByteArray.size_append, e2]; rfl
  have e4 : (ti ++ ⟨#[46]⟩ ++ tf ++ ⟨#[101]⟩ ++ J : ByteArray).size = ti.size + 1 + tf.size + 1 + J.size := by rw [ByteArray.size_append, e3]
  clear h hJ hP htab z1 z2 z3
  have Bs0 := hide ((Blk.newAt w (w.heap.size) (rfl) #[.int .i64 0, .bool false, .string ti, .string tf, .int .i64 x, .bool cm] 23).alloc (.cells #[.int .i64 0, .bool false, .string ⟨#[]⟩, .int .i64 0] 43))
  have Br0 := hide (Blk.newAt (w.alloc (.cells #[.int .i64 0, .bool false, .string ti, .string tf, .int .i64 x, .bool cm] 23)) (w.heap.size + 1) (by simp) #[.int .i64 0, .bool false, .string ⟨#[]⟩, .int .i64 0] 43)
  have HB0 : Hid (Below w.heap.size w ((w.alloc (.cells #[.int .i64 0, .bool false, .string ti, .string tf, .int .i64 x, .bool cm] 23)).alloc (.cells #[.int .i64 0, .bool false, .string ⟨#[]⟩, .int .i64 0] 43))) := (((Below.refl _ _).alloc (Nat.le_refl _) _).alloc (by simp <;> omega) _)
  go_enter Tryz.func11, Tryz.ntmps11
  go_wp2_with fail
  refine (MS.out _).mono ?_
  rintro e w1 ⟨rfl, hb⟩
  have Bs1 := Blk.on Bs0 hb
  have Br1 := Blk.on Br0 hb
  have HB1 := hide (HB0.out.trans (hb.mono HB0.out.size))
  clear hb Bs0 Br0 HB0 
  obtain ⟨ys0, ys1, ys2, ys3, ys4, ys5⟩ := Bs1.out.six
  obtain ⟨yr0, yr1, yr2, yr3⟩ := Br1.out.four
  have HTW := hide (HT.out.below HB1.out)
  have b0 : Hid (Below w1.heap.size w1 w1.drew) := bdrewD w1
  have C0 : Hid (∀ X, Hid (Below w1.heap.size w1 X) → Calls Tryz.prog 21 #[.int .i64 x] X fun e w' => e = .returned (.string J) ∧ Hid (Below w1.heap.size w1 w') ∧ w'.cell? ⟨w.heap.size, 2, none⟩ = some (.string ti) ∧ w'.cell? ⟨w.heap.size, 3, none⟩ = some (.string tf) ∧ w'.cell? ⟨w.heap.size, 4, none⟩ = some (.int .i64 x)) := by
    intro X bX
    refine (IT.out X (HTW.out.below bX.out)).mono ?_
    rintro e w' ⟨rfl, hb⟩
    have bb := bX.out.trans (hb.mono bX.out.size)
    have Bsq := Bs1.out.below bb Bs1.out.lt
    exact ⟨rfl, bb, Bsq.cell 2, Bsq.cell 3, Bsq.cell 4⟩
  go_wp2_with fail
  have mk0 : True := trivial
  go_region_held3 (fun w' => w'.cell? ⟨w.heap.size, 2, none⟩ = some (.string ti) ∧ w'.cell? ⟨w.heap.size, 3, none⟩ = some (.string tf) ∧ w'.cell? ⟨w.heap.size, 4, none⟩ = some (.int .i64 x)) (go_keep) (first
    | (clear mk0; go_at_call 21; refine (C0.out _ b0).mono ?_; rintro e w2 ⟨rfl, b1, q0_0, q0_1, q0_2⟩; have mk1 : True := trivial))
  have Bs2 := hide (Bs1.out.below b1.out Bs1.out.lt)
  have Br2 := hide (Br1.out.below b1.out Br1.out.lt)
  have HB2 := hide (HB1.out.trans (b1.out.mono HB1.out.size))
  clear mk1 b0 b1 C0 q0_0 q0_1 q0_2 Bs1 Br1 HB1 ys0 ys1 ys2 ys3 ys4 ys5 yr0 yr1 yr2 yr3
  obtain ⟨ys0, ys1, ys2, ys3, ys4, ys5⟩ := Bs2.out.six
  obtain ⟨yr0, yr1, yr2, yr3⟩ := Br2.out.four
  go_wp2_with fail
  refine (PA.out _).mono ?_
  rintro e w3 ⟨rfl, hb⟩
  have Bs3 := Blk.on Bs2 hb
  have Br3 := Blk.on Br2 hb
  have HB3 := hide (HB2.out.trans (hb.mono HB2.out.size))
  clear hb Bs2 Br2 HB2 ys0 ys1 ys2 ys3 ys4 ys5 yr0 yr1 yr2 yr3
  obtain ⟨ys0, ys1, ys2, ys3, ys4, ys5⟩ := Bs3.out.six
  obtain ⟨yr0, yr1, yr2, yr3⟩ := Br3.out.four
  have fr0 := Br3.out.free 0
  have fr1 := Br3.out.free 1
  have fr2 := Br3.out.free 2
  have fr3 := Br3.out.free 3
  go_wp2
  refine bodyPost_ret (results_dec2 rfl _ _ _ _ _ _ _ rfl (Br3.out.put4 _ _ _ _)) rfl ?_
  exact ⟨rfl, below_put4 (HB3.out) (by omega) _ _ _ _⟩

theorem Value_any (c : Int) (n : Bool) (ti tf : ByteArray) (x : Int) (cm : Bool) (w : World) (htab : Tab w) : Calls Tryz.prog 11 #[shV c n ti tf x cm] w fun e w' => e = .returned (decErr (valueS ⟨c, n, bys ti, bys tf, x, cm⟩)) ∧ Below w.heap.size w w' := by
  unfold valueS
  by_cases h : MayS ⟨c, n, bys ti, bys tf, x, cm⟩
  · rw [if_neg (fun g => g h)]
    by_cases h0 : c = 0
    · subst h0
      rw [if_neg (fun g => g rfl)]
      obtain ⟨⟨x1, x2⟩, h2⟩ := id h
      simp only at x1 x2
      rcases h2 with ⟨_, h2, ⟨h3, h4⟩, ⟨h5, h6⟩⟩ | ⟨h1, _⟩ | ⟨h1, _⟩
      · simp only at h2 h3 h4 h5 h6
        have P := parse_shown n h4 h6 (fun g => h2.elim (fun q => q g.1) (fun q => q g.2)) (show -10000 ≤ x by omega) (by omega)
        rw [bys_len] at h3 h5
        have il := itoa_len (e := x) (by omega) (by omega)
        have T1 : bys (ti ++ ⟨#[46]⟩ ++ tf ++ ⟨#[101]⟩ ++ ⟨(Lib.itoa x).toArray⟩) = shownT false (bys ti) (bys tf) x := by
          rw [bys_append, bys_append, bys_append, bys_append, bys_mk (Lib.itoa x)]
          unfold shownT
          simp only [Bool.false_eq_true, if_false, List.nil_append, List.append_assoc]
          rfl
        have Z1 : ((ti ++ ⟨#[46]⟩ ++ tf ++ ⟨#[101]⟩ ++ ⟨(Lib.itoa x).toArray⟩)).size ≤ 100000 := by
          rw [← bys_len, T1]
          unfold shownT
          simp only [Bool.false_eq_true, if_false, List.nil_append, List.length_append, List.length_cons, bys_len]
          omega
        rw [← P]
        cases n
        · have PS := fun W => Parse_any (ti ++ ⟨#[46]⟩ ++ tf ++ ⟨#[101]⟩ ++ ⟨(Lib.itoa x).toArray⟩) W (by omega)
          rw [T1] at PS
          exact value_false ti tf x cm ⟨(Lib.itoa x).toArray⟩ _ _ _ _ _ w htab h (fun W hW => itoa_any x W (by omega) (by omega) hW) PS h3 h5 (by rw [size_mk0]; omega)
        · have T2 : bys (⟨#[45]⟩ ++ (ti ++ ⟨#[46]⟩ ++ tf ++ ⟨#[101]⟩ ++ ⟨(Lib.itoa x).toArray⟩)) = shownT true (bys ti) (bys tf) x := by rw [bys_append, T1]; rfl
          have PS := fun W => Parse_any (⟨#[45]⟩ ++ (ti ++ ⟨#[46]⟩ ++ tf ++ ⟨#[101]⟩ ++ ⟨(Lib.itoa x).toArray⟩)) W (by rw [ByteArray.size_append]; have : (⟨#[45]⟩ : ByteArray).size = 1 := rfl; omega)
          rw [T2] at PS
          exact value_true ti tf x cm ⟨(Lib.itoa x).toArray⟩ _ _ _ _ _ w htab h (fun W hW => itoa_any x W (by omega) (by omega) hW) PS h3 h5 (by rw [size_mk0]; omega)
      · exact absurd (show (0 : Int) = 1 from h1) (by decide)
      · exact absurd (show (0 : Int) = 2 from h1) (by decide)
    · rw [if_pos h0]
      have hc : c = ((c.toNat : Nat) : Int) := by
        obtain ⟨_, h2⟩ := h
        rcases h2 with ⟨h1, _⟩ | ⟨h1, _⟩ | ⟨h1, _⟩ <;> simp only at h1 <;> omega
      have g := value_cls c n ti tf x cm w h h0
      unfold decErr decVal
      simp only
      rw [← hc]
      exact g
  · rw [if_pos h]
    exact value_no c n ti tf x cm w h

end Go.Proofs.YtbfegnbaleclfaaGreatDoor
