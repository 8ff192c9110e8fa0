/-
  What width's areShown, mayShown and Value do.
  What operand's hasOperands and Of do.
  What quipuref07's digits does.
-/
import Derived.Test.YtobloamnaemfnaaGreatDoorTB11
import Derived.Test.YtobloamnaemfnaaGreatDoorTB13
import Derived.Shelf.Strings.SlTrimAscii
import Derived.Deep.RegionHeld3
import Derived.Test.YtobloamnaemfnaaGreatDoorTB12
namespace Go.Proofs.YtobloamnaemfnaaGreatDoor
open Go.RowKit

abbrev shV (c : Int) (n : Bool) (ti tf : ByteArray) (x : Int) (cm : Bool) : Value := .agg #[.int .i64 c, .bool n, .string ti, .string tf, .int .i64 x, .bool cm]

theorem trim_ten (t : ByteArray) (w : World) (h : t.size ≤ 4096) : Calls Tryz.prog 131 #[.string t, .string ⟨#[48, 49, 50, 51, 52, 53, 54, 55, 56, 57]⟩] w fun e w' => e = .returned (.string ⟨(Lib.trimS (bys t) tenD).toArray⟩) ∧ Below w.heap.size w w' :=
  Any.strings_Trim_laid Tryz.lays160 (by kernel_rfl) t ⟨#[48, 49, 50, 51, 52, 53, 54, 55, 56, 57]⟩ w (by omega) (by decide) (ascii_of_all (by decide))

set_option maxHeartbeats 1000000 in
theorem areShown_long (t : ByteArray) (w : World) (h : 4096 < t.size) : Calls Tryz.prog 93 #[.string t] w fun e w' => e = .returned (.bool false) ∧ Below w.heap.size w w' := by
  have h2 : decide ((t.size : Int) ≤ 4096) = false := decide_eq_false (by omega)
  clear h
  go_enter Tryz.func93, Tryz.ntmps93
  go_wp2
  go_ret
  exact ⟨rfl, Below.refl _ _⟩

set_option maxHeartbeats 1000000 in
theorem areShown_t (t : ByteArray) (w : World) (h : t.size ≤ 4096) (g : Lib.trimS (bys t) tenD = []) : Calls Tryz.prog 93 #[.string t] w fun e w' => e = .returned (.bool true) ∧ Below w.heap.size w w' := by
  have TR := hide (fun W => trim_ten t W h)
  have h2 : decide ((t.size : Int) ≤ 4096) = true := decide_eq_true (by omega)
  obtain ⟨D, hD⟩ : ∃ D : ByteArray, D = ⟨(Lib.trimS (bys t) tenD).toArray⟩ := ⟨_, rfl⟩
  rw [← hD] at TR
  obtain rfl : D = ⟨#[]⟩ := by rw [hD, g]
  clear hD g h
  go_enter Tryz.func93, Tryz.ntmps93
  go_wp2_with fail
  refine (TR.out _).mono ?_
  rintro e w1 ⟨rfl, hb⟩
  have HB := hide hb
  clear hb
  go_wp2
  go_ret
  exact ⟨rfl, HB.out⟩

set_option maxHeartbeats 1000000 in
theorem areShown_f (t : ByteArray) (w : World) (h : t.size ≤ 4096) (g : Lib.trimS (bys t) tenD ≠ []) : Calls Tryz.prog 93 #[.string t] w fun e w' => e = .returned (.bool false) ∧ Below w.heap.size w w' := by
  have TR := hide (fun W => trim_ten t W h)
  have h2 : decide ((t.size : Int) ≤ 4096) = true := decide_eq_true (by omega)
  obtain ⟨D, hD⟩ : ∃ D : ByteArray, D = ⟨(Lib.trimS (bys t) tenD).toArray⟩ := ⟨_, rfl⟩
  rw [← hD] at TR
  have hn := toList_ne (t := D) (by rw [hD, size_mk0]; exact fun e => g (List.length_eq_zero_iff.1 e))
  clear hD g h
  go_enter Tryz.func93, Tryz.ntmps93
  go_wp2_with fail
  refine (TR.out _).mono ?_
  rintro e w1 ⟨rfl, hb⟩
  have HB := hide hb
  clear hb
  go_wp2
  go_ret
  exact ⟨rfl, HB.out⟩

theorem areShown_T (t : ByteArray) (w : World) (h : (bys t).length ≤ 4096 ∧ DigB (bys t)) : Calls Tryz.prog 93 #[.string t] w fun e w' => e = .returned (.bool true) ∧ Below w.heap.size w w' :=
  areShown_t t w (by have := h.1; rwa [bys_len] at this) (trim_digB.2 h.2)
theorem areShown_F (t : ByteArray) (w : World) (h : ¬ ((bys t).length ≤ 4096 ∧ DigB (bys t))) : Calls Tryz.prog 93 #[.string t] w fun e w' => e = .returned (.bool false) ∧ Below w.heap.size w w' := by
  rw [bys_len] at h
  by_cases h1 : t.size ≤ 4096
  · exact areShown_f t w h1 (fun g => h ⟨h1, trim_digB.1 g⟩)
  · exact areShown_long t w (by omega)

set_option maxHeartbeats 1000000 in
theorem mayShown_x (c : Int) (n : Bool) (ti tf : ByteArray) (x : Int) (cm : Bool) (w : World) (h : ¬ (-2001 ≤ x ∧ x ≤ 2001)) : Calls Tryz.prog 43 #[shV c n ti tf x cm] w fun e w' => e = .returned (.bool false) ∧ Below w.heap.size w w' := by
  have C0 := hide (fun W => within_f x (-2001) 2001 W h)
  clear h
  have Bs0 := hide (Blk.newAt w (w.heap.size) (rfl) #[.int .i64 c, .bool n, .string ti, .string tf, .int .i64 x, .bool cm] 34)
  have HB0 : Hid (Below w.heap.size w (w.alloc (.cells #[.int .i64 c, .bool n, .string ti, .string tf, .int .i64 x, .bool cm] 34))) := ((Below.refl _ _).alloc (Nat.le_refl _) _)
  go_enter Tryz.func43, Tryz.ntmps43
  go_wp2_with fail
  refine (C0.out _).mono ?_
  rintro e w1 ⟨rfl, hb⟩
  have Bs1 := Blk.on Bs0 hb
  have HB1 := hide (HB0.out.trans (hb.mono HB0.out.size))
  clear hb Bs0 HB0 
  obtain ⟨ys0, ys1, ys2, ys3, ys4, ys5⟩ := Bs1.out.six
  go_wp2
  go_ret
  exact ⟨rfl, HB1.out⟩

set_option maxHeartbeats 1000000 in
theorem mayShown_0z (n : Bool) (x : Int) (cm : Bool) (w : World) (x1 : -2001 ≤ x) (x2 : x ≤ 2001) : Calls Tryz.prog 43 #[shV 0 n ⟨#[]⟩ ⟨#[]⟩ x cm] w fun e w' => e = .returned (.bool false) ∧ Below w.heap.size w w' := by
  have C0 := hide (fun W => within_t x (-2001) 2001 W x1 x2)
  clear x1 x2
  have Bs0 := hide (Blk.newAt w (w.heap.size) (rfl) #[.int .i64 0, .bool n, .string ⟨#[]⟩, .string ⟨#[]⟩, .int .i64 x, .bool cm] 34)
  have HB0 : Hid (Below w.heap.size w (w.alloc (.cells #[.int .i64 0, .bool n, .string ⟨#[]⟩, .string ⟨#[]⟩, .int .i64 x, .bool cm] 34))) := ((Below.refl _ _).alloc (Nat.le_refl _) _)
  go_enter Tryz.func43, Tryz.ntmps43
  go_wp2_with fail
  refine (C0.out _).mono ?_
  rintro e w1 ⟨rfl, hb⟩
  have Bs1 := Blk.on Bs0 hb
  have HB1 := hide (HB0.out.trans (hb.mono HB0.out.size))
  clear hb Bs0 HB0 
  obtain ⟨ys0, ys1, ys2, ys3, ys4, ys5⟩ := Bs1.out.six
  go_wp2
  go_ret
  exact ⟨rfl, HB1.out⟩

set_option maxHeartbeats 1000000 in
theorem mayShown_0if (n : Bool) (ti tf : ByteArray) (x : Int) (cm : Bool) (w : World) (x1 : -2001 ≤ x) (x2 : x ≤ 2001) (h : ti.size ≠ 0) (g : ¬ ((bys ti).length ≤ 4096 ∧ DigB (bys ti))) : Calls Tryz.prog 43 #[shV 0 n ti tf x cm] w fun e w' => e = .returned (.bool false) ∧ Below w.heap.size w w' := by
  have C0 := hide (fun W => within_t x (-2001) 2001 W x1 x2)
  have C1 := hide (fun W => areShown_F ti W g)
  have hn := toList_ne h
  clear x1 x2 h g
  have Bs0 := hide (Blk.newAt w (w.heap.size) (rfl) #[.int .i64 0, .bool n, .string ti, .string tf, .int .i64 x, .bool cm] 34)
  have HB0 : Hid (Below w.heap.size w (w.alloc (.cells #[.int .i64 0, .bool n, .string ti, .string tf, .int .i64 x, .bool cm] 34))) := ((Below.refl _ _).alloc (Nat.le_refl _) _)
  go_enter Tryz.func43, Tryz.ntmps43
  go_wp2_with fail
  refine (C0.out _).mono ?_
  rintro e w1 ⟨rfl, hb⟩
  have Bs1 := Blk.on Bs0 hb
  have HB1 := hide (HB0.out.trans (hb.mono HB0.out.size))
  clear hb Bs0 HB0 
  obtain ⟨ys0, ys1, ys2, ys3, ys4, ys5⟩ := Bs1.out.six
  go_wp2_with fail
  refine (C1.out _).mono ?_
  rintro e w2 ⟨rfl, hb⟩
  have Bs2 := Blk.on Bs1 hb
  have HB2 := hide (HB1.out.trans (hb.mono HB1.out.size))
  clear hb Bs1 HB1 ys0 ys1 ys2 ys3 ys4 ys5
  obtain ⟨ys0, ys1, ys2, ys3, ys4, ys5⟩ := Bs2.out.six
  go_wp2
  go_ret
  exact ⟨rfl, HB2.out⟩

set_option maxHeartbeats 1000000 in
theorem mayShown_0it (n : Bool) (ti tf : ByteArray) (x : Int) (cm : Bool) (w : World) (x1 : -2001 ≤ x) (x2 : x ≤ 2001) (h : ti.size ≠ 0) (g : (bys ti).length ≤ 4096 ∧ DigB (bys ti)) (b : Bool) (hb : ∀ W, Calls Tryz.prog 93 #[.string tf] W fun e w' => e = .returned (.bool b) ∧ Below W.heap.size W w') : Calls Tryz.prog 43 #[shV 0 n ti tf x cm] w fun e w' => e = .returned (.bool b) ∧ Below w.heap.size w w' := by
  have C0 := hide (fun W => within_t x (-2001) 2001 W x1 x2)
  have C1 := hide (fun W => areShown_T ti W g)
  have C2 := hide (fun W => hb W)
  have hn := toList_ne h
  clear x1 x2 h g hb
  have Bs0 := hide (Blk.newAt w (w.heap.size) (rfl) #[.int .i64 0, .bool n, .string ti, .string tf, .int .i64 x, .bool cm] 34)
  have HB0 : Hid (Below w.heap.size w (w.alloc (.cells #[.int .i64 0, .bool n, .string ti, .string tf, .int .i64 x, .bool cm] 34))) := ((Below.refl _ _).alloc (Nat.le_refl _) _)
  go_enter Tryz.func43, Tryz.ntmps43
  go_wp2_with fail
  refine (C0.out _).mono ?_
  rintro e w1 ⟨rfl, hb⟩
  have Bs1 := Blk.on Bs0 hb
  have HB1 := hide (HB0.out.trans (hb.mono HB0.out.size))
  clear hb Bs0 HB0 
  obtain ⟨ys0, ys1, ys2, ys3, ys4, ys5⟩ := Bs1.out.six
  go_wp2_with fail
  refine (C1.out _).mono ?_
  rintro e w2 ⟨rfl, hb⟩
  have Bs2 := Blk.on Bs1 hb
  have HB2 := hide (HB1.out.trans (hb.mono HB1.out.size))
  clear hb Bs1 HB1 ys0 ys1 ys2 ys3 ys4 ys5
  obtain ⟨ys0, ys1, ys2, ys3, ys4, ys5⟩ := Bs2.out.six
  go_wp2_with fail
  refine (C2.out _).mono ?_
  rintro e w3 ⟨rfl, hb⟩
  have Bs3 := Blk.on Bs2 hb
  have HB3 := hide (HB2.out.trans (hb.mono HB2.out.size))
  clear hb Bs2 HB2 ys0 ys1 ys2 ys3 ys4 ys5
  obtain ⟨ys0, ys1, ys2, ys3, ys4, ys5⟩ := Bs3.out.six
  go_wp2
  go_ret
  exact ⟨rfl, HB3.out⟩

set_option maxHeartbeats 1000000 in
theorem mayShown_0f (n : Bool) (tf : ByteArray) (x : Int) (cm : Bool) (w : World) (x1 : -2001 ≤ x) (x2 : x ≤ 2001) (h : tf.size ≠ 0) (b : Bool) (hb : ∀ W, Calls Tryz.prog 93 #[.string tf] W fun e w' => e = .returned (.bool b) ∧ Below W.heap.size W w') : Calls Tryz.prog 43 #[shV 0 n ⟨#[]⟩ tf x cm] w fun e w' => e = .returned (.bool b) ∧ Below w.heap.size w w' := by
  have C0 := hide (fun W => within_t x (-2001) 2001 W x1 x2)
  have C1 := hide (fun W => areShown_T ⟨#[]⟩ W ⟨by decide, fun k hk => absurd hk (by simp [bys])⟩)
  have C2 := hide (fun W => hb W)
  have hn := toList_ne h
  clear x1 x2 h hb
  have Bs0 := hide (Blk.newAt w (w.heap.size) (rfl) #[.int .i64 0, .bool n, .string ⟨#[]⟩, .string tf, .int .i64 x, .bool cm] 34)
  have HB0 : Hid (Below w.heap.size w (w.alloc (.cells #[.int .i64 0, .bool n, .string ⟨#[]⟩, .string tf, .int .i64 x, .bool cm] 34))) := ((Below.refl _ _).alloc (Nat.le_refl _) _)
  go_enter Tryz.func43, Tryz.ntmps43
  go_wp2_with fail
  refine (C0.out _).mono ?_
  rintro e w1 ⟨rfl, hb⟩
  have Bs1 := Blk.on Bs0 hb
  have HB1 := hide (HB0.out.trans (hb.mono HB0.out.size))
  clear hb Bs0 HB0 
  obtain ⟨ys0, ys1, ys2, ys3, ys4, ys5⟩ := Bs1.out.six
  go_wp2_with fail
  refine (C1.out _).mono ?_
  rintro e w2 ⟨rfl, hb⟩
  have Bs2 := Blk.on Bs1 hb
  have HB2 := hide (HB1.out.trans (hb.mono HB1.out.size))
  clear hb Bs1 HB1 ys0 ys1 ys2 ys3 ys4 ys5
  obtain ⟨ys0, ys1, ys2, ys3, ys4, ys5⟩ := Bs2.out.six
  go_wp2_with fail
  refine (C2.out _).mono ?_
  rintro e w3 ⟨rfl, hb⟩
  have Bs3 := Blk.on Bs2 hb
  have HB3 := hide (HB2.out.trans (hb.mono HB2.out.size))
  clear hb Bs2 HB2 ys0 ys1 ys2 ys3 ys4 ys5
  obtain ⟨ys0, ys1, ys2, ys3, ys4, ys5⟩ := Bs3.out.six
  go_wp2
  go_ret
  exact ⟨rfl, HB3.out⟩

set_option maxHeartbeats 1000000 in
theorem mayShown_1i (n : Bool) (ti tf : ByteArray) (x : Int) (cm : Bool) (w : World) (x1 : -2001 ≤ x) (x2 : x ≤ 2001) (h : ti.size ≠ 0) : Calls Tryz.prog 43 #[shV 1 n ti tf x cm] w fun e w' => e = .returned (.bool false) ∧ Below w.heap.size w w' := by
  have C0 := hide (fun W => within_t x (-2001) 2001 W x1 x2)
  have hn := toList_ne h
  clear x1 x2 h
  have Bs0 := hide (Blk.newAt w (w.heap.size) (rfl) #[.int .i64 1, .bool n, .string ti, .string tf, .int .i64 x, .bool cm] 34)
  have HB0 : Hid (Below w.heap.size w (w.alloc (.cells #[.int .i64 1, .bool n, .string ti, .string tf, .int .i64 x, .bool cm] 34))) := ((Below.refl _ _).alloc (Nat.le_refl _) _)
  go_enter Tryz.func43, Tryz.ntmps43
  go_wp2_with fail
  refine (C0.out _).mono ?_
  rintro e w1 ⟨rfl, hb⟩
  have Bs1 := Blk.on Bs0 hb
  have HB1 := hide (HB0.out.trans (hb.mono HB0.out.size))
  clear hb Bs0 HB0 
  obtain ⟨ys0, ys1, ys2, ys3, ys4, ys5⟩ := Bs1.out.six
  go_wp2
  go_ret
  exact ⟨rfl, HB1.out⟩

set_option maxHeartbeats 1000000 in
theorem mayShown_1f (n : Bool) (tf : ByteArray) (x : Int) (cm : Bool) (w : World) (x1 : -2001 ≤ x) (x2 : x ≤ 2001) (h : tf.size ≠ 0) : Calls Tryz.prog 43 #[shV 1 n ⟨#[]⟩ tf x cm] w fun e w' => e = .returned (.bool false) ∧ Below w.heap.size w w' := by
  have C0 := hide (fun W => within_t x (-2001) 2001 W x1 x2)
  have hn := toList_ne h
  clear x1 x2 h
  have Bs0 := hide (Blk.newAt w (w.heap.size) (rfl) #[.int .i64 1, .bool n, .string ⟨#[]⟩, .string tf, .int .i64 x, .bool cm] 34)
  have HB0 : Hid (Below w.heap.size w (w.alloc (.cells #[.int .i64 1, .bool n, .string ⟨#[]⟩, .string tf, .int .i64 x, .bool cm] 34))) := ((Below.refl _ _).alloc (Nat.le_refl _) _)
  go_enter Tryz.func43, Tryz.ntmps43
  go_wp2_with fail
  refine (C0.out _).mono ?_
  rintro e w1 ⟨rfl, hb⟩
  have Bs1 := Blk.on Bs0 hb
  have HB1 := hide (HB0.out.trans (hb.mono HB0.out.size))
  clear hb Bs0 HB0 
  obtain ⟨ys0, ys1, ys2, ys3, ys4, ys5⟩ := Bs1.out.six
  go_wp2
  go_ret
  exact ⟨rfl, HB1.out⟩

set_option maxHeartbeats 1000000 in
theorem mayShown_2i (n : Bool) (ti tf : ByteArray) (x : Int) (cm : Bool) (w : World) (x1 : -2001 ≤ x) (x2 : x ≤ 2001) (h : ti.size ≠ 0) : Calls Tryz.prog 43 #[shV 2 n ti tf x cm] w fun e w' => e = .returned (.bool false) ∧ Below w.heap.size w w' := by
  have C0 := hide (fun W => within_t x (-2001) 2001 W x1 x2)
  have hn := toList_ne h
  clear x1 x2 h
  have Bs0 := hide (Blk.newAt w (w.heap.size) (rfl) #[.int .i64 2, .bool n, .string ti, .string tf, .int .i64 x, .bool cm] 34)
  have HB0 : Hid (Below w.heap.size w (w.alloc (.cells #[.int .i64 2, .bool n, .string ti, .string tf, .int .i64 x, .bool cm] 34))) := ((Below.refl _ _).alloc (Nat.le_refl _) _)
  go_enter Tryz.func43, Tryz.ntmps43
  go_wp2_with fail
  refine (C0.out _).mono ?_
  rintro e w1 ⟨rfl, hb⟩
  have Bs1 := Blk.on Bs0 hb
  have HB1 := hide (HB0.out.trans (hb.mono HB0.out.size))
  clear hb Bs0 HB0 
  obtain ⟨ys0, ys1, ys2, ys3, ys4, ys5⟩ := Bs1.out.six
  go_wp2
  go_ret
  exact ⟨rfl, HB1.out⟩

set_option maxHeartbeats 1000000 in
theorem mayShown_2f (n : Bool) (tf : ByteArray) (x : Int) (cm : Bool) (w : World) (x1 : -2001 ≤ x) (x2 : x ≤ 2001) (h : tf.size ≠ 0) : Calls Tryz.prog 43 #[shV 2 n ⟨#[]⟩ tf x cm] w fun e w' => e = .returned (.bool false) ∧ Below w.heap.size w w' := by
  have C0 := hide (fun W => within_t x (-2001) 2001 W x1 x2)
  have hn := toList_ne h
  clear x1 x2 h
  have Bs0 := hide (Blk.newAt w (w.heap.size) (rfl) #[.int .i64 2, .bool n, .string ⟨#[]⟩, .string tf, .int .i64 x, .bool cm] 34)
  have HB0 : Hid (Below w.heap.size w (w.alloc (.cells #[.int .i64 2, .bool n, .string ⟨#[]⟩, .string tf, .int .i64 x, .bool cm] 34))) := ((Below.refl _ _).alloc (Nat.le_refl _) _)
  go_enter Tryz.func43, Tryz.ntmps43
  go_wp2_with fail
  refine (C0.out _).mono ?_
  rintro e w1 ⟨rfl, hb⟩
  have Bs1 := Blk.on Bs0 hb
  have HB1 := hide (HB0.out.trans (hb.mono HB0.out.size))
  clear hb Bs0 HB0 
  obtain ⟨ys0, ys1, ys2, ys3, ys4, ys5⟩ := Bs1.out.six
  go_wp2
  go_ret
  exact ⟨rfl, HB1.out⟩

set_option maxHeartbeats 1000000 in
theorem mayShown_1t (n : Bool) (x : Int) (cm : Bool) (w : World) (x1 : -2001 ≤ x) (x2 : x ≤ 2001) : Calls Tryz.prog 43 #[shV 1 n ⟨#[]⟩ ⟨#[]⟩ x cm] w fun e w' => e = .returned (.bool true) ∧ Below w.heap.size w w' := by
  have C0 := hide (fun W => within_t x (-2001) 2001 W x1 x2)
  clear x1 x2
  have Bs0 := hide (Blk.newAt w (w.heap.size) (rfl) #[.int .i64 1, .bool n, .string ⟨#[]⟩, .string ⟨#[]⟩, .int .i64 x, .bool cm] 34)
  have HB0 : Hid (Below w.heap.size w (w.alloc (.cells #[.int .i64 1, .bool n, .string ⟨#[]⟩, .string ⟨#[]⟩, .int .i64 x, .bool cm] 34))) := ((Below.refl _ _).alloc (Nat.le_refl _) _)
  go_enter Tryz.func43, Tryz.ntmps43
  go_wp2_with fail
  refine (C0.out _).mono ?_
  rintro e w1 ⟨rfl, hb⟩
  have Bs1 := Blk.on Bs0 hb
  have HB1 := hide (HB0.out.trans (hb.mono HB0.out.size))
  clear hb Bs0 HB0 
  obtain ⟨ys0, ys1, ys2, ys3, ys4, ys5⟩ := Bs1.out.six
  go_wp2
  go_ret
  exact ⟨rfl, HB1.out⟩

set_option maxHeartbeats 1000000 in
theorem mayShown_2t (x : Int) (cm : Bool) (w : World) (x1 : -2001 ≤ x) (x2 : x ≤ 2001) : Calls Tryz.prog 43 #[shV 2 false ⟨#[]⟩ ⟨#[]⟩ x cm] w fun e w' => e = .returned (.bool true) ∧ Below w.heap.size w w' := by
  have C0 := hide (fun W => within_t x (-2001) 2001 W x1 x2)
  clear x1 x2
  have Bs0 := hide (Blk.newAt w (w.heap.size) (rfl) #[.int .i64 2, .bool false, .string ⟨#[]⟩, .string ⟨#[]⟩, .int .i64 x, .bool cm] 34)
  have HB0 : Hid (Below w.heap.size w (w.alloc (.cells #[.int .i64 2, .bool false, .string ⟨#[]⟩, .string ⟨#[]⟩, .int .i64 x, .bool cm] 34))) := ((Below.refl _ _).alloc (Nat.le_refl _) _)
  go_enter Tryz.func43, Tryz.ntmps43
  go_wp2_with fail
  refine (C0.out _).mono ?_
  rintro e w1 ⟨rfl, hb⟩
  have Bs1 := Blk.on Bs0 hb
  have HB1 := hide (HB0.out.trans (hb.mono HB0.out.size))
  clear hb Bs0 HB0 
  obtain ⟨ys0, ys1, ys2, ys3, ys4, ys5⟩ := Bs1.out.six
  go_wp2
  go_ret
  exact ⟨rfl, HB1.out⟩

set_option maxHeartbeats 1000000 in
theorem mayShown_2n (x : Int) (cm : Bool) (w : World) (x1 : -2001 ≤ x) (x2 : x ≤ 2001) : Calls Tryz.prog 43 #[shV 2 true ⟨#[]⟩ ⟨#[]⟩ x cm] w fun e w' => e = .returned (.bool false) ∧ Below w.heap.size w w' := by
  have C0 := hide (fun W => within_t x (-2001) 2001 W x1 x2)
  clear x1 x2
  have Bs0 := hide (Blk.newAt w (w.heap.size) (rfl) #[.int .i64 2, .bool true, .string ⟨#[]⟩, .string ⟨#[]⟩, .int .i64 x, .bool cm] 34)
  have HB0 : Hid (Below w.heap.size w (w.alloc (.cells #[.int .i64 2, .bool true, .string ⟨#[]⟩, .string ⟨#[]⟩, .int .i64 x, .bool cm] 34))) := ((Below.refl _ _).alloc (Nat.le_refl _) _)
  go_enter Tryz.func43, Tryz.ntmps43
  go_wp2_with fail
  refine (C0.out _).mono ?_
  rintro e w1 ⟨rfl, hb⟩
  have Bs1 := Blk.on Bs0 hb
  have HB1 := hide (HB0.out.trans (hb.mono HB0.out.size))
  clear hb Bs0 HB0 
  obtain ⟨ys0, ys1, ys2, ys3, ys4, ys5⟩ := Bs1.out.six
  go_wp2
  go_ret
  exact ⟨rfl, HB1.out⟩

set_option maxHeartbeats 1000000 in
theorem mayShown_3 (c : Int) (n : Bool) (ti tf : ByteArray) (x : Int) (cm : Bool) (w : World) (x1 : -2001 ≤ x) (x2 : x ≤ 2001) (h0 : ¬ c = 0) (h1 : ¬ c = 1) (h2 : ¬ c = 2) : Calls Tryz.prog 43 #[shV c n ti tf x cm] w fun e w' => e = .returned (.bool false) ∧ Below w.heap.size w w' := by
  have C0 := hide (fun W => within_t x (-2001) 2001 W x1 x2)
  clear x1 x2
  have Bs0 := hide (Blk.newAt w (w.heap.size) (rfl) #[.int .i64 c, .bool n, .string ti, .string tf, .int .i64 x, .bool cm] 34)
  have HB0 : Hid (Below w.heap.size w (w.alloc (.cells #[.int .i64 c, .bool n, .string ti, .string tf, .int .i64 x, .bool cm] 34))) := ((Below.refl _ _).alloc (Nat.le_refl _) _)
  go_enter Tryz.func43, Tryz.ntmps43
  go_wp2_with fail
  refine (C0.out _).mono ?_
  rintro e w1 ⟨rfl, hb⟩
  have Bs1 := Blk.on Bs0 hb
  have HB1 := hide (HB0.out.trans (hb.mono HB0.out.size))
  clear hb Bs0 HB0 
  obtain ⟨ys0, ys1, ys2, ys3, ys4, ys5⟩ := Bs1.out.six
  go_wp2
  go_ret
  exact ⟨rfl, HB1.out⟩

theorem bys_ne {t : ByteArray} (h : bys t ≠ []) : t.size ≠ 0 := fun e => h (bys_nil.2 e)

theorem mayShown_T (c : Int) (n : Bool) (ti tf : ByteArray) (x : Int) (cm : Bool) (w : World) (h : MayS ⟨c, n, bys ti, bys tf, x, cm⟩) : Calls Tryz.prog 43 #[shV c n ti tf x cm] w fun e w' => e = .returned (.bool true) ∧ Below w.heap.size w w' := by
  obtain ⟨⟨x1, x2⟩, h⟩ := h
  simp only at x1 x2
  rcases h with ⟨h1, h2, h3, h4⟩ | ⟨h1, h2, h3⟩ | ⟨h1, h2, h3, h4⟩
  · simp only at h1 h2 h3 h4
    subst h1
    by_cases hi : bys ti = []
    · obtain rfl := nil_bys hi
      have hf : bys tf ≠ [] := h2.resolve_left (fun g => g hi)
      exact mayShown_0f n tf x cm w x1 x2 (bys_ne hf) true (fun W => areShown_T tf W h4)
    · exact mayShown_0it n ti tf x cm w x1 x2 (bys_ne hi) h3 true (fun W => areShown_T tf W h4)
  · simp only at h1 h2 h3
    obtain rfl := nil_bys h2
    obtain rfl := nil_bys h3
    subst h1
    exact mayShown_1t n x cm w x1 x2
  · simp only at h1 h2 h3 h4
    obtain rfl := nil_bys h2
    obtain rfl := nil_bys h3
    subst h1 h4
    exact mayShown_2t x cm w x1 x2

theorem mayShown_F (c : Int) (n : Bool) (ti tf : ByteArray) (x : Int) (cm : Bool) (w : World) (h : ¬ MayS ⟨c, n, bys ti, bys tf, x, cm⟩) : Calls Tryz.prog 43 #[shV c n ti tf x cm] w fun e w' => e = .returned (.bool false) ∧ Below w.heap.size w w' := by
  by_cases hx : -2001 ≤ x ∧ x ≤ 2001
  rotate_left
  · exact mayShown_x c n ti tf x cm w hx
  obtain ⟨x1, x2⟩ := hx
  by_cases h0 : c = 0
  · subst h0
    by_cases hi : bys ti = []
    · obtain rfl := nil_bys hi
      by_cases hf : bys tf = []
      · obtain rfl := nil_bys hf
        exact mayShown_0z n x cm w x1 x2
      · exact mayShown_0f n tf x cm w x1 x2 (bys_ne hf) false (fun W => areShown_F tf W (fun g => h ⟨⟨x1, x2⟩, .inl ⟨rfl, .inr hf, ⟨show (bys ⟨#[]⟩).length ≤ 4096 from by decide, fun k hk => absurd hk (by simp [bys])⟩, g⟩⟩))
    · by_cases g1 : (bys ti).length ≤ 4096 ∧ DigB (bys ti)
      · exact mayShown_0it n ti tf x cm w x1 x2 (bys_ne hi) g1 false (fun W => areShown_F tf W (fun g => h ⟨⟨x1, x2⟩, .inl ⟨rfl, .inl hi, g1, g⟩⟩))
      · exact mayShown_0if n ti tf x cm w x1 x2 (bys_ne hi) g1
  by_cases h1 : c = 1
  · subst h1
    by_cases hi : bys ti = []
    · obtain rfl := nil_bys hi
      by_cases hf : bys tf = []
      · exact absurd ⟨⟨x1, x2⟩, .inr (.inl ⟨rfl, hi, hf⟩)⟩ h
      · exact mayShown_1f n tf x cm w x1 x2 (bys_ne hf)
    · exact mayShown_1i n ti tf x cm w x1 x2 (bys_ne hi)
  by_cases h2 : c = 2
  · subst h2
    by_cases hi : bys ti = []
    · obtain rfl := nil_bys hi
      by_cases hf : bys tf = []
      · obtain rfl := nil_bys hf
        cases n
        · exact absurd ⟨⟨x1, x2⟩, .inr (.inr ⟨rfl, hi, hf, rfl⟩)⟩ h
        · exact mayShown_2n x cm w x1 x2
      · exact mayShown_2f n tf x cm w x1 x2 (bys_ne hf)
    · exact mayShown_2i n ti tf x cm w x1 x2 (bys_ne hi)
  · exact mayShown_3 c n ti tf x cm w x1 x2 h0 h1 h2

set_option maxHeartbeats 1000000 in
theorem value_no (c : Int) (n : Bool) (ti tf : ByteArray) (x : Int) (cm : Bool) (w : World) (h : ¬ MayS ⟨c, n, bys ti, bys tf, x, cm⟩) : Calls Tryz.prog 16 #[shV c n ti tf x cm] w fun e w' => e = .returned (.tuple #[dcV 0 false ⟨#[]⟩ 0, .int .i64 71]) ∧ Below w.heap.size w w' := by
  have MS := hide (fun W => mayShown_F c n ti tf x cm W h)
  clear h
  have Bs0 := hide ((Blk.newAt w (w.heap.size) (rfl) #[.int .i64 c, .bool n, .string ti, .string tf, .int .i64 x, .bool cm] 34).alloc (.cells #[.int .i64 0, .bool false, .string ⟨#[]⟩, .int .i64 0] 23))
  have Br0 := hide (Blk.newAt (w.alloc (.cells #[.int .i64 c, .bool n, .string ti, .string tf, .int .i64 x, .bool cm] 34)) (w.heap.size + 1) (by simp) #[.int .i64 0, .bool false, .string ⟨#[]⟩, .int .i64 0] 23)
  have HB0 : Hid (Below w.heap.size w ((w.alloc (.cells #[.int .i64 c, .bool n, .string ti, .string tf, .int .i64 x, .bool cm] 34)).alloc (.cells #[.int .i64 0, .bool false, .string ⟨#[]⟩, .int .i64 0] 23))) := (((Below.refl _ _).alloc (Nat.le_refl _) _).alloc (by simp <;> omega) _)
  go_enter Tryz.func16, Tryz.ntmps16
  go_wp2_with fail
  refine (MS.out _).mono ?_
  rintro e w1 ⟨rfl, hb⟩
  have Bs1 := Blk.on Bs0 hb
  have Br1 := Blk.on Br0 hb
  have HB1 := hide (HB0.out.trans (hb.mono HB0.out.size))
  clear hb Bs0 Br0 HB0 
  obtain ⟨ys0, ys1, ys2, ys3, ys4, ys5⟩ := Bs1.out.six
  obtain ⟨yr0, yr1, yr2, yr3⟩ := Br1.out.four
  have fr0 := Br1.out.free 0
  have fr1 := Br1.out.free 1
  have fr2 := Br1.out.free 2
  have fr3 := Br1.out.free 3
  go_wp2
  refine bodyPost_ret (results_dec2 rfl _ _ _ _ _ _ _ rfl (Br1.out.put4 _ _ _ _)) rfl ?_
  exact ⟨rfl, below_put4 (HB1.out) (by omega) _ _ _ _⟩

set_option maxHeartbeats 1000000 in
theorem value_cls (c : Int) (n : Bool) (ti tf : ByteArray) (x : Int) (cm : Bool) (w : World) (h : MayS ⟨c, n, bys ti, bys tf, x, cm⟩) (h0 : ¬ c = 0) : Calls Tryz.prog 16 #[shV c n ti tf x cm] w fun e w' => e = .returned (.tuple #[dcV c n ⟨#[]⟩ 0, .int .i64 0]) ∧ Below w.heap.size w w' := by
  have MS := hide (fun W => mayShown_T c n ti tf x cm W h)
  clear h
  have Bs0 := hide ((Blk.newAt w (w.heap.size) (rfl) #[.int .i64 c, .bool n, .string ti, .string tf, .int .i64 x, .bool cm] 34).alloc (.cells #[.int .i64 0, .bool false, .string ⟨#[]⟩, .int .i64 0] 23))
  have Br0 := hide (Blk.newAt (w.alloc (.cells #[.int .i64 c, .bool n, .string ti, .string tf, .int .i64 x, .bool cm] 34)) (w.heap.size + 1) (by simp) #[.int .i64 0, .bool false, .string ⟨#[]⟩, .int .i64 0] 23)
  have HB0 : Hid (Below w.heap.size w ((w.alloc (.cells #[.int .i64 c, .bool n, .string ti, .string tf, .int .i64 x, .bool cm] 34)).alloc (.cells #[.int .i64 0, .bool false, .string ⟨#[]⟩, .int .i64 0] 23))) := (((Below.refl _ _).alloc (Nat.le_refl _) _).alloc (by simp <;> omega) _)
  go_enter Tryz.func16, Tryz.ntmps16
  go_wp2_with fail
  refine (MS.out _).mono ?_
  rintro e w1 ⟨rfl, hb⟩
  have Bs1 := Blk.on Bs0 hb
  have Br1 := Blk.on Br0 hb
  have HB1 := hide (HB0.out.trans (hb.mono HB0.out.size))
  clear hb Bs0 Br0 HB0 
  obtain ⟨ys0, ys1, ys2, ys3, ys4, ys5⟩ := Bs1.out.six
  obtain ⟨yr0, yr1, yr2, yr3⟩ := Br1.out.four
  have fr0 := Br1.out.free 0
  have fr1 := Br1.out.free 1
  have fr2 := Br1.out.free 2
  have fr3 := Br1.out.free 3
  go_wp2
  refine bodyPost_ret (results_dec2 rfl _ _ _ _ _ _ _ rfl (Br1.out.put4 _ _ _ _)) rfl ?_
  exact ⟨rfl, below_put4 (HB1.out) (by omega) _ _ _ _⟩

set_option maxHeartbeats 2000000 in
theorem value_true (ti tf : ByteArray) (x : Int) (cm : Bool) (J : ByteArray) (cx : Int) (nx : Bool) (tx : ByteArray) (ex rx : Int) (w : World) (htab : Tab w) (h : MayS ⟨0, true, bys ti, bys tf, x, cm⟩) (hJ : ∀ W, Tab W → Calls Tryz.prog 44 #[.int .i64 x] W fun e w' => e = .returned (.string J) ∧ Below W.heap.size W w') (hP : ∀ W, Calls Tryz.prog 8 #[.string (⟨#[45]⟩ ++ (ti ++ ⟨#[46]⟩ ++ tf ++ ⟨#[101]⟩ ++ J))] W fun e w' => e = .returned (.tuple #[.agg #[.int .i64 cx, .bool nx, .string tx, .int .i64 ex], .int .i64 rx]) ∧ Below W.heap.size W w') (z1 : ti.size ≤ 4096) (z2 : tf.size ≤ 4096) (z3 : J.size ≤ 10) : Calls Tryz.prog 16 #[shV 0 true ti tf x cm] w fun e w' => e = .returned (.tuple #[.agg #[.int .i64 cx, .bool nx, .string tx, .int .i64 ex], .int .i64 rx]) ∧ Below w.heap.size w w' := by
  have MS := hide (fun W => mayShown_T 0 true ti tf x cm W h)
  have IT := hide hJ
  have PA := hide hP
  have HT := hide htab
  have s1 : ¬ 9223372036854775807 < ti.size + 1 := by omega
  have s2 : ¬ 9223372036854775807 < ti.size + 1 + tf.size := by omega
  have s3 : ¬ 9223372036854775807 < ti.size + 1 + tf.size + 1 := by omega
  have s4 : ¬ 9223372036854775807 < ti.size + 1 + tf.size + 1 + J.size := by omega
  have s5 : ¬ 9223372036854775807 < 1 + (ti.size + 1 + tf.size + 1 + J.size) := by omega
  have e1 : (ti ++ ⟨#[46]⟩ : ByteArray).size = ti.size + 1 := by rw [ByteArray.size_append]; rfl
  have e2 : (ti ++ ⟨#[46]⟩ ++ tf : ByteArray).size = ti.size + 1 + tf.size := by rw [ByteArray.size_append, e1]
  have e3 : (ti ++ ⟨#[46]⟩ ++ tf ++ ⟨#[101]⟩ : ByteArray).size = ti.size + 1 + tf.size + 1 := by rw [ByteArray.size_append, e2]; rfl
  have e4 : (ti ++ ⟨#[46]⟩ ++ tf ++ ⟨#[101]⟩ ++ J : ByteArray).size = ti.size + 1 + tf.size + 1 + J.size := by rw [ByteArray.size_append, e3]
  clear h hJ hP htab z1 z2 z3
  have Bs0 := hide ((Blk.newAt w (w.heap.size) (rfl) #[.int .i64 0, .bool true, .string ti, .string tf, .int .i64 x, .bool cm] 34).alloc (.cells #[.int .i64 0, .bool false, .string ⟨#[]⟩, .int .i64 0] 23))
  have Br0 := hide (Blk.newAt (w.alloc (.cells #[.int .i64 0, .bool true, .string ti, .string tf, .int .i64 x, .bool cm] 34)) (w.heap.size + 1) (by simp) #[.int .i64 0, .bool false, .string ⟨#[]⟩, .int .i64 0] 23)
  have HB0 : Hid (Below w.heap.size w ((w.alloc (.cells #[.int .i64 0, .bool true, .string ti, .string tf, .int .i64 x, .bool cm] 34)).alloc (.cells #[.int .i64 0, .bool false, .string ⟨#[]⟩, .int .i64 0] 23))) := (((Below.refl _ _).alloc (Nat.le_refl _) _).alloc (by simp <;> omega) _)
  go_enter Tryz.func16, Tryz.ntmps16
  go_wp2_with fail
  refine (MS.out _).mono ?_
  rintro e w1 ⟨rfl, hb⟩
  have Bs1 := Blk.on Bs0 hb
  have Br1 := Blk.on Br0 hb
  have HB1 := hide (HB0.out.trans (hb.mono HB0.out.size))
  clear hb Bs0 Br0 HB0 
  obtain ⟨ys0, ys1, ys2, ys3, ys4, ys5⟩ := Bs1.out.six
  obtain ⟨yr0, yr1, yr2, yr3⟩ := Br1.out.four
  have HTW := hide (HT.out.below HB1.out)
  have b0 : Hid (Below w1.heap.size w1 w1.drew) := bdrewD w1
  have C0 : Hid (∀ X, Hid (Below w1.heap.size w1 X) → Calls Tryz.prog 44 #[.int .i64 x] X fun e w' => e = .returned (.string J) ∧ Hid (Below w1.heap.size w1 w') ∧ w'.cell? ⟨w.heap.size, 2, none⟩ = some (.string ti) ∧ w'.cell? ⟨w.heap.size, 3, none⟩ = some (.string tf) ∧ w'.cell? ⟨w.heap.size, 4, none⟩ = some (.int .i64 x)) := by
    intro X bX
    refine (IT.out X (HTW.out.below bX.out)).mono ?_
    rintro e w' ⟨rfl, hb⟩
    have bb := bX.out.trans (hb.mono bX.out.size)
    have Bsq := Bs1.out.below bb Bs1.out.lt
    exact ⟨rfl, bb, Bsq.cell 2, Bsq.cell 3, Bsq.cell 4⟩
  go_wp2_with fail
  have mk0 : True := trivial
  go_region_held3 (fun w' => w'.cell? ⟨w.heap.size, 2, none⟩ = some (.string ti) ∧ w'.cell? ⟨w.heap.size, 3, none⟩ = some (.string tf) ∧ w'.cell? ⟨w.heap.size, 4, none⟩ = some (.int .i64 x)) (go_keep) (first
    | (clear mk0; go_at_call 44; refine (C0.out _ b0).mono ?_; rintro e w2 ⟨rfl, b1, q0_0, q0_1, q0_2⟩; have mk1 : True := trivial))
  have Bs2 := hide (Bs1.out.below b1.out Bs1.out.lt)
  have Br2 := hide (Br1.out.below b1.out Br1.out.lt)
  have HB2 := hide (HB1.out.trans (b1.out.mono HB1.out.size))
  clear mk1 b0 b1 C0 q0_0 q0_1 q0_2 Bs1 Br1 HB1 ys0 ys1 ys2 ys3 ys4 ys5 yr0 yr1 yr2 yr3
  obtain ⟨ys0, ys1, ys2, ys3, ys4, ys5⟩ := Bs2.out.six
  obtain ⟨yr0, yr1, yr2, yr3⟩ := Br2.out.four
  go_wp2_with fail
  refine (PA.out _).mono ?_
  rintro e w3 ⟨rfl, hb⟩
  have Bs3 := Blk.on Bs2 hb
  have Br3 := Blk.on Br2 hb
  have HB3 := hide (HB2.out.trans (hb.mono HB2.out.size))
  clear hb Bs2 Br2 HB2 ys0 ys1 ys2 ys3 ys4 ys5 yr0 yr1 yr2 yr3
  obtain ⟨ys0, ys1, ys2, ys3, ys4, ys5⟩ := Bs3.out.six
  obtain ⟨yr0, yr1, yr2, yr3⟩ := Br3.out.four
  have fr0 := Br3.out.free 0
  have fr1 := Br3.out.free 1
  have fr2 := Br3.out.free 2
  have fr3 := Br3.out.free 3
  go_wp2
  refine bodyPost_ret (results_dec2 rfl _ _ _ _ _ _ _ rfl (Br3.out.put4 _ _ _ _)) rfl ?_
  exact ⟨rfl, below_put4 (HB3.out) (by omega) _ _ _ _⟩

set_option maxHeartbeats 2000000 in
theorem value_false (ti tf : ByteArray) (x : Int) (cm : Bool) (J : ByteArray) (cx : Int) (nx : Bool) (tx : ByteArray) (ex rx : Int) (w : World) (htab : Tab w) (h : MayS ⟨0, false, bys ti, bys tf, x, cm⟩) (hJ : ∀ W, Tab W → Calls Tryz.prog 44 #[.int .i64 x] W fun e w' => e = .returned (.string J) ∧ Below W.heap.size W w') (hP : ∀ W, Calls Tryz.prog 8 #[.string (ti ++ ⟨#[46]⟩ ++ tf ++ ⟨#[101]⟩ ++ J)] W fun e w' => e = .returned (.tuple #[.agg #[.int .i64 cx, .bool nx, .string tx, .int .i64 ex], .int .i64 rx]) ∧ Below W.heap.size W w') (z1 : ti.size ≤ 4096) (z2 : tf.size ≤ 4096) (z3 : J.size ≤ 10) : Calls Tryz.prog 16 #[shV 0 false ti tf x cm] w fun e w' => e = .returned (.tuple #[.agg #[.int .i64 cx, .bool nx, .string tx, .int .i64 ex], .int .i64 rx]) ∧ Below w.heap.size w w' := by
  have MS := hide (fun W => mayShown_T 0 false ti tf x cm W h)
  have IT := hide hJ
  have PA := hide hP
  have HT := hide htab
  have s1 : ¬ 9223372036854775807 < ti.size + 1 := by omega
  have s2 : ¬ 9223372036854775807 < ti.size + 1 + tf.size := by omega
  have s3 : ¬ 9223372036854775807 < ti.size + 1 + tf.size + 1 := by omega
  have s4 : ¬ 9223372036854775807 < ti.size + 1 + tf.size + 1 + J.size := by omega
  have s5 : ¬ 9223372036854775807 < 1 + (ti.size + 1 + tf.size + 1 + J.size) := by omega
  have e1 : (ti ++ ⟨#[46]⟩ : ByteArray).size = ti.size + 1 := by rw [ByteArray.size_append]; rfl
  have e2 : (ti ++ ⟨#[46]⟩ ++ tf : ByteArray).size = ti.size + 1 + tf.size := by rw [ByteArray.size_append, e1]
  have e3 : (ti ++ ⟨#[46]⟩ ++ tf ++ ⟨#[101]⟩ : ByteArray).size = ti.size + 1 + tf.size + 1 := by rw [ByteArray.size_append, e2]; rfl
  have e4 : (ti ++ ⟨#[46]⟩ ++ tf ++ ⟨#[101]⟩ ++ J : ByteArray).size = ti.size + 1 + tf.size + 1 + J.size := by rw [ByteArray.size_append, e3]
  clear h hJ hP htab z1 z2 z3
  have Bs0 := hide ((Blk.newAt w (w.heap.size) (rfl) #[.int .i64 0, .bool false, .string ti, .string tf, .int .i64 x, .bool cm] 34).alloc (.cells #[.int .i64 0, .bool false, .string ⟨#[]⟩, .int .i64 0] 23))
  have Br0 := hide (Blk.newAt (w.alloc (.cells #[.int .i64 0, .bool false, .string ti, .string tf, .int .i64 x, .bool cm] 34)) (w.heap.size + 1) (by simp) #[.int .i64 0, .bool false, .string ⟨#[]⟩, .int .i64 0] 23)
  have HB0 : Hid (Below w.heap.size w ((w.alloc (.cells #[.int .i64 0, .bool false, .string ti, .string tf, .int .i64 x, .bool cm] 34)).alloc (.cells #[.int .i64 0, .bool false, .string ⟨#[]⟩, .int .i64 0] 23))) := (((Below.refl _ _).alloc (Nat.le_refl _) _).alloc (by simp <;> omega) _)
  go_enter Tryz.func16, Tryz.ntmps16
  go_wp2_with fail
  refine (MS.out _).mono ?_
  rintro e w1 ⟨rfl, hb⟩
  have Bs1 := Blk.on Bs0 hb
  have Br1 := Blk.on Br0 hb
  have HB1 := hide (HB0.out.trans (hb.mono HB0.out.size))
  clear hb Bs0 Br0 HB0 
  obtain ⟨ys0, ys1, ys2, ys3, ys4, ys5⟩ := Bs1.out.six
  obtain ⟨yr0, yr1, yr2, yr3⟩ := Br1.out.four
  have HTW := hide (HT.out.below HB1.out)
  have b0 : Hid (Below w1.heap.size w1 w1.drew) := bdrewD w1
  have C0 : Hid (∀ X, Hid (Below w1.heap.size w1 X) → Calls Tryz.prog 44 #[.int .i64 x] X fun e w' => e = .returned (.string J) ∧ Hid (Below w1.heap.size w1 w') ∧ w'.cell? ⟨w.heap.size, 2, none⟩ = some (.string ti) ∧ w'.cell? ⟨w.heap.size, 3, none⟩ = some (.string tf) ∧ w'.cell? ⟨w.heap.size, 4, none⟩ = some (.int .i64 x)) := by
    intro X bX
    refine (IT.out X (HTW.out.below bX.out)).mono ?_
    rintro e w' ⟨rfl, hb⟩
    have bb := bX.out.trans (hb.mono bX.out.size)
    have Bsq := Bs1.out.below bb Bs1.out.lt
    exact ⟨rfl, bb, Bsq.cell 2, Bsq.cell 3, Bsq.cell 4⟩
  go_wp2_with fail
  have mk0 : True := trivial
  go_region_held3 (fun w' => w'.cell? ⟨w.heap.size, 2, none⟩ = some (.string ti) ∧ w'.cell? ⟨w.heap.size, 3, none⟩ = some (.string tf) ∧ w'.cell? ⟨w.heap.size, 4, none⟩ = some (.int .i64 x)) (go_keep) (first
    | (clear mk0; go_at_call 44; refine (C0.out _ b0).mono ?_; rintro e w2 ⟨rfl, b1, q0_0, q0_1, q0_2⟩; have mk1 : True := trivial))
  have Bs2 := hide (Bs1.out.below b1.out Bs1.out.lt)
  have Br2 := hide (Br1.out.below b1.out Br1.out.lt)
  have HB2 := hide (HB1.out.trans (b1.out.mono HB1.out.size))
  clear mk1 b0 b1 C0 q0_0 q0_1 q0_2 Bs1 Br1 HB1 ys0 ys1 ys2 ys3 ys4 ys5 yr0 yr1 yr2 yr3
  obtain ⟨ys0, ys1, ys2, ys3, ys4, ys5⟩ := Bs2.out.six
  obtain ⟨yr0, yr1, yr2, yr3⟩ := Br2.out.four
  go_wp2_with fail
  refine (PA.out _).mono ?_
  rintro e w3 ⟨rfl, hb⟩
  have Bs3 := Blk.on Bs2 hb
  have Br3 := Blk.on Br2 hb
  have HB3 := hide (HB2.out.trans (hb.mono HB2.out.size))
  clear hb Bs2 Br2 HB2 ys0 ys1 ys2 ys3 ys4 ys5 yr0 yr1 yr2 yr3
  obtain ⟨ys0, ys1, ys2, ys3, ys4, ys5⟩ := Bs3.out.six
  obtain ⟨yr0, yr1, yr2, yr3⟩ := Br3.out.four
  have fr0 := Br3.out.free 0
  have fr1 := Br3.out.free 1
  have fr2 := Br3.out.free 2
  have fr3 := Br3.out.free 3
  go_wp2
  refine bodyPost_ret (results_dec2 rfl _ _ _ _ _ _ _ rfl (Br3.out.put4 _ _ _ _)) rfl ?_
  exact ⟨rfl, below_put4 (HB3.out) (by omega) _ _ _ _⟩

theorem Value_any (c : Int) (n : Bool) (ti tf : ByteArray) (x : Int) (cm : Bool) (w : World) (htab : Tab w) : Calls Tryz.prog 16 #[shV c n ti tf x cm] w fun e w' => e = .returned (decErr (valueS ⟨c, n, bys ti, bys tf, x, cm⟩)) ∧ Below w.heap.size w w' := by
  unfold valueS
  by_cases h : MayS ⟨c, n, bys ti, bys tf, x, cm⟩
  · rw [if_neg (fun g => g h)]
    by_cases h0 : c = 0
    · subst h0
      rw [if_neg (fun g => g rfl)]
      obtain ⟨⟨x1, x2⟩, h2⟩ := id h
      simp only at x1 x2
      rcases h2 with ⟨_, h2, ⟨h3, h4⟩, ⟨h5, h6⟩⟩ | ⟨h1, _⟩ | ⟨h1, _⟩
      · simp only at h2 h3 h4 h5 h6
        have P := parse_shown n h4 h6 (fun g => h2.elim (fun q => q g.1) (fun q => q g.2)) (show -10000 ≤ x by omega) (by omega)
        rw [bys_len] at h3 h5
        have il := itoa_len (e := x) (by omega) (by omega)
        have T1 : bys (ti ++ ⟨#[46]⟩ ++ tf ++ ⟨#[101]⟩ ++ ⟨(Lib.itoa x).toArray⟩) = shownT false (bys ti) (bys tf) x := by
          rw [bys_append, bys_append, bys_append, bys_append, bys_mk (Lib.itoa x)]
          unfold shownT
          simp only [Bool.false_eq_true, if_false, List.nil_append, List.append_assoc]
          rfl
        have Z1 : ((ti ++ ⟨#[46]⟩ ++ tf ++ ⟨#[101]⟩ ++ ⟨(Lib.itoa x).toArray⟩)).size ≤ 100000 := by
          rw [← bys_len, T1]
          unfold shownT
          simp only [Bool.false_eq_true, if_false, List.nil_append, List.length_append, List.length_cons, bys_len]
          omega
        rw [← P]
        cases n
        · have PS := fun W => Parse_any (ti ++ ⟨#[46]⟩ ++ tf ++ ⟨#[101]⟩ ++ ⟨(Lib.itoa x).toArray⟩) W (by omega)
          rw [T1] at PS
          exact value_false ti tf x cm ⟨(Lib.itoa x).toArray⟩ _ _ _ _ _ w htab h (fun W hW => itoa_any x W (by omega) (by omega) hW) PS h3 h5 (by rw [size_mk0]; omega)
        · have T2 : bys (⟨#[45]⟩ ++ (ti ++ ⟨#[46]⟩ ++ tf ++ ⟨#[101]⟩ ++ ⟨(Lib.itoa x).toArray⟩)) = shownT true (bys ti) (bys tf) x := by rw [bys_append, T1]; rfl
          have PS := fun W => Parse_any (⟨#[45]⟩ ++ (ti ++ ⟨#[46]⟩ ++ tf ++ ⟨#[101]⟩ ++ ⟨(Lib.itoa x).toArray⟩)) W (by rw [ByteArray.size_append]; have : (⟨#[45]⟩ : ByteArray).size = 1 := rfl; omega)
          rw [T2] at PS
          exact value_true ti tf x cm ⟨(Lib.itoa x).toArray⟩ _ _ _ _ _ w htab h (fun W hW => itoa_any x W (by omega) (by omega) hW) PS h3 h5 (by rw [size_mk0]; omega)
      · exact absurd (show (0 : Int) = 1 from h1) (by decide)
      · exact absurd (show (0 : Int) = 2 from h1) (by decide)
    · rw [if_pos h0]
      have hc : c = ((c.toNat : Nat) : Int) := by
        obtain ⟨_, h2⟩ := h
        rcases h2 with ⟨h1, _⟩ | ⟨h1, _⟩ | ⟨h1, _⟩ <;> simp only at h1 <;> omega
      have g := value_cls c n ti tf x cm w h h0
      unfold decErr decVal
      simp only
      rw [← hc]
      exact g
  · rw [if_pos h]
    exact value_no c n ti tf x cm w h

end Go.Proofs.YtobloamnaemfnaaGreatDoor

namespace Go.Proofs.YtobloamnaemfnaaGreatDoor
open Go.RowKit

abbrev opV (i : ByteArray) (v z : Int) (f t : ByteArray) (e : Int) : Value := .agg #[.string i, .int .i64 v, .int .i64 z, .string f, .string t, .int .i64 e]
def opVal (x : OperT) : Value := opV ⟨x.i.toArray⟩ x.v x.w ⟨x.f.toArray⟩ ⟨x.t.toArray⟩ x.e
def opErr (p : OperT × Int) : Value := .tuple #[opVal p.1, .int .i64 p.2]

theorem extract_mk (l : List UInt8) (n : Nat) : (⟨l.toArray⟩ : ByteArray).extract 0 n = ⟨(l.take n).toArray⟩ := by
  have h := mk_bys ((⟨l.toArray⟩ : ByteArray).extract 0 n)
  rw [bys_to, bys_mk] at h
  exact h.symm

theorem results_opr2 {fn : Func} {a c : Tmp} (h : fn.results = #[.cell a 41, .tmp c]) (tmps : Array Value) (H : Nat) (x0 x1 x2 x3 x4 x5 : Value) (w : World) (ht : tmps.getD a undef = .pointer (some ⟨H, 0, none⟩)) (hp : Blk w H #[x0, x1, x2, x3, x4, x5] 41) :
    (results fn tmps).run Tryz.prog w = .ok (.tuple #[.agg #[x0, x1, x2, x3, x4, x5], tmps.getD c undef]) w := by
  have c0 := hp.cell 0
  have c1 := hp.cell 1
  have c2 := hp.cell 2
  have c3 := hp.cell 3
  have c4 := hp.cell 4
  have c5 := hp.cell 5
  simp at c0 c1 c2 c3 c4 c5
  rw [Array.getD_eq_getD_getElem?] at ht
  simp [results, h, ht, go_sem, c0, c1, c2, c3, c4, c5]

set_option maxHeartbeats 1000000 in
theorem has_no (c : Int) (n : Bool) (ti tf : ByteArray) (x : Int) (cm : Bool) (cx : Int) (nx : Bool) (tx : ByteArray) (ex : Int) (w : World) (htab : Tab w) (hV : ∀ W, Tab W → Calls Tryz.prog 16 #[shV c n ti tf x cm] W fun e w' => e = .returned (.tuple #[.agg #[.int .i64 cx, .bool nx, .string tx, .int .i64 ex], .int .i64 71]) ∧ Below W.heap.size W w')  : Calls Tryz.prog 49 #[shV c n ti tf x cm] w fun e w' => e = .returned (.bool false) ∧ Below w.heap.size w w' := by
  have HV := hide hV
  have HT := hide htab
  clear hV htab
  have Bs0 := hide (Blk.newAt w (w.heap.size) (rfl) #[.int .i64 c, .bool n, .string ti, .string tf, .int .i64 x, .bool cm] 34)
  have HB0 : Hid (Below w.heap.size w (w.alloc (.cells #[.int .i64 c, .bool n, .string ti, .string tf, .int .i64 x, .bool cm] 34))) := ((Below.refl _ _).alloc (Nat.le_refl _) _)
  go_enter Tryz.func49, Tryz.ntmps49
  go_wp2_with fail
  refine (HV.out _ (HT.out.below HB0.out)).mono ?_
  rintro e w1 ⟨rfl, hb⟩
  have Bs1 := Blk.on Bs0 hb
  have HB1 := hide (HB0.out.trans (hb.mono HB0.out.size))
  clear hb Bs0 HB0 
  obtain ⟨ys0, ys1, ys2, ys3, ys4, ys5⟩ := Bs1.out.six
  have Bs2 := Blk.up Bs1 (.cells #[.int .i64 cx, .bool nx, .string tx, .int .i64 ex] 23)
  have Bd2 := hide ((Blk.newAt w1 (w1.heap.size) (rfl) #[.int .i64 cx, .bool nx, .string tx, .int .i64 ex] 23))
  have HB2 : Hid (Below w.heap.size w (w1.alloc (.cells #[.int .i64 cx, .bool nx, .string tx, .int .i64 ex] 23))) := (HB1.out.alloc HB1.out.size _)
  clear Bs1 HB1 ys0 ys1 ys2 ys3 ys4 ys5
  obtain ⟨ys0, ys1, ys2, ys3, ys4, ys5⟩ := Bs2.out.six
  obtain ⟨yd0, yd1, yd2, yd3⟩ := Bd2.out.four
  go_wp2
  go_ret
  exact ⟨rfl, HB2.out⟩

set_option maxHeartbeats 1000000 in
theorem has_p0 (n : Bool) (ti tf : ByteArray) (x cx : Int) (nx : Bool) (tx : ByteArray) (ex : Int) (w : World) (htab : Tab w) (hV : ∀ W, Tab W → Calls Tryz.prog 16 #[shV 0 n ti tf x false] W fun e w' => e = .returned (.tuple #[.agg #[.int .i64 cx, .bool nx, .string tx, .int .i64 ex], .int .i64 0]) ∧ Below W.heap.size W w')  : Calls Tryz.prog 49 #[shV 0 n ti tf x false] w fun e w' => e = .returned (.bool true) ∧ Below w.heap.size w w' := by
  have HV := hide hV
  have HT := hide htab
  clear hV htab
  have Bs0 := hide (Blk.newAt w (w.heap.size) (rfl) #[.int .i64 0, .bool n, .string ti, .string tf, .int .i64 x, .bool false] 34)
  have HB0 : Hid (Below w.heap.size w (w.alloc (.cells #[.int .i64 0, .bool n, .string ti, .string tf, .int .i64 x, .bool false] 34))) := ((Below.refl _ _).alloc (Nat.le_refl _) _)
  go_enter Tryz.func49, Tryz.ntmps49
  go_wp2_with fail
  refine (HV.out _ (HT.out.below HB0.out)).mono ?_
  rintro e w1 ⟨rfl, hb⟩
  have Bs1 := Blk.on Bs0 hb
  have HB1 := hide (HB0.out.trans (hb.mono HB0.out.size))
  clear hb Bs0 HB0 
  obtain ⟨ys0, ys1, ys2, ys3, ys4, ys5⟩ := Bs1.out.six
  have Bs2 := Blk.up Bs1 (.cells #[.int .i64 cx, .bool nx, .string tx, .int .i64 ex] 23)
  have Bd2 := hide ((Blk.newAt w1 (w1.heap.size) (rfl) #[.int .i64 cx, .bool nx, .string tx, .int .i64 ex] 23))
  have HB2 : Hid (Below w.heap.size w (w1.alloc (.cells #[.int .i64 cx, .bool nx, .string tx, .int .i64 ex] 23))) := (HB1.out.alloc HB1.out.size _)
  clear Bs1 HB1 ys0 ys1 ys2 ys3 ys4 ys5
  obtain ⟨ys0, ys1, ys2, ys3, ys4, ys5⟩ := Bs2.out.six
  obtain ⟨yd0, yd1, yd2, yd3⟩ := Bd2.out.four
  go_wp2
  go_ret
  exact ⟨rfl, HB2.out⟩

set_option maxHeartbeats 1000000 in
theorem has_c0 (n : Bool) (ti tf : ByteArray) (x cx : Int) (nx : Bool) (tx : ByteArray) (ex : Int) (w : World) (htab : Tab w) (hV : ∀ W, Tab W → Calls Tryz.prog 16 #[shV 0 n ti tf x true] W fun e w' => e = .returned (.tuple #[.agg #[.int .i64 cx, .bool nx, .string tx, .int .i64 ex], .int .i64 0]) ∧ Below W.heap.size W w') (h : 0 ≤ x) : Calls Tryz.prog 49 #[shV 0 n ti tf x true] w fun e w' => e = .returned (.bool true) ∧ Below w.heap.size w w' := by
  have HV := hide hV
  have HT := hide htab
  clear hV htab
  have h2 : decide (0 ≤ x) = true := decide_eq_true h
  have Bs0 := hide (Blk.newAt w (w.heap.size) (rfl) #[.int .i64 0, .bool n, .string ti, .string tf, .int .i64 x, .bool true] 34)
  have HB0 : Hid (Below w.heap.size w (w.alloc (.cells #[.int .i64 0, .bool n, .string ti, .string tf, .int .i64 x, .bool true] 34))) := ((Below.refl _ _).alloc (Nat.le_refl _) _)
  go_enter Tryz.func49, Tryz.ntmps49
  go_wp2_with fail
  refine (HV.out _ (HT.out.below HB0.out)).mono ?_
  rintro e w1 ⟨rfl, hb⟩
  have Bs1 := Blk.on Bs0 hb
  have HB1 := hide (HB0.out.trans (hb.mono HB0.out.size))
  clear hb Bs0 HB0 
  obtain ⟨ys0, ys1, ys2, ys3, ys4, ys5⟩ := Bs1.out.six
  have Bs2 := Blk.up Bs1 (.cells #[.int .i64 cx, .bool nx, .string tx, .int .i64 ex] 23)
  have Bd2 := hide ((Blk.newAt w1 (w1.heap.size) (rfl) #[.int .i64 cx, .bool nx, .string tx, .int .i64 ex] 23))
  have HB2 : Hid (Below w.heap.size w (w1.alloc (.cells #[.int .i64 cx, .bool nx, .string tx, .int .i64 ex] 23))) := (HB1.out.alloc HB1.out.size _)
  clear Bs1 HB1 ys0 ys1 ys2 ys3 ys4 ys5
  obtain ⟨ys0, ys1, ys2, ys3, ys4, ys5⟩ := Bs2.out.six
  obtain ⟨yd0, yd1, yd2, yd3⟩ := Bd2.out.four
  go_wp2
  go_ret
  exact ⟨rfl, HB2.out⟩

set_option maxHeartbeats 1000000 in
theorem has_n0 (n : Bool) (ti tf : ByteArray) (x cx : Int) (nx : Bool) (tx : ByteArray) (ex : Int) (w : World) (htab : Tab w) (hV : ∀ W, Tab W → Calls Tryz.prog 16 #[shV 0 n ti tf x true] W fun e w' => e = .returned (.tuple #[.agg #[.int .i64 cx, .bool nx, .string tx, .int .i64 ex], .int .i64 0]) ∧ Below W.heap.size W w') (h : ¬ 0 ≤ x) : Calls Tryz.prog 49 #[shV 0 n ti tf x true] w fun e w' => e = .returned (.bool false) ∧ Below w.heap.size w w' := by
  have HV := hide hV
  have HT := hide htab
  clear hV htab
  have h2 : decide (0 ≤ x) = false := decide_eq_false h
  have Bs0 := hide (Blk.newAt w (w.heap.size) (rfl) #[.int .i64 0, .bool n, .string ti, .string tf, .int .i64 x, .bool true] 34)
  have HB0 : Hid (Below w.heap.size w (w.alloc (.cells #[.int .i64 0, .bool n, .string ti, .string tf, .int .i64 x, .bool true] 34))) := ((Below.refl _ _).alloc (Nat.le_refl _) _)
  go_enter Tryz.func49, Tryz.ntmps49
  go_wp2_with fail
  refine (HV.out _ (HT.out.below HB0.out)).mono ?_
  rintro e w1 ⟨rfl, hb⟩
  have Bs1 := Blk.on Bs0 hb
  have HB1 := hide (HB0.out.trans (hb.mono HB0.out.size))
  clear hb Bs0 HB0 
  obtain ⟨ys0, ys1, ys2, ys3, ys4, ys5⟩ := Bs1.out.six
  have Bs2 := Blk.up Bs1 (.cells #[.int .i64 cx, .bool nx, .string tx, .int .i64 ex] 23)
  have Bd2 := hide ((Blk.newAt w1 (w1.heap.size) (rfl) #[.int .i64 cx, .bool nx, .string tx, .int .i64 ex] 23))
  have HB2 : Hid (Below w.heap.size w (w1.alloc (.cells #[.int .i64 cx, .bool nx, .string tx, .int .i64 ex] 23))) := (HB1.out.alloc HB1.out.size _)
  clear Bs1 HB1 ys0 ys1 ys2 ys3 ys4 ys5
  obtain ⟨ys0, ys1, ys2, ys3, ys4, ys5⟩ := Bs2.out.six
  obtain ⟨yd0, yd1, yd2, yd3⟩ := Bd2.out.four
  go_wp2
  go_ret
  exact ⟨rfl, HB2.out⟩

set_option maxHeartbeats 1000000 in
theorem has_p51 (n : Bool) (ti tf : ByteArray) (x cx : Int) (nx : Bool) (tx : ByteArray) (ex : Int) (w : World) (htab : Tab w) (hV : ∀ W, Tab W → Calls Tryz.prog 16 #[shV 0 n ti tf x false] W fun e w' => e = .returned (.tuple #[.agg #[.int .i64 cx, .bool nx, .string tx, .int .i64 ex], .int .i64 51]) ∧ Below W.heap.size W w')  : Calls Tryz.prog 49 #[shV 0 n ti tf x false] w fun e w' => e = .returned (.bool true) ∧ Below w.heap.size w w' := by
  have HV := hide hV
  have HT := hide htab
  clear hV htab
  have Bs0 := hide (Blk.newAt w (w.heap.size) (rfl) #[.int .i64 0, .bool n, .string ti, .string tf, .int .i64 x, .bool false] 34)
  have HB0 : Hid (Below w.heap.size w (w.alloc (.cells #[.int .i64 0, .bool n, .string ti, .string tf, .int .i64 x, .bool false] 34))) := ((Below.refl _ _).alloc (Nat.le_refl _) _)
  go_enter Tryz.func49, Tryz.ntmps49
  go_wp2_with fail
  refine (HV.out _ (HT.out.below HB0.out)).mono ?_
  rintro e w1 ⟨rfl, hb⟩
  have Bs1 := Blk.on Bs0 hb
  have HB1 := hide (HB0.out.trans (hb.mono HB0.out.size))
  clear hb Bs0 HB0 
  obtain ⟨ys0, ys1, ys2, ys3, ys4, ys5⟩ := Bs1.out.six
  have Bs2 := Blk.up Bs1 (.cells #[.int .i64 cx, .bool nx, .string tx, .int .i64 ex] 23)
  have Bd2 := hide ((Blk.newAt w1 (w1.heap.size) (rfl) #[.int .i64 cx, .bool nx, .string tx, .int .i64 ex] 23))
  have HB2 : Hid (Below w.heap.size w (w1.alloc (.cells #[.int .i64 cx, .bool nx, .string tx, .int .i64 ex] 23))) := (HB1.out.alloc HB1.out.size _)
  clear Bs1 HB1 ys0 ys1 ys2 ys3 ys4 ys5
  obtain ⟨ys0, ys1, ys2, ys3, ys4, ys5⟩ := Bs2.out.six
  obtain ⟨yd0, yd1, yd2, yd3⟩ := Bd2.out.four
  go_wp2
  go_ret
  exact ⟨rfl, HB2.out⟩

set_option maxHeartbeats 1000000 in
theorem has_c51 (n : Bool) (ti tf : ByteArray) (x cx : Int) (nx : Bool) (tx : ByteArray) (ex : Int) (w : World) (htab : Tab w) (hV : ∀ W, Tab W → Calls Tryz.prog 16 #[shV 0 n ti tf x true] W fun e w' => e = .returned (.tuple #[.agg #[.int .i64 cx, .bool nx, .string tx, .int .i64 ex], .int .i64 51]) ∧ Below W.heap.size W w') (h : 0 ≤ x) : Calls Tryz.prog 49 #[shV 0 n ti tf x true] w fun e w' => e = .returned (.bool true) ∧ Below w.heap.size w w' := by
  have HV := hide hV
  have HT := hide htab
  clear hV htab
  have h2 : decide (0 ≤ x) = true := decide_eq_true h
  have Bs0 := hide (Blk.newAt w (w.heap.size) (rfl) #[.int .i64 0, .bool n, .string ti, .string tf, .int .i64 x, .bool true] 34)
  have HB0 : Hid (Below w.heap.size w (w.alloc (.cells #[.int .i64 0, .bool n, .string ti, .string tf, .int .i64 x, .bool true] 34))) := ((Below.refl _ _).alloc (Nat.le_refl _) _)
  go_enter Tryz.func49, Tryz.ntmps49
  go_wp2_with fail
  refine (HV.out _ (HT.out.below HB0.out)).mono ?_
  rintro e w1 ⟨rfl, hb⟩
  have Bs1 := Blk.on Bs0 hb
  have HB1 := hide (HB0.out.trans (hb.mono HB0.out.size))
  clear hb Bs0 HB0 
  obtain ⟨ys0, ys1, ys2, ys3, ys4, ys5⟩ := Bs1.out.six
  have Bs2 := Blk.up Bs1 (.cells #[.int .i64 cx, .bool nx, .string tx, .int .i64 ex] 23)
  have Bd2 := hide ((Blk.newAt w1 (w1.heap.size) (rfl) #[.int .i64 cx, .bool nx, .string tx, .int .i64 ex] 23))
  have HB2 : Hid (Below w.heap.size w (w1.alloc (.cells #[.int .i64 cx, .bool nx, .string tx, .int .i64 ex] 23))) := (HB1.out.alloc HB1.out.size _)
  clear Bs1 HB1 ys0 ys1 ys2 ys3 ys4 ys5
  obtain ⟨ys0, ys1, ys2, ys3, ys4, ys5⟩ := Bs2.out.six
  obtain ⟨yd0, yd1, yd2, yd3⟩ := Bd2.out.four
  go_wp2
  go_ret
  exact ⟨rfl, HB2.out⟩

set_option maxHeartbeats 1000000 in
theorem has_n51 (n : Bool) (ti tf : ByteArray) (x cx : Int) (nx : Bool) (tx : ByteArray) (ex : Int) (w : World) (htab : Tab w) (hV : ∀ W, Tab W → Calls Tryz.prog 16 #[shV 0 n ti tf x true] W fun e w' => e = .returned (.tuple #[.agg #[.int .i64 cx, .bool nx, .string tx, .int .i64 ex], .int .i64 51]) ∧ Below W.heap.size W w') (h : ¬ 0 ≤ x) : Calls Tryz.prog 49 #[shV 0 n ti tf x true] w fun e w' => e = .returned (.bool false) ∧ Below w.heap.size w w' := by
  have HV := hide hV
  have HT := hide htab
  clear hV htab
  have h2 : decide (0 ≤ x) = false := decide_eq_false h
  have Bs0 := hide (Blk.newAt w (w.heap.size) (rfl) #[.int .i64 0, .bool n, .string ti, .string tf, .int .i64 x, .bool true] 34)
  have HB0 : Hid (Below w.heap.size w (w.alloc (.cells #[.int .i64 0, .bool n, .string ti, .string tf, .int .i64 x, .bool true] 34))) := ((Below.refl _ _).alloc (Nat.le_refl _) _)
  go_enter Tryz.func49, Tryz.ntmps49
  go_wp2_with fail
  refine (HV.out _ (HT.out.below HB0.out)).mono ?_
  rintro e w1 ⟨rfl, hb⟩
  have Bs1 := Blk.on Bs0 hb
  have HB1 := hide (HB0.out.trans (hb.mono HB0.out.size))
  clear hb Bs0 HB0 
  obtain ⟨ys0, ys1, ys2, ys3, ys4, ys5⟩ := Bs1.out.six
  have Bs2 := Blk.up Bs1 (.cells #[.int .i64 cx, .bool nx, .string tx, .int .i64 ex] 23)
  have Bd2 := hide ((Blk.newAt w1 (w1.heap.size) (rfl) #[.int .i64 cx, .bool nx, .string tx, .int .i64 ex] 23))
  have HB2 : Hid (Below w.heap.size w (w1.alloc (.cells #[.int .i64 cx, .bool nx, .string tx, .int .i64 ex] 23))) := (HB1.out.alloc HB1.out.size _)
  clear Bs1 HB1 ys0 ys1 ys2 ys3 ys4 ys5
  obtain ⟨ys0, ys1, ys2, ys3, ys4, ys5⟩ := Bs2.out.six
  obtain ⟨yd0, yd1, yd2, yd3⟩ := Bd2.out.four
  go_wp2
  go_ret
  exact ⟨rfl, HB2.out⟩

set_option maxHeartbeats 1000000 in
theorem has_k1 (n : Bool) (ti tf : ByteArray) (x : Int) (cm : Bool) (cx : Int) (nx : Bool) (tx : ByteArray) (ex : Int) (w : World) (htab : Tab w) (hV : ∀ W, Tab W → Calls Tryz.prog 16 #[shV 1 n ti tf x cm] W fun e w' => e = .returned (.tuple #[.agg #[.int .i64 cx, .bool nx, .string tx, .int .i64 ex], .int .i64 0]) ∧ Below W.heap.size W w')  : Calls Tryz.prog 49 #[shV 1 n ti tf x cm] w fun e w' => e = .returned (.bool false) ∧ Below w.heap.size w w' := by
  have HV := hide hV
  have HT := hide htab
  clear hV htab
  have Bs0 := hide (Blk.newAt w (w.heap.size) (rfl) #[.int .i64 1, .bool n, .string ti, .string tf, .int .i64 x, .bool cm] 34)
  have HB0 : Hid (Below w.heap.size w (w.alloc (.cells #[.int .i64 1, .bool n, .string ti, .string tf, .int .i64 x, .bool cm] 34))) := ((Below.refl _ _).alloc (Nat.le_refl _) _)
  go_enter Tryz.func49, Tryz.ntmps49
  go_wp2_with fail
  refine (HV.out _ (HT.out.below HB0.out)).mono ?_
  rintro e w1 ⟨rfl, hb⟩
  have Bs1 := Blk.on Bs0 hb
  have HB1 := hide (HB0.out.trans (hb.mono HB0.out.size))
  clear hb Bs0 HB0 
  obtain ⟨ys0, ys1, ys2, ys3, ys4, ys5⟩ := Bs1.out.six
  have Bs2 := Blk.up Bs1 (.cells #[.int .i64 cx, .bool nx, .string tx, .int .i64 ex] 23)
  have Bd2 := hide ((Blk.newAt w1 (w1.heap.size) (rfl) #[.int .i64 cx, .bool nx, .string tx, .int .i64 ex] 23))
  have HB2 : Hid (Below w.heap.size w (w1.alloc (.cells #[.int .i64 cx, .bool nx, .string tx, .int .i64 ex] 23))) := (HB1.out.alloc HB1.out.size _)
  clear Bs1 HB1 ys0 ys1 ys2 ys3 ys4 ys5
  obtain ⟨ys0, ys1, ys2, ys3, ys4, ys5⟩ := Bs2.out.six
  obtain ⟨yd0, yd1, yd2, yd3⟩ := Bd2.out.four
  go_wp2
  go_ret
  exact ⟨rfl, HB2.out⟩

set_option maxHeartbeats 1000000 in
theorem has_k2 (n : Bool) (ti tf : ByteArray) (x : Int) (cm : Bool) (cx : Int) (nx : Bool) (tx : ByteArray) (ex : Int) (w : World) (htab : Tab w) (hV : ∀ W, Tab W → Calls Tryz.prog 16 #[shV 2 n ti tf x cm] W fun e w' => e = .returned (.tuple #[.agg #[.int .i64 cx, .bool nx, .string tx, .int .i64 ex], .int .i64 0]) ∧ Below W.heap.size W w')  : Calls Tryz.prog 49 #[shV 2 n ti tf x cm] w fun e w' => e = .returned (.bool false) ∧ Below w.heap.size w w' := by
  have HV := hide hV
  have HT := hide htab
  clear hV htab
  have Bs0 := hide (Blk.newAt w (w.heap.size) (rfl) #[.int .i64 2, .bool n, .string ti, .string tf, .int .i64 x, .bool cm] 34)
  have HB0 : Hid (Below w.heap.size w (w.alloc (.cells #[.int .i64 2, .bool n, .string ti, .string tf, .int .i64 x, .bool cm] 34))) := ((Below.refl _ _).alloc (Nat.le_refl _) _)
  go_enter Tryz.func49, Tryz.ntmps49
  go_wp2_with fail
  refine (HV.out _ (HT.out.below HB0.out)).mono ?_
  rintro e w1 ⟨rfl, hb⟩
  have Bs1 := Blk.on Bs0 hb
  have HB1 := hide (HB0.out.trans (hb.mono HB0.out.size))
  clear hb Bs0 HB0 
  obtain ⟨ys0, ys1, ys2, ys3, ys4, ys5⟩ := Bs1.out.six
  have Bs2 := Blk.up Bs1 (.cells #[.int .i64 cx, .bool nx, .string tx, .int .i64 ex] 23)
  have Bd2 := hide ((Blk.newAt w1 (w1.heap.size) (rfl) #[.int .i64 cx, .bool nx, .string tx, .int .i64 ex] 23))
  have HB2 : Hid (Below w.heap.size w (w1.alloc (.cells #[.int .i64 cx, .bool nx, .string tx, .int .i64 ex] 23))) := (HB1.out.alloc HB1.out.size _)
  clear Bs1 HB1 ys0 ys1 ys2 ys3 ys4 ys5
  obtain ⟨ys0, ys1, ys2, ys3, ys4, ys5⟩ := Bs2.out.six
  obtain ⟨yd0, yd1, yd2, yd3⟩ := Bd2.out.four
  go_wp2
  go_ret
  exact ⟨rfl, HB2.out⟩

theorem val_err {s : ShownT} (h : MayS s) : (valueS s).2 = 0 ∨ (valueS s).2 = 51 := by
  unfold valueS
  rw [if_neg (fun g => g h)]
  split
  · exact .inl rfl
  · unfold tellF
    split
    · exact .inl rfl
    · exact .inr rfl

theorem has_T (c : Int) (n : Bool) (ti tf : ByteArray) (x : Int) (cm : Bool) (w : World) (htab : Tab w) (h : HasO ⟨c, n, bys ti, bys tf, x, cm⟩) : Calls Tryz.prog 49 #[shV c n ti tf x cm] w fun e w' => e = .returned (.bool true) ∧ Below w.heap.size w w' := by
  obtain ⟨hm, hc, he⟩ := h
  simp only at hc he
  subst hc
  have hV := fun W hW => Value_any 0 n ti tf x cm W hW
  have hr := val_err hm
  generalize valueS ⟨0, n, bys ti, bys tf, x, cm⟩ = V at hV hr
  obtain ⟨d, r⟩ := V
  replace hr : r = 0 ∨ r = 51 := hr
  cases cm
  · rcases hr with rfl | rfl
    · exact has_p0 n ti tf x _ _ _ _ w htab hV
    · exact has_p51 n ti tf x _ _ _ _ w htab hV
  · rcases hr with rfl | rfl
    · exact has_c0 n ti tf x _ _ _ _ w htab hV (he rfl)
    · exact has_c51 n ti tf x _ _ _ _ w htab hV (he rfl)

theorem has_F (c : Int) (n : Bool) (ti tf : ByteArray) (x : Int) (cm : Bool) (w : World) (htab : Tab w) (h : ¬ HasO ⟨c, n, bys ti, bys tf, x, cm⟩) : Calls Tryz.prog 49 #[shV c n ti tf x cm] w fun e w' => e = .returned (.bool false) ∧ Below w.heap.size w w' := by
  have hV := fun W hW => Value_any c n ti tf x cm W hW
  by_cases hm : MayS ⟨c, n, bys ti, bys tf, x, cm⟩
  · have hr := val_err hm
    have hcl : c = 0 ∨ c = 1 ∨ c = 2 := by
      rcases hm.2 with ⟨h1, _⟩ | ⟨h1, _⟩ | ⟨h1, _⟩
      · exact .inl h1
      · exact .inr (.inl h1)
      · exact .inr (.inr h1)
    rcases hcl with rfl | rfl | rfl
    · cases cm
      · exact absurd ⟨hm, rfl, fun g => by cases g⟩ h
      · have he : ¬ 0 ≤ x := fun g => h ⟨hm, rfl, fun _ => g⟩
        generalize valueS ⟨0, n, bys ti, bys tf, x, true⟩ = V at hV hr
        obtain ⟨d, r⟩ := V
        replace hr : r = 0 ∨ r = 51 := hr
        rcases hr with rfl | rfl
        · exact has_n0 n ti tf x _ _ _ _ w htab hV he
        · exact has_n51 n ti tf x _ _ _ _ w htab hV he
    · have e : (valueS ⟨1, n, bys ti, bys tf, x, cm⟩).2 = 0 := by unfold valueS; rw [if_neg (fun g => g hm), if_pos (show (1 : Int) ≠ 0 by decide)]
      generalize valueS ⟨1, n, bys ti, bys tf, x, cm⟩ = V at hV e
      obtain ⟨d, r⟩ := V
      obtain rfl : r = 0 := e
      exact has_k1 n ti tf x cm _ _ _ _ w htab hV
    · have e : (valueS ⟨2, n, bys ti, bys tf, x, cm⟩).2 = 0 := by unfold valueS; rw [if_neg (fun g => g hm), if_pos (show (2 : Int) ≠ 0 by decide)]
      generalize valueS ⟨2, n, bys ti, bys tf, x, cm⟩ = V at hV e
      obtain ⟨d, r⟩ := V
      obtain rfl : r = 0 := e
      exact has_k2 n ti tf x cm _ _ _ _ w htab hV
  · have e : (valueS ⟨c, n, bys ti, bys tf, x, cm⟩).2 = 71 := by unfold valueS; rw [if_pos hm]
    generalize valueS ⟨c, n, bys ti, bys tf, x, cm⟩ = V at hV e
    obtain ⟨d, r⟩ := V
    obtain rfl : r = 71 := e
    exact has_no c n ti tf x cm _ _ _ _ w htab hV

set_option maxHeartbeats 1000000 in
theorem of_no (c : Int) (n : Bool) (ti tf : ByteArray) (x : Int) (cm : Bool) (w : World) (htab : Tab w) (h : ¬ HasO ⟨c, n, bys ti, bys tf, x, cm⟩) : Calls Tryz.prog 18 #[shV c n ti tf x cm] w fun e w' => e = .returned (.tuple #[.agg #[.string ⟨#[]⟩, .int .i64 0, .int .i64 0, .string ⟨#[]⟩, .string ⟨#[]⟩, .int .i64 0], .int .i64 80]) ∧ Below w.heap.size w w' := by
  have HH := hide (fun W hW => has_F c n ti tf x cm W hW h)
  have HT := hide htab
  clear h htab
  have Bs0 := hide ((Blk.newAt w (w.heap.size) (rfl) #[.int .i64 c, .bool n, .string ti, .string tf, .int .i64 x, .bool cm] 34).alloc (.cells #[.string ⟨#[]⟩, .int .i64 0, .int .i64 0, .string ⟨#[]⟩, .string ⟨#[]⟩, .int .i64 0] 41))
  have Br0 := hide (Blk.newAt (w.alloc (.cells #[.int .i64 c, .bool n, .string ti, .string tf, .int .i64 x, .bool cm] 34)) (w.heap.size + 1) (by simp) #[.string ⟨#[]⟩, .int .i64 0, .int .i64 0, .string ⟨#[]⟩, .string ⟨#[]⟩, .int .i64 0] 41)
  have HB0 : Hid (Below w.heap.size w ((w.alloc (.cells #[.int .i64 c, .bool n, .string ti, .string tf, .int .i64 x, .bool cm] 34)).alloc (.cells #[.string ⟨#[]⟩, .int .i64 0, .int .i64 0, .string ⟨#[]⟩, .string ⟨#[]⟩, .int .i64 0] 41))) := (((Below.refl _ _).alloc (Nat.le_refl _) _).alloc (by simp <;> omega) _)
  go_enter Tryz.func18, Tryz.ntmps18
  go_wp2_with fail
  refine (HH.out _ (HT.out.below HB0.out)).mono ?_
  rintro e w1 ⟨rfl, hb⟩
  have Bs1 := Blk.on Bs0 hb
  have Br1 := Blk.on Br0 hb
  have HB1 := hide (HB0.out.trans (hb.mono HB0.out.size))
  clear hb Bs0 Br0 HB0 
  obtain ⟨ys0, ys1, ys2, ys3, ys4, ys5⟩ := Bs1.out.six
  obtain ⟨yr0, yr1, yr2, yr3, yr4, yr5⟩ := Br1.out.six
  have fr0 := Br1.out.free 0
  have fr1 := Br1.out.free 1
  have fr2 := Br1.out.free 2
  have fr3 := Br1.out.free 3
  have fr4 := Br1.out.free 4
  have fr5 := Br1.out.free 5
  go_wp2
  refine bodyPost_ret (results_opr2 rfl _ _ _ _ _ _ _ _ _ rfl (Br1.out.put6 _ _ _ _ _ _)) rfl ?_
  exact ⟨rfl, below_put6 (HB1.out) (by omega) _ _ _ _ _ _⟩

set_option maxHeartbeats 4000000 in
theorem of_false (n : Bool) (ti tf : ByteArray) (x : Int) (A B I F T : ByteArray) (q : Nat) (w : World) (htab : Tab w) (hH : ∀ W, Tab W → Calls Tryz.prog 49 #[shV 0 n ti tf x false] W fun e w' => e = .returned (.bool true) ∧ Below W.heap.size W w') (hM : ∀ W, Calls Tryz.prog 50 #[.string ti, .string tf, .int .i64 0] W fun e w' => e = .returned (.tuple #[.string A, .string B]) ∧ Below W.heap.size W w') (hK : ∀ W, Calls Tryz.prog 51 #[.string B] W fun e w' => e = .returned (.tuple #[.int .i64 (B.size : Int), .int .i64 (q : Int)]) ∧ Below W.heap.size W w') (hq : q ≤ B.size) (hI : ∀ W, Calls Tryz.prog 52 #[.string A] W fun e w' => e = .returned (.string I) ∧ Below W.heap.size W w') (hF : ∀ W, Calls Tryz.prog 52 #[.string B] W fun e w' => e = .returned (.string F) ∧ Below W.heap.size W w') (hN : ∀ W, Calls Tryz.prog 52 #[.string (B.extract 0 q)] W fun e w' => e = .returned (.string T) ∧ Below W.heap.size W w') : Calls Tryz.prog 18 #[shV 0 n ti tf x false] w fun e w' => e = .returned (.tuple #[.agg #[.string I, .int .i64 (B.size : Int), .int .i64 (q : Int), .string F, .string T, .int .i64 0], .int .i64 0]) ∧ Below w.heap.size w w' := by
  have HH := hide hH
  have HM := hide hM
  have HK := hide hK
  have HI := hide hI
  have HF := hide hF
  have HN := hide hN
  have HT := hide htab
  have hq1 : (q : Int) ≤ (B.size : Int) := by omega
  clear hH hM hK hI hF hN htab hq
  have Bs0 := hide ((Blk.newAt w (w.heap.size) (rfl) #[.int .i64 0, .bool n, .string ti, .string tf, .int .i64 x, .bool false] 34).alloc (.cells #[.string ⟨#[]⟩, .int .i64 0, .int .i64 0, .string ⟨#[]⟩, .string ⟨#[]⟩, .int .i64 0] 41))
  have Br0 := hide (Blk.newAt (w.alloc (.cells #[.int .i64 0, .bool n, .string ti, .string tf, .int .i64 x, .bool false] 34)) (w.heap.size + 1) (by simp) #[.string ⟨#[]⟩, .int .i64 0, .int .i64 0, .string ⟨#[]⟩, .string ⟨#[]⟩, .int .i64 0] 41)
  have HB0 : Hid (Below w.heap.size w ((w.alloc (.cells #[.int .i64 0, .bool n, .string ti, .string tf, .int .i64 x, .bool false] 34)).alloc (.cells #[.string ⟨#[]⟩, .int .i64 0, .int .i64 0, .string ⟨#[]⟩, .string ⟨#[]⟩, .int .i64 0] 41))) := (((Below.refl _ _).alloc (Nat.le_refl _) _).alloc (by simp <;> omega) _)
  go_enter Tryz.func18, Tryz.ntmps18
  go_wp2_with fail
  refine (HH.out _ (HT.out.below HB0.out)).mono ?_
  rintro e w1 ⟨rfl, hb⟩
  have Bs1 := Blk.on Bs0 hb
  have Br1 := Blk.on Br0 hb
  have HB1 := hide (HB0.out.trans (hb.mono HB0.out.size))
  clear hb Bs0 Br0 HB0 
  obtain ⟨ys0, ys1, ys2, ys3, ys4, ys5⟩ := Bs1.out.six
  obtain ⟨yr0, yr1, yr2, yr3, yr4, yr5⟩ := Br1.out.six
  go_wp2_with fail
  refine (HM.out _).mono ?_
  rintro e w2 ⟨rfl, hb⟩
  have Bs2 := Blk.on Bs1 hb
  have Br2 := Blk.on Br1 hb
  have HB2 := hide (HB1.out.trans (hb.mono HB1.out.size))
  clear hb Bs1 Br1 HB1 ys0 ys1 ys2 ys3 ys4 ys5 yr0 yr1 yr2 yr3 yr4 yr5
  obtain ⟨ys0, ys1, ys2, ys3, ys4, ys5⟩ := Bs2.out.six
  obtain ⟨yr0, yr1, yr2, yr3, yr4, yr5⟩ := Br2.out.six
  go_wp2_with fail
  refine (HK.out _).mono ?_
  rintro e w3 ⟨rfl, hb⟩
  have Bs3 := Blk.on Bs2 hb
  have Br3 := Blk.on Br2 hb
  have HB3 := hide (HB2.out.trans (hb.mono HB2.out.size))
  clear hb Bs2 Br2 HB2 ys0 ys1 ys2 ys3 ys4 ys5 yr0 yr1 yr2 yr3 yr4 yr5
  obtain ⟨ys0, ys1, ys2, ys3, ys4, ys5⟩ := Bs3.out.six
  obtain ⟨yr0, yr1, yr2, yr3, yr4, yr5⟩ := Br3.out.six
  clear HH HM HK HT
  have HL : Hid (w.heap.size < w3.heap.size ∧ w.heap.size + 1 < w3.heap.size) := ⟨Bs3.out.lt, Br3.out.lt⟩
  obtain ⟨G, hG⟩ : ∃ G, G = w.heap.size + 1 := ⟨_, rfl⟩
  have gn0 : ¬ G = w.heap.size := by omega
  have gn1 : ¬ w.heap.size = G := by omega
  have gle : w.heap.size ≤ G := by omega
  have HG := hide hG
  rw [← hG] at Br3
  clear hG HL ys0 ys1 ys2 ys3 ys4 ys5 yr0 yr1 yr2 yr3 yr4 yr5
  have d0 : w3.cell? ⟨w.heap.size, 0, none⟩ = some (.int .i64 0) := Bs3.out.cell 0
  have HC : Hid (∀ w', Below w3.heap.size w3 w' → w'.cell? ⟨w.heap.size, 0, none⟩ = some (.int .i64 0) ∧ w'.cell? ⟨G, 0, none⟩ = some (.string ⟨#[]⟩) ∧ w'.cell? ⟨G, 1, none⟩ = some (.int .i64 0) ∧ w'.cell? ⟨G, 2, none⟩ = some (.int .i64 0) ∧ w'.cell? ⟨G, 3, none⟩ = some (.string ⟨#[]⟩) ∧ w'.cell? ⟨G, 4, none⟩ = some (.string ⟨#[]⟩) ∧ w'.cell? ⟨G, 5, none⟩ = some (.int .i64 0) ∧ w'.frozen? ⟨G, 0, none⟩ = false ∧ w'.frozen? ⟨G, 1, none⟩ = false ∧ w'.frozen? ⟨G, 2, none⟩ = false ∧ w'.frozen? ⟨G, 3, none⟩ = false ∧ w'.frozen? ⟨G, 4, none⟩ = false ∧ w'.frozen? ⟨G, 5, none⟩ = false) := by
    intro w' hb
    have Bs3q := Bs3.out.below hb Bs3.out.lt
    have Br3q := Br3.out.below hb Br3.out.lt
    exact ⟨Bs3q.cell 0, Br3q.cell 0, Br3q.cell 1, Br3q.cell 2, Br3q.cell 3, Br3q.cell 4, Br3q.cell 5, Br3q.free 0, Br3q.free 1, Br3q.free 2, Br3q.free 3, Br3q.free 4, Br3q.free 5⟩
  have b0 : Hid (Below w3.heap.size w3 w3.drew) := bdrewD w3
  have C0 : Hid (∀ X, Hid (Below w3.heap.size w3 X) → Calls Tryz.prog 52 #[.string A] X fun e w' => e = .returned (.string I) ∧ Hid (Below w3.heap.size w3 w') ∧ w'.cell? ⟨w.heap.size, 0, none⟩ = some (.int .i64 0) ∧ w'.cell? ⟨G, 0, none⟩ = some (.string ⟨#[]⟩) ∧ w'.cell? ⟨G, 1, none⟩ = some (.int .i64 0) ∧ w'.cell? ⟨G, 2, none⟩ = some (.int .i64 0) ∧ w'.cell? ⟨G, 3, none⟩ = some (.string ⟨#[]⟩) ∧ w'.cell? ⟨G, 4, none⟩ = some (.string ⟨#[]⟩) ∧ w'.cell? ⟨G, 5, none⟩ = some (.int .i64 0) ∧ w'.frozen? ⟨G, 0, none⟩ = false ∧ w'.frozen? ⟨G, 1, none⟩ = false ∧ w'.frozen? ⟨G, 2, none⟩ = false ∧ w'.frozen? ⟨G, 3, none⟩ = false ∧ w'.frozen? ⟨G, 4, none⟩ = false ∧ w'.frozen? ⟨G, 5, none⟩ = false) := by
    intro X bX
    refine (HI.out X).mono ?_
    rintro e w' ⟨rfl, hb⟩
    have bb := bX.out.trans (hb.mono bX.out.size)
    exact ⟨rfl, bb, HC.out _ bb⟩
  have C1 : Hid (∀ X, Hid (Below w3.heap.size w3 X) → Calls Tryz.prog 52 #[.string B] X fun e w' => e = .returned (.string F) ∧ Hid (Below w3.heap.size w3 w') ∧ w'.cell? ⟨w.heap.size, 0, none⟩ = some (.int .i64 0) ∧ w'.cell? ⟨G, 0, none⟩ = some (.string ⟨#[]⟩) ∧ w'.cell? ⟨G, 1, none⟩ = some (.int .i64 0) ∧ w'.cell? ⟨G, 2, none⟩ = some (.int .i64 0) ∧ w'.cell? ⟨G, 3, none⟩ = some (.string ⟨#[]⟩) ∧ w'.cell? ⟨G, 4, none⟩ = some (.string ⟨#[]⟩) ∧ w'.cell? ⟨G, 5, none⟩ = some (.int .i64 0) ∧ w'.frozen? ⟨G, 0, none⟩ = false ∧ w'.frozen? ⟨G, 1, none⟩ = false ∧ w'.frozen? ⟨G, 2, none⟩ = false ∧ w'.frozen? ⟨G, 3, none⟩ = false ∧ w'.frozen? ⟨G, 4, none⟩ = false ∧ w'.frozen? ⟨G, 5, none⟩ = false) := by
    intro X bX
    refine (HF.out X).mono ?_
    rintro e w' ⟨rfl, hb⟩
    have bb := bX.out.trans (hb.mono bX.out.size)
    exact ⟨rfl, bb, HC.out _ bb⟩
  have C2 : Hid (∀ X, Hid (Below w3.heap.size w3 X) → Calls Tryz.prog 52 #[.string (B.extract 0 q)] X fun e w' => e = .returned (.string T) ∧ Hid (Below w3.heap.size w3 w') ∧ w'.cell? ⟨w.heap.size, 0, none⟩ = some (.int .i64 0) ∧ w'.cell? ⟨G, 0, none⟩ = some (.string ⟨#[]⟩) ∧ w'.cell? ⟨G, 1, none⟩ = some (.int .i64 0) ∧ w'.cell? ⟨G, 2, none⟩ = some (.int .i64 0) ∧ w'.cell? ⟨G, 3, none⟩ = some (.string ⟨#[]⟩) ∧ w'.cell? ⟨G, 4, none⟩ = some (.string ⟨#[]⟩) ∧ w'.cell? ⟨G, 5, none⟩ = some (.int .i64 0) ∧ w'.frozen? ⟨G, 0, none⟩ = false ∧ w'.frozen? ⟨G, 1, none⟩ = false ∧ w'.frozen? ⟨G, 2, none⟩ = false ∧ w'.frozen? ⟨G, 3, none⟩ = false ∧ w'.frozen? ⟨G, 4, none⟩ = false ∧ w'.frozen? ⟨G, 5, none⟩ = false) := by
    intro X bX
    refine (HN.out X).mono ?_
    rintro e w' ⟨rfl, hb⟩
    have bb := bX.out.trans (hb.mono bX.out.size)
    exact ⟨rfl, bb, HC.out _ bb⟩
  have BRF : Hid (∀ w', Below w3.heap.size w3 w' → Below w.heap.size w w' ∧ Blk w' G #[.string ⟨#[]⟩, .int .i64 0, .int .i64 0, .string ⟨#[]⟩, .string ⟨#[]⟩, .int .i64 0] 41) := fun w' hb => ⟨HB3.out.trans (hb.mono HB3.out.size), Br3.out.below hb Br3.out.lt⟩
  clear HC Bs3 Br3 HB3 HI HF HN
  go_wp2_with fail
  simp only [← HG.out]
  have mk0 : True := trivial
  go_region_held3 (fun w' => w'.cell? ⟨w.heap.size, 0, none⟩ = some (.int .i64 0)) (go_keep) (first
    | (clear mk0; go_at_call 52; refine (C0.out _ b0).mono ?_; rintro e v1 ⟨rfl, b1, q0_0, q0_1, q0_2, q0_3, q0_4, q0_5, q0_6, q0_7, q0_8, q0_9, q0_10, q0_11, q0_12⟩; have mk1 : True := trivial)
    | (clear mk1; go_at_call 52; refine (C1.out _ b1).mono ?_; rintro e v2 ⟨rfl, b2, q1_0, q1_1, q1_2, q1_3, q1_4, q1_5, q1_6, q1_7, q1_8, q1_9, q1_10, q1_11, q1_12⟩; have mk2 : True := trivial)
    | (clear mk2; go_at_call 52; refine (C2.out _ b2).mono ?_; rintro e v3 ⟨rfl, b3, q2_0, q2_1, q2_2, q2_3, q2_4, q2_5, q2_6, q2_7, q2_8, q2_9, q2_10, q2_11, q2_12⟩; have mk3 : True := trivial))
  obtain ⟨hbel, hblk⟩ := BRF.out _ b3.out
  have HBL := hide hbel
  have QR := hide hblk
  clear hbel hblk BRF b0 b1 b2 b3 C0 C1 C2
  repeat (first | go_values | go_skip | go_guarded | go_step | go_upon)
  refine bodyPost_ret (results_opr2 rfl _ _ _ _ _ _ _ _ _ rfl (QR.out.put6 _ _ _ _ _ _)) rfl ?_
  exact ⟨rfl, below_put6 HBL.out gle _ _ _ _ _ _⟩

set_option maxHeartbeats 4000000 in
theorem of_true (n : Bool) (ti tf : ByteArray) (x : Int) (A B I F T : ByteArray) (q : Nat) (w : World) (htab : Tab w) (hH : ∀ W, Tab W → Calls Tryz.prog 49 #[shV 0 n ti tf x true] W fun e w' => e = .returned (.bool true) ∧ Below W.heap.size W w') (hM : ∀ W, Calls Tryz.prog 50 #[.string ti, .string tf, .int .i64 x] W fun e w' => e = .returned (.tuple #[.string A, .string B]) ∧ Below W.heap.size W w') (hK : ∀ W, Calls Tryz.prog 51 #[.string B] W fun e w' => e = .returned (.tuple #[.int .i64 (B.size : Int), .int .i64 (q : Int)]) ∧ Below W.heap.size W w') (hq : q ≤ B.size) (hI : ∀ W, Calls Tryz.prog 52 #[.string A] W fun e w' => e = .returned (.string I) ∧ Below W.heap.size W w') (hF : ∀ W, Calls Tryz.prog 52 #[.string B] W fun e w' => e = .returned (.string F) ∧ Below W.heap.size W w') (hN : ∀ W, Calls Tryz.prog 52 #[.string (B.extract 0 q)] W fun e w' => e = .returned (.string T) ∧ Below W.heap.size W w') : Calls Tryz.prog 18 #[shV 0 n ti tf x true] w fun e w' => e = .returned (.tuple #[.agg #[.string I, .int .i64 (B.size : Int), .int .i64 (q : Int), .string F, .string T, .int .i64 x], .int .i64 0]) ∧ Below w.heap.size w w' := by
  have HH := hide hH
  have HM := hide hM
  have HK := hide hK
  have HI := hide hI
  have HF := hide hF
  have HN := hide hN
  have HT := hide htab
  have hq1 : (q : Int) ≤ (B.size : Int) := by omega
  clear hH hM hK hI hF hN htab hq
  have Bs0 := hide ((Blk.newAt w (w.heap.size) (rfl) #[.int .i64 0, .bool n, .string ti, .string tf, .int .i64 x, .bool true] 34).alloc (.cells #[.string ⟨#[]⟩, .int .i64 0, .int .i64 0, .string ⟨#[]⟩, .string ⟨#[]⟩, .int .i64 0] 41))
  have Br0 := hide (Blk.newAt (w.alloc (.cells #[.int .i64 0, .bool n, .string ti, .string tf, .int .i64 x, .bool true] 34)) (w.heap.size + 1) (by simp) #[.string ⟨#[]⟩, .int .i64 0, .int .i64 0, .string ⟨#[]⟩, .string ⟨#[]⟩, .int .i64 0] 41)
  have HB0 : Hid (Below w.heap.size w ((w.alloc (.cells #[.int .i64 0, .bool n, .string ti, .string tf, .int .i64 x, .bool true] 34)).alloc (.cells #[.string ⟨#[]⟩, .int .i64 0, .int .i64 0, .string ⟨#[]⟩, .string ⟨#[]⟩, .int .i64 0] 41))) := (((Below.refl _ _).alloc (Nat.le_refl _) _).alloc (by simp <;> omega) _)
  go_enter Tryz.func18, Tryz.ntmps18
  go_wp2_with fail
  refine (HH.out _ (HT.out.below HB0.out)).mono ?_
  rintro e w1 ⟨rfl, hb⟩
  have Bs1 := Blk.on Bs0 hb
  have Br1 := Blk.on Br0 hb
  have HB1 := hide (HB0.out.trans (hb.mono HB0.out.size))
  clear hb Bs0 Br0 HB0 
  obtain ⟨ys0, ys1, ys2, ys3, ys4, ys5⟩ := Bs1.out.six
  obtain ⟨yr0, yr1, yr2, yr3, yr4, yr5⟩ := Br1.out.six
  go_wp2_with fail
  refine (HM.out _).mono ?_
  rintro e w2 ⟨rfl, hb⟩
  have Bs2 := Blk.on Bs1 hb
  have Br2 := Blk.on Br1 hb
  have HB2 := hide (HB1.out.trans (hb.mono HB1.out.size))
  clear hb Bs1 Br1 HB1 ys0 ys1 ys2 ys3 ys4 ys5 yr0 yr1 yr2 yr3 yr4 yr5
  obtain ⟨ys0, ys1, ys2, ys3, ys4, ys5⟩ := Bs2.out.six
  obtain ⟨yr0, yr1, yr2, yr3, yr4, yr5⟩ := Br2.out.six
  go_wp2_with fail
  refine (HK.out _).mono ?_
  rintro e w3 ⟨rfl, hb⟩
  have Bs3 := Blk.on Bs2 hb
  have Br3 := Blk.on Br2 hb
  have HB3 := hide (HB2.out.trans (hb.mono HB2.out.size))
  clear hb Bs2 Br2 HB2 ys0 ys1 ys2 ys3 ys4 ys5 yr0 yr1 yr2 yr3 yr4 yr5
  obtain ⟨ys0, ys1, ys2, ys3, ys4, ys5⟩ := Bs3.out.six
  obtain ⟨yr0, yr1, yr2, yr3, yr4, yr5⟩ := Br3.out.six
  clear HH HM HK HT
  have HL : Hid (w.heap.size < w3.heap.size ∧ w.heap.size + 1 < w3.heap.size) := ⟨Bs3.out.lt, Br3.out.lt⟩
  obtain ⟨G, hG⟩ : ∃ G, G = w.heap.size + 1 := ⟨_, rfl⟩
  have gn0 : ¬ G = w.heap.size := by omega
  have gn1 : ¬ w.heap.size = G := by omega
  have gle : w.heap.size ≤ G := by omega
  have HG := hide hG
  rw [← hG] at Br3
  clear hG HL ys0 ys1 ys2 ys3 ys4 ys5 yr0 yr1 yr2 yr3 yr4 yr5
  have d0 : w3.cell? ⟨w.heap.size, 0, none⟩ = some (.int .i64 0) := Bs3.out.cell 0
  have HC : Hid (∀ w', Below w3.heap.size w3 w' → w'.cell? ⟨w.heap.size, 0, none⟩ = some (.int .i64 0) ∧ w'.cell? ⟨G, 0, none⟩ = some (.string ⟨#[]⟩) ∧ w'.cell? ⟨G, 1, none⟩ = some (.int .i64 0) ∧ w'.cell? ⟨G, 2, none⟩ = some (.int .i64 0) ∧ w'.cell? ⟨G, 3, none⟩ = some (.string ⟨#[]⟩) ∧ w'.cell? ⟨G, 4, none⟩ = some (.string ⟨#[]⟩) ∧ w'.cell? ⟨G, 5, none⟩ = some (.int .i64 0) ∧ w'.frozen? ⟨G, 0, none⟩ = false ∧ w'.frozen? ⟨G, 1, none⟩ = false ∧ w'.frozen? ⟨G, 2, none⟩ = false ∧ w'.frozen? ⟨G, 3, none⟩ = false ∧ w'.frozen? ⟨G, 4, none⟩ = false ∧ w'.frozen? ⟨G, 5, none⟩ = false) := by
    intro w' hb
    have Bs3q := Bs3.out.below hb Bs3.out.lt
    have Br3q := Br3.out.below hb Br3.out.lt
    exact ⟨Bs3q.cell 0, Br3q.cell 0, Br3q.cell 1, Br3q.cell 2, Br3q.cell 3, Br3q.cell 4, Br3q.cell 5, Br3q.free 0, Br3q.free 1, Br3q.free 2, Br3q.free 3, Br3q.free 4, Br3q.free 5⟩
  have b0 : Hid (Below w3.heap.size w3 w3.drew) := bdrewD w3
  have C0 : Hid (∀ X, Hid (Below w3.heap.size w3 X) → Calls Tryz.prog 52 #[.string A] X fun e w' => e = .returned (.string I) ∧ Hid (Below w3.heap.size w3 w') ∧ w'.cell? ⟨w.heap.size, 0, none⟩ = some (.int .i64 0) ∧ w'.cell? ⟨G, 0, none⟩ = some (.string ⟨#[]⟩) ∧ w'.cell? ⟨G, 1, none⟩ = some (.int .i64 0) ∧ w'.cell? ⟨G, 2, none⟩ = some (.int .i64 0) ∧ w'.cell? ⟨G, 3, none⟩ = some (.string ⟨#[]⟩) ∧ w'.cell? ⟨G, 4, none⟩ = some (.string ⟨#[]⟩) ∧ w'.cell? ⟨G, 5, none⟩ = some (.int .i64 0) ∧ w'.frozen? ⟨G, 0, none⟩ = false ∧ w'.frozen? ⟨G, 1, none⟩ = false ∧ w'.frozen? ⟨G, 2, none⟩ = false ∧ w'.frozen? ⟨G, 3, none⟩ = false ∧ w'.frozen? ⟨G, 4, none⟩ = false ∧ w'.frozen? ⟨G, 5, none⟩ = false) := by
    intro X bX
    refine (HI.out X).mono ?_
    rintro e w' ⟨rfl, hb⟩
    have bb := bX.out.trans (hb.mono bX.out.size)
    exact ⟨rfl, bb, HC.out _ bb⟩
  have C1 : Hid (∀ X, Hid (Below w3.heap.size w3 X) → Calls Tryz.prog 52 #[.string B] X fun e w' => e = .returned (.string F) ∧ Hid (Below w3.heap.size w3 w') ∧ w'.cell? ⟨w.heap.size, 0, none⟩ = some (.int .i64 0) ∧ w'.cell? ⟨G, 0, none⟩ = some (.string ⟨#[]⟩) ∧ w'.cell? ⟨G, 1, none⟩ = some (.int .i64 0) ∧ w'.cell? ⟨G, 2, none⟩ = some (.int .i64 0) ∧ w'.cell? ⟨G, 3, none⟩ = some (.string ⟨#[]⟩) ∧ w'.cell? ⟨G, 4, none⟩ = some (.string ⟨#[]⟩) ∧ w'.cell? ⟨G, 5, none⟩ = some (.int .i64 0) ∧ w'.frozen? ⟨G, 0, none⟩ = false ∧ w'.frozen? ⟨G, 1, none⟩ = false ∧ w'.frozen? ⟨G, 2, none⟩ = false ∧ w'.frozen? ⟨G, 3, none⟩ = false ∧ w'.frozen? ⟨G, 4, none⟩ = false ∧ w'.frozen? ⟨G, 5, none⟩ = false) := by
    intro X bX
    refine (HF.out X).mono ?_
    rintro e w' ⟨rfl, hb⟩
    have bb := bX.out.trans (hb.mono bX.out.size)
    exact ⟨rfl, bb, HC.out _ bb⟩
  have C2 : Hid (∀ X, Hid (Below w3.heap.size w3 X) → Calls Tryz.prog 52 #[.string (B.extract 0 q)] X fun e w' => e = .returned (.string T) ∧ Hid (Below w3.heap.size w3 w') ∧ w'.cell? ⟨w.heap.size, 0, none⟩ = some (.int .i64 0) ∧ w'.cell? ⟨G, 0, none⟩ = some (.string ⟨#[]⟩) ∧ w'.cell? ⟨G, 1, none⟩ = some (.int .i64 0) ∧ w'.cell? ⟨G, 2, none⟩ = some (.int .i64 0) ∧ w'.cell? ⟨G, 3, none⟩ = some (.string ⟨#[]⟩) ∧ w'.cell? ⟨G, 4, none⟩ = some (.string ⟨#[]⟩) ∧ w'.cell? ⟨G, 5, none⟩ = some (.int .i64 0) ∧ w'.frozen? ⟨G, 0, none⟩ = false ∧ w'.frozen? ⟨G, 1, none⟩ = false ∧ w'.frozen? ⟨G, 2, none⟩ = false ∧ w'.frozen? ⟨G, 3, none⟩ = false ∧ w'.frozen? ⟨G, 4, none⟩ = false ∧ w'.frozen? ⟨G, 5, none⟩ = false) := by
    intro X bX
    refine (HN.out X).mono ?_
    rintro e w' ⟨rfl, hb⟩
    have bb := bX.out.trans (hb.mono bX.out.size)
    exact ⟨rfl, bb, HC.out _ bb⟩
  have BRF : Hid (∀ w', Below w3.heap.size w3 w' → Below w.heap.size w w' ∧ Blk w' G #[.string ⟨#[]⟩, .int .i64 0, .int .i64 0, .string ⟨#[]⟩, .string ⟨#[]⟩, .int .i64 0] 41) := fun w' hb => ⟨HB3.out.trans (hb.mono HB3.out.size), Br3.out.below hb Br3.out.lt⟩
  clear HC Bs3 Br3 HB3 HI HF HN
  go_wp2_with fail
  simp only [← HG.out]
  have mk0 : True := trivial
  go_region_held3 (fun w' => w'.cell? ⟨w.heap.size, 0, none⟩ = some (.int .i64 0)) (go_keep) (first
    | (clear mk0; go_at_call 52; refine (C0.out _ b0).mono ?_; rintro e v1 ⟨rfl, b1, q0_0, q0_1, q0_2, q0_3, q0_4, q0_5, q0_6, q0_7, q0_8, q0_9, q0_10, q0_11, q0_12⟩; have mk1 : True := trivial)
    | (clear mk1; go_at_call 52; refine (C1.out _ b1).mono ?_; rintro e v2 ⟨rfl, b2, q1_0, q1_1, q1_2, q1_3, q1_4, q1_5, q1_6, q1_7, q1_8, q1_9, q1_10, q1_11, q1_12⟩; have mk2 : True := trivial)
    | (clear mk2; go_at_call 52; refine (C2.out _ b2).mono ?_; rintro e v3 ⟨rfl, b3, q2_0, q2_1, q2_2, q2_3, q2_4, q2_5, q2_6, q2_7, q2_8, q2_9, q2_10, q2_11, q2_12⟩; have mk3 : True := trivial))
  obtain ⟨hbel, hblk⟩ := BRF.out _ b3.out
  have HBL := hide hbel
  have QR := hide hblk
  clear hbel hblk BRF b0 b1 b2 b3 C0 C1 C2
  repeat (first | go_values | go_skip | go_guarded | go_step | go_upon)
  refine bodyPost_ret (results_opr2 rfl _ _ _ _ _ _ _ _ _ rfl (QR.out.put6 _ _ _ _ _ _)) rfl ?_
  exact ⟨rfl, below_put6 HBL.out gle _ _ _ _ _ _⟩

theorem Of_any (c : Int) (n : Bool) (ti tf : ByteArray) (x : Int) (cm : Bool) (w : World) (htab : Tab w) : Calls Tryz.prog 18 #[shV c n ti tf x cm] w fun e w' => e = .returned (opErr (ofS ⟨c, n, bys ti, bys tf, x, cm⟩)) ∧ Below w.heap.size w w' := by
  by_cases h : HasO ⟨c, n, bys ti, bys tf, x, cm⟩
  rotate_left
  · rw [ofS_no h]
    exact of_no c n ti tf x cm w htab h
  rw [ofS_yes h]
  have hH := fun W hW => has_T c n ti tf x cm W hW h
  obtain ⟨⟨⟨x1, x2⟩, h2⟩, hc, he⟩ := h
  simp only at hc he x1 x2
  subst hc
  rcases h2 with ⟨_, _, ⟨h3, h4⟩, ⟨h5, h6⟩⟩ | ⟨h1, _⟩ | ⟨h1, _⟩
  rotate_left
  · exact absurd (show (0 : Int) = 1 from h1) (by decide)
  · exact absurd (show (0 : Int) = 2 from h1) (by decide)
  simp only at h3 h4 h5 h6
  have key : ∀ k : Nat, k ≤ 2001 → ∀ W, Calls Tryz.prog 52 #[.string ⟨(moveA (bys ti) (bys tf) k).toArray⟩] W fun e w' => e = .returned (.string ⟨(numO (moveA (bys ti) (bys tf) k)).toArray⟩) ∧ Below W.heap.size W w' := fun k hk W => number_any _ W (by rw [moveA_len]; omega) (moveA_digB h4 h6 k)
  have kf : ∀ k : Nat, ∀ W, Calls Tryz.prog 52 #[.string ⟨((bys tf).drop k).toArray⟩] W fun e w' => e = .returned (.string ⟨(numO ((bys tf).drop k)).toArray⟩) ∧ Below W.heap.size W w' := fun k W => number_any _ W (by rw [List.length_drop]; omega) (h6.drop k)
  have kt : ∀ k : Nat, ∀ W, Calls Tryz.prog 52 #[.string ((⟨((bys tf).drop k).toArray⟩ : ByteArray).extract 0 (shortN ((bys tf).drop k)))] W fun e w' => e = .returned (.string ⟨(numO (((bys tf).drop k).take (shortN ((bys tf).drop k)))).toArray⟩) ∧ Below W.heap.size W w' := fun k W => by
    rw [extract_mk]
    exact number_any _ W (by rw [List.length_take, List.length_drop]; omega) ((h6.drop k).take _)
  have kc : ∀ k : Nat, ∀ W, Calls Tryz.prog 51 #[.string ⟨((bys tf).drop k).toArray⟩] W fun e w' => e = .returned (.tuple #[.int .i64 ((⟨((bys tf).drop k).toArray⟩ : ByteArray).size : Int), .int .i64 (shortN ((bys tf).drop k) : Int)]) ∧ Below W.heap.size W w' := fun k W => by
    have := count_any ⟨((bys tf).drop k).toArray⟩ W (by rw [size_mk0, List.length_drop]; omega) (by rw [bys_mk]; exact h6.drop k)
    rwa [bys_mk] at this
  have kq : ∀ k : Nat, shortN ((bys tf).drop k) ≤ (⟨((bys tf).drop k).toArray⟩ : ByteArray).size := fun k => by rw [size_mk0]; exact shortN_le _
  rw [bys_len] at h3 h5
  unfold opErr opVal operS
  cases cm
  · have e0 : expO ⟨0, n, bys ti, bys tf, x, false⟩ = 0 := rfl
    simp only [e0]
    have g := of_false n ti tf x _ _ _ _ _ _ w htab hH (fun W => moved_any ti tf 0 W (by omega) h3 h5) (kc 0) (kq 0) (key 0 (by omega)) (kf 0) (kt 0)
    rw [size_mk0] at g
    exact g
  · have hx := he rfl
    have e0 : expO ⟨0, n, bys ti, bys tf, x, true⟩ = x.toNat := rfl
    simp only [e0]
    have ex : ((x.toNat : Nat) : Int) = x := by omega
    have g := of_true n ti tf x _ _ _ _ _ _ w htab hH (fun W => by have := moved_any ti tf x.toNat W (by omega) h3 h5; rwa [ex] at this) (kc _) (kq _) (key x.toNat (by omega)) (kf _) (kt _)
    rw [size_mk0] at g
    rw [ex]
    exact g

end Go.Proofs.YtobloamnaemfnaaGreatDoor

namespace Go.Proofs.YtobloamnaemfnaaGreatDoor
open Go.RowKit

set_option maxHeartbeats 1000000 in
theorem rdig_t (s : ByteArray) (w : World) (hs : s.size ≤ 281474976710656) (hd : DigB (bys s)) (hl : s.size ≤ 4096) : Calls Tryz.prog 95 #[.string s] w fun e w' => e = .returned (.bool true) ∧ Below w.heap.size w w' := by
  have HD : Hid (∀ k, k < s.size → (48 ≤ byt (bys s) k ∧ byt (bys s) k ≤ 57) ∧ ∀ h : k < s.size, s[k].toNat = byt (bys s) k) := fun k hk => ⟨hd k (by first | exact hk | (rw [bys_len]; omega)), fun h => byt_get s k h⟩
  clear hd
  go_enter Tryz.func95, Tryz.ntmps95
  go_wp2
  go_loopw [3] (fun i wr => ∃ k : Nat, k ≤ s.size ∧ i = .int .i64 (k : Int) ∧ wr = w) (fun i _ => s.size - (intOf i).toNat)
  case atStart => exact ⟨0, Nat.zero_le _, rfl, rfl⟩
  case round =>
    obtain ⟨k, hk, rfl, rfl⟩ := hrel
    by_cases hlt : k < s.size
    · have hlt' : (k : Int) < (s.size : Int) := by omega
      have hks : k < s.size := by omega
      obtain ⟨hb, hg⟩ := HD.out k hlt
      obtain ⟨b, hbb⟩ : ∃ b, b = byt (bys s) k := ⟨_, rfl⟩
      rw [← hbb] at hg hb
      have h1' : ¬ (b : Int) < 48 := by omega
      have h2' : ¬ 57 < (b : Int) := by omega
      have h3' : decide ((b : Int) < 48) = false := decide_eq_false h1'
      have h4' : decide (57 < (b : Int)) = false := decide_eq_false h2'
      clear hbb HD
      go_wp2
      exact ⟨⟨k + 1, by omega, by go_num, trivial⟩, by simp [intOf]; omega⟩
    · have hlt' : ¬ (k : Int) < (s.size : Int) := by omega
      have hl2 : decide ((s.size : Int) ≤ 4096) = true := decide_eq_true (by omega)
      clear HD hlt hk
      go_wp2
      go_ret
      first | exact ⟨rfl, Below.refl _ _⟩ | exact ⟨congrArg (fun b => Ending.returned (Value.bool b)) hl2, Below.refl _ _⟩

set_option maxHeartbeats 1000000 in
theorem rdig_l (s : ByteArray) (w : World) (hs : s.size ≤ 281474976710656) (hd : DigB (bys s)) (hl : 4096 < s.size) : Calls Tryz.prog 95 #[.string s] w fun e w' => e = .returned (.bool false) ∧ Below w.heap.size w w' := by
  have HD : Hid (∀ k, k < s.size → (48 ≤ byt (bys s) k ∧ byt (bys s) k ≤ 57) ∧ ∀ h : k < s.size, s[k].toNat = byt (bys s) k) := fun k hk => ⟨hd k (by first | exact hk | (rw [bys_len]; omega)), fun h => byt_get s k h⟩
  clear hd
  go_enter Tryz.func95, Tryz.ntmps95
  go_wp2
  go_loopw [3] (fun i wr => ∃ k : Nat, k ≤ s.size ∧ i = .int .i64 (k : Int) ∧ wr = w) (fun i _ => s.size - (intOf i).toNat)
  case atStart => exact ⟨0, Nat.zero_le _, rfl, rfl⟩
  case round =>
    obtain ⟨k, hk, rfl, rfl⟩ := hrel
    by_cases hlt : k < s.size
    · have hlt' : (k : Int) < (s.size : Int) := by omega
      have hks : k < s.size := by omega
      obtain ⟨hb, hg⟩ := HD.out k hlt
      obtain ⟨b, hbb⟩ : ∃ b, b = byt (bys s) k := ⟨_, rfl⟩
      rw [← hbb] at hg hb
      have h1' : ¬ (b : Int) < 48 := by omega
      have h2' : ¬ 57 < (b : Int) := by omega
      have h3' : decide ((b : Int) < 48) = false := decide_eq_false h1'
      have h4' : decide (57 < (b : Int)) = false := decide_eq_false h2'
      clear hbb HD
      go_wp2
      exact ⟨⟨k + 1, by omega, by go_num, trivial⟩, by simp [intOf]; omega⟩
    · have hlt' : ¬ (k : Int) < (s.size : Int) := by omega
      have hl2 : decide ((s.size : Int) ≤ 4096) = false := decide_eq_false (by omega)
      clear HD hlt hk
      go_wp2
      go_ret
      first | exact ⟨rfl, Below.refl _ _⟩ | exact ⟨congrArg (fun b => Ending.returned (Value.bool b)) hl2, Below.refl _ _⟩

set_option maxHeartbeats 1000000 in
theorem rdig_x (s : ByteArray) (n : Nat) (w : World) (hs : s.size ≤ 281474976710656) (hn : n < s.size) (hd : ∀ k, k < n → 48 ≤ byt (bys s) k ∧ byt (bys s) k ≤ 57) (hx : ¬ (48 ≤ byt (bys s) n ∧ byt (bys s) n ≤ 57)) : Calls Tryz.prog 95 #[.string s] w fun e w' => e = .returned (.bool false) ∧ Below w.heap.size w w' := by
  have HD : Hid (∀ k, k < n → (48 ≤ byt (bys s) k ∧ byt (bys s) k ≤ 57) ∧ ∀ h : k < s.size, s[k].toNat = byt (bys s) k) := fun k hk => ⟨hd k (by first | exact hk | (rw [bys_len]; omega)), fun h => byt_get s k h⟩
  clear hd
  go_enter Tryz.func95, Tryz.ntmps95
  go_wp2
  go_loopw [3] (fun i wr => ∃ k : Nat, k ≤ n ∧ i = .int .i64 (k : Int) ∧ wr = w) (fun i _ => n - (intOf i).toNat)
  case atStart => exact ⟨0, Nat.zero_le _, rfl, rfl⟩
  case round =>
    obtain ⟨k, hk, rfl, rfl⟩ := hrel
    by_cases hlt : k < n
    · have hlt' : (k : Int) < (s.size : Int) := by omega
      have hks : k < s.size := by omega
      obtain ⟨hb, hg⟩ := HD.out k hlt
      obtain ⟨b, hbb⟩ : ∃ b, b = byt (bys s) k := ⟨_, rfl⟩
      rw [← hbb] at hg hb
      have h1' : ¬ (b : Int) < 48 := by omega
      have h2' : ¬ 57 < (b : Int) := by omega
      have h3' : decide ((b : Int) < 48) = false := decide_eq_false h1'
      have h4' : decide (57 < (b : Int)) = false := decide_eq_false h2'
      clear hbb HD
      go_wp2
      exact ⟨⟨k + 1, by omega, by go_num, trivial⟩, by simp [intOf]; omega⟩
    · obtain rfl : k = n := by omega
      have hlt' : (k : Int) < (s.size : Int) := by omega
      have hg : ∀ h : k < s.size, s[k].toNat = byt (bys s) k := fun h => byt_get s k h
      obtain ⟨b, hbb⟩ : ∃ b, b = byt (bys s) k := ⟨_, rfl⟩
      rw [← hbb] at hg hx
      clear hbb HD hlt hk
      by_cases h1 : (b : Int) < 48
      · have h3' : decide ((b : Int) < 48) = true := decide_eq_true h1
        go_wp2
        go_ret
        exact ⟨rfl, Below.refl _ _⟩
      · have h3' : decide ((b : Int) < 48) = false := decide_eq_false h1
        have h2 : 57 < (b : Int) := by omega
        have h4' : decide (57 < (b : Int)) = true := decide_eq_true h2
        go_wp2
        go_ret
        exact ⟨rfl, Below.refl _ _⟩

theorem rdig_T (s : ByteArray) (w : World) (hs : s.size ≤ 281474976710656) (h : (bys s).length ≤ 4096 ∧ DigB (bys s)) : Calls Tryz.prog 95 #[.string s] w fun e w' => e = .returned (.bool true) ∧ Below w.heap.size w w' :=
  rdig_t s w hs h.2 (by have := h.1; rwa [bys_len] at this)

theorem rdig_F (s : ByteArray) (w : World) (hs : s.size ≤ 281474976710656) (h : ¬ ((bys s).length ≤ 4096 ∧ DigB (bys s))) : Calls Tryz.prog 95 #[.string s] w fun e w' => e = .returned (.bool false) ∧ Below w.heap.size w w' := by
  by_cases hd : DigB (bys s)
  · exact rdig_l s w hs hd (by rw [bys_len] at h; exact Nat.lt_of_not_le fun g => h ⟨g, hd⟩)
  · have hlt : (dgs (bys s)).length < (bys s).length := by
      have h1 := dgs_len (bys s)
      rcases Nat.lt_or_ge (dgs (bys s)).length (bys s).length with g | g
      · exact g
      · exfalso
        apply hd
        have h2 := dgs_take (bys s)
        rw [show (dgs (bys s)).length = (bys s).length by omega, List.take_length] at h2
        rw [h2]
        exact dgs_digB _
    exact rdig_x s (dgs (bys s)).length w hs (by rw [bys_len] at hlt; exact hlt) (fun k hk => dgs_at (bys s) hk) (dgs_stop (bys s) hlt)

end Go.Proofs.YtobloamnaemfnaaGreatDoor
