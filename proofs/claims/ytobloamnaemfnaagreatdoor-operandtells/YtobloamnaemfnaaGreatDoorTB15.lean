/-
  What quipuref07's May does.
  What quipuref08's Of refuses; lists of bytes that it makes.
  Texts and lists of bytes: conversions, there and back.
  Two lists of bytes, and what is told of them.
  What quipuref08's Of does, as it should.
-/
import Derived.Test.YtobloamnaemfnaaGreatDoorTB14
import Derived.Test.YtobloamnaemfnaaGreatDoorTB12
import Derived.Test.YtobloamnaemfnaaGreatDoorTB11
import Derived.Deep.RegionHeld3
namespace Go.Proofs.YtobloamnaemfnaaGreatDoor
open Go.RowKit

set_option maxHeartbeats 1000000 in
theorem rmayS_xl (c : Int) (n : Bool) (ti tf : ByteArray) (x : Int) (cm : Bool) (w : World) (h : x < -2001) : Calls Tryz.prog 45 #[shV c n ti tf x cm] w fun e w' => e = .returned (.bool false) ∧ Below w.heap.size w w' := by
  have h2 : decide (x < -2001) = true := decide_eq_true h
  have Bs0 := hide (Blk.newAt w (w.heap.size) (rfl) #[.int .i64 c, .bool n, .string ti, .string tf, .int .i64 x, .bool cm] 34)
  have HB0 : Hid (Below w.heap.size w (w.alloc (.cells #[.int .i64 c, .bool n, .string ti, .string tf, .int .i64 x, .bool cm] 34))) := ((Below.refl _ _).alloc (Nat.le_refl _) _)
  go_enter Tryz.func45, Tryz.ntmps45
  go_wp2
  go_ret
  exact ⟨rfl, HB0.out⟩

set_option maxHeartbeats 1000000 in
theorem rmayS_xh (c : Int) (n : Bool) (ti tf : ByteArray) (x : Int) (cm : Bool) (w : World) (h : 2001 < x) : Calls Tryz.prog 45 #[shV c n ti tf x cm] w fun e w' => e = .returned (.bool false) ∧ Below w.heap.size w w' := by
  have h2 : decide (x < -2001) = false := decide_eq_false (by omega)
  have h3 : decide (2001 < x) = true := decide_eq_true h
  have Bs0 := hide (Blk.newAt w (w.heap.size) (rfl) #[.int .i64 c, .bool n, .string ti, .string tf, .int .i64 x, .bool cm] 34)
  have HB0 : Hid (Below w.heap.size w (w.alloc (.cells #[.int .i64 c, .bool n, .string ti, .string tf, .int .i64 x, .bool cm] 34))) := ((Below.refl _ _).alloc (Nat.le_refl _) _)
  go_enter Tryz.func45, Tryz.ntmps45
  go_wp2
  go_ret
  exact ⟨rfl, HB0.out⟩

set_option maxHeartbeats 1000000 in
theorem rmayS_0a (n : Bool) (ti tf : ByteArray) (x : Int) (cm : Bool) (w : World) (x1 : -2001 ≤ x) (x2 : x ≤ 2001) (b1 : ti.size ≤ 281474976710656) (g : ¬ ((bys ti).length ≤ 4096 ∧ DigB (bys ti))) : Calls Tryz.prog 45 #[shV 0 n ti tf x cm] w fun e w' => e = .returned (.bool false) ∧ Below w.heap.size w w' := by
  have C0 := hide (fun W => rdig_F ti W b1 g)
  have x3 : ¬ x < -2001 := by omega
  have x4 : ¬ 2001 < x := by omega
  have x5 : decide (x < -2001) = false := decide_eq_false x3
  have x6 : decide (2001 < x) = false := decide_eq_false x4
  clear x1 x2 x3 x4
  clear g b1
  have Bs0 := hide (Blk.newAt w (w.heap.size) (rfl) #[.int .i64 0, .bool n, .string ti, .string tf, .int .i64 x, .bool cm] 34)
  have HB0 : Hid (Below w.heap.size w (w.alloc (.cells #[.int .i64 0, .bool n, .string ti, .string tf, .int .i64 x, .bool cm] 34))) := ((Below.refl _ _).alloc (Nat.le_refl _) _)
  go_enter Tryz.func45, Tryz.ntmps45
  go_wp2_with fail
  refine (C0.out _).mono ?_
  rintro e w1 ⟨rfl, hb⟩
  have Bs1 := Blk.on Bs0 hb
  have HB1 := hide (HB0.out.trans (hb.mono HB0.out.size))
  clear hb Bs0 HB0 
  obtain ⟨ys0, ys1, ys2, ys3, ys4, ys5⟩ := Bs1.out.six
  go_wp2
  go_ret
  exact ⟨rfl, HB1.out⟩

set_option maxHeartbeats 1000000 in
theorem rmayS_0b (n : Bool) (ti tf : ByteArray) (x : Int) (cm : Bool) (w : World) (x1 : -2001 ≤ x) (x2 : x ≤ 2001) (b1 : ti.size ≤ 281474976710656) (b2 : tf.size ≤ 281474976710656) (g : (bys ti).length ≤ 4096 ∧ DigB (bys ti)) (g2 : ¬ ((bys tf).length ≤ 4096 ∧ DigB (bys tf))) : Calls Tryz.prog 45 #[shV 0 n ti tf x cm] w fun e w' => e = .returned (.bool false) ∧ Below w.heap.size w w' := by
  have C0 := hide (fun W => rdig_T ti W b1 g)
  have C1 := hide (fun W => rdig_F tf W b2 g2)
  have x3 : ¬ x < -2001 := by omega
  have x4 : ¬ 2001 < x := by omega
  have x5 : decide (x < -2001) = false := decide_eq_false x3
  have x6 : decide (2001 < x) = false := decide_eq_false x4
  clear x1 x2 x3 x4
  clear g g2 b1 b2
  have Bs0 := hide (Blk.newAt w (w.heap.size) (rfl) #[.int .i64 0, .bool n, .string ti, .string tf, .int .i64 x, .bool cm] 34)
  have HB0 : Hid (Below w.heap.size w (w.alloc (.cells #[.int .i64 0, .bool n, .string ti, .string tf, .int .i64 x, .bool cm] 34))) := ((Below.refl _ _).alloc (Nat.le_refl _) _)
  go_enter Tryz.func45, Tryz.ntmps45
  go_wp2_with fail
  refine (C0.out _).mono ?_
  rintro e w1 ⟨rfl, hb⟩
  have Bs1 := Blk.on Bs0 hb
  have HB1 := hide (HB0.out.trans (hb.mono HB0.out.size))
  clear hb Bs0 HB0 
  obtain ⟨ys0, ys1, ys2, ys3, ys4, ys5⟩ := Bs1.out.six
  go_wp2_with fail
  refine (C1.out _).mono ?_
  rintro e w2 ⟨rfl, hb⟩
  have Bs2 := Blk.on Bs1 hb
  have HB2 := hide (HB1.out.trans (hb.mono HB1.out.size))
  clear hb Bs1 HB1 ys0 ys1 ys2 ys3 ys4 ys5
  obtain ⟨ys0, ys1, ys2, ys3, ys4, ys5⟩ := Bs2.out.six
  go_wp2
  go_ret
  exact ⟨rfl, HB2.out⟩

set_option maxHeartbeats 1000000 in
theorem rmayS_0z (n : Bool) (x : Int) (cm : Bool) (w : World) (x1 : -2001 ≤ x) (x2 : x ≤ 2001) : Calls Tryz.prog 45 #[shV 0 n ⟨#[]⟩ ⟨#[]⟩ x cm] w fun e w' => e = .returned (.bool false) ∧ Below w.heap.size w w' := by
  have C0 := hide (fun W => rdig_T ⟨#[]⟩ W (by decide) ⟨by decide, fun k hk => absurd hk (by simp [bys])⟩)
  have C1 := hide (fun W => rdig_T ⟨#[]⟩ W (by decide) ⟨by decide, fun k hk => absurd hk (by simp [bys])⟩)
  have x3 : ¬ x < -2001 := by omega
  have x4 : ¬ 2001 < x := by omega
  have x5 : decide (x < -2001) = false := decide_eq_false x3
  have x6 : decide (2001 < x) = false := decide_eq_false x4
  clear x1 x2 x3 x4
  have Bs0 := hide (Blk.newAt w (w.heap.size) (rfl) #[.int .i64 0, .bool n, .string ⟨#[]⟩, .string ⟨#[]⟩, .int .i64 x, .bool cm] 34)
  have HB0 : Hid (Below w.heap.size w (w.alloc (.cells #[.int .i64 0, .bool n, .string ⟨#[]⟩, .string ⟨#[]⟩, .int .i64 x, .bool cm] 34))) := ((Below.refl _ _).alloc (Nat.le_refl _) _)
  go_enter Tryz.func45, Tryz.ntmps45
  go_wp2_with fail
  refine (C0.out _).mono ?_
  rintro e w1 ⟨rfl, hb⟩
  have Bs1 := Blk.on Bs0 hb
  have HB1 := hide (HB0.out.trans (hb.mono HB0.out.size))
  clear hb Bs0 HB0 
  obtain ⟨ys0, ys1, ys2, ys3, ys4, ys5⟩ := Bs1.out.six
  go_wp2_with fail
  refine (C1.out _).mono ?_
  rintro e w2 ⟨rfl, hb⟩
  have Bs2 := Blk.on Bs1 hb
  have HB2 := hide (HB1.out.trans (hb.mono HB1.out.size))
  clear hb Bs1 HB1 ys0 ys1 ys2 ys3 ys4 ys5
  obtain ⟨ys0, ys1, ys2, ys3, ys4, ys5⟩ := Bs2.out.six
  go_wp2
  go_ret
  exact ⟨congrArg (fun b => Ending.returned (Value.bool b)) (show (!((⟨#[]⟩ : ByteArray) ++ ⟨#[]⟩).toList.isEmpty) = false by rw [show ((⟨#[]⟩ : ByteArray) ++ ⟨#[]⟩) = ⟨#[]⟩ from by rw [← mk_bys ((⟨#[]⟩ : ByteArray) ++ ⟨#[]⟩), bys_append]; rfl]; first | rfl | decide +kernel), HB2.out⟩

set_option maxHeartbeats 1000000 in
theorem rmayS_0t (n : Bool) (ti tf : ByteArray) (x : Int) (cm : Bool) (w : World) (x1 : -2001 ≤ x) (x2 : x ≤ 2001) (g : (bys ti).length ≤ 4096 ∧ DigB (bys ti)) (g2 : (bys tf).length ≤ 4096 ∧ DigB (bys tf)) (h : ti.size + tf.size ≠ 0) : Calls Tryz.prog 45 #[shV 0 n ti tf x cm] w fun e w' => e = .returned (.bool true) ∧ Below w.heap.size w w' := by
  have C0 := hide (fun W => rdig_T ti W (by have := g.1; rw [bys_len] at this; omega) g)
  have C1 := hide (fun W => rdig_T tf W (by have := g2.1; rw [bys_len] at this; omega) g2)
  have z1 : ti.size ≤ 4096 := by have := g.1; rwa [bys_len] at this
  have z2 : tf.size ≤ 4096 := by have := g2.1; rwa [bys_len] at this
  have hs : ¬ 9223372036854775807 < ti.size + tf.size := by omega
  have hn := toList_ne (t := ti ++ tf) (by rw [ByteArray.size_append]; exact h)
  have x3 : ¬ x < -2001 := by omega
  have x4 : ¬ 2001 < x := by omega
  have x5 : decide (x < -2001) = false := decide_eq_false x3
  have x6 : decide (2001 < x) = false := decide_eq_false x4
  clear x1 x2 x3 x4
  clear g g2 h z1 z2
  have Bs0 := hide (Blk.newAt w (w.heap.size) (rfl) #[.int .i64 0, .bool n, .string ti, .string tf, .int .i64 x, .bool cm] 34)
  have HB0 : Hid (Below w.heap.size w (w.alloc (.cells #[.int .i64 0, .bool n, .string ti, .string tf, .int .i64 x, .bool cm] 34))) := ((Below.refl _ _).alloc (Nat.le_refl _) _)
  go_enter Tryz.func45, Tryz.ntmps45
  go_wp2_with fail
  refine (C0.out _).mono ?_
  rintro e w1 ⟨rfl, hb⟩
  have Bs1 := Blk.on Bs0 hb
  have HB1 := hide (HB0.out.trans (hb.mono HB0.out.size))
  clear hb Bs0 HB0 
  obtain ⟨ys0, ys1, ys2, ys3, ys4, ys5⟩ := Bs1.out.six
  go_wp2_with fail
  refine (C1.out _).mono ?_
  rintro e w2 ⟨rfl, hb⟩
  have Bs2 := Blk.on Bs1 hb
  have HB2 := hide (HB1.out.trans (hb.mono HB1.out.size))
  clear hb Bs1 HB1 ys0 ys1 ys2 ys3 ys4 ys5
  obtain ⟨ys0, ys1, ys2, ys3, ys4, ys5⟩ := Bs2.out.six
  go_wp2
  go_ret
  exact ⟨rfl, HB2.out⟩

set_option maxHeartbeats 1000000 in
theorem rmayS_ni (c : Int) (n : Bool) (ti tf : ByteArray) (x : Int) (cm : Bool) (w : World) (x1 : -2001 ≤ x) (x2 : x ≤ 2001) (h0 : ¬ c = 0) (h : ti.size ≠ 0) : Calls Tryz.prog 45 #[shV c n ti tf x cm] w fun e w' => e = .returned (.bool false) ∧ Below w.heap.size w w' := by
  have x3 : ¬ x < -2001 := by omega
  have x4 : ¬ 2001 < x := by omega
  have x5 : decide (x < -2001) = false := decide_eq_false x3
  have x6 : decide (2001 < x) = false := decide_eq_false x4
  clear x1 x2 x3 x4
  have hn := toList_ne h
  clear h
  have Bs0 := hide (Blk.newAt w (w.heap.size) (rfl) #[.int .i64 c, .bool n, .string ti, .string tf, .int .i64 x, .bool cm] 34)
  have HB0 : Hid (Below w.heap.size w (w.alloc (.cells #[.int .i64 c, .bool n, .string ti, .string tf, .int .i64 x, .bool cm] 34))) := ((Below.refl _ _).alloc (Nat.le_refl _) _)
  go_enter Tryz.func45, Tryz.ntmps45
  go_wp2
  go_ret
  exact ⟨rfl, HB0.out⟩

set_option maxHeartbeats 1000000 in
theorem rmayS_nf (c : Int) (n : Bool) (tf : ByteArray) (x : Int) (cm : Bool) (w : World) (x1 : -2001 ≤ x) (x2 : x ≤ 2001) (h0 : ¬ c = 0) (h : tf.size ≠ 0) : Calls Tryz.prog 45 #[shV c n ⟨#[]⟩ tf x cm] w fun e w' => e = .returned (.bool false) ∧ Below w.heap.size w w' := by
  have x3 : ¬ x < -2001 := by omega
  have x4 : ¬ 2001 < x := by omega
  have x5 : decide (x < -2001) = false := decide_eq_false x3
  have x6 : decide (2001 < x) = false := decide_eq_false x4
  clear x1 x2 x3 x4
  have hn := toList_ne h
  clear h
  have Bs0 := hide (Blk.newAt w (w.heap.size) (rfl) #[.int .i64 c, .bool n, .string ⟨#[]⟩, .string tf, .int .i64 x, .bool cm] 34)
  have HB0 : Hid (Below w.heap.size w (w.alloc (.cells #[.int .i64 c, .bool n, .string ⟨#[]⟩, .string tf, .int .i64 x, .bool cm] 34))) := ((Below.refl _ _).alloc (Nat.le_refl _) _)
  go_enter Tryz.func45, Tryz.ntmps45
  go_wp2
  go_ret
  exact ⟨rfl, HB0.out⟩

set_option maxHeartbeats 1000000 in
theorem rmayS_1t (n : Bool) (x : Int) (cm : Bool) (w : World) (x1 : -2001 ≤ x) (x2 : x ≤ 2001) : Calls Tryz.prog 45 #[shV 1 n ⟨#[]⟩ ⟨#[]⟩ x cm] w fun e w' => e = .returned (.bool true) ∧ Below w.heap.size w w' := by
  have x3 : ¬ x < -2001 := by omega
  have x4 : ¬ 2001 < x := by omega
  have x5 : decide (x < -2001) = false := decide_eq_false x3
  have x6 : decide (2001 < x) = false := decide_eq_false x4
  clear x1 x2 x3 x4
  have Bs0 := hide (Blk.newAt w (w.heap.size) (rfl) #[.int .i64 1, .bool n, .string ⟨#[]⟩, .string ⟨#[]⟩, .int .i64 x, .bool cm] 34)
  have HB0 : Hid (Below w.heap.size w (w.alloc (.cells #[.int .i64 1, .bool n, .string ⟨#[]⟩, .string ⟨#[]⟩, .int .i64 x, .bool cm] 34))) := ((Below.refl _ _).alloc (Nat.le_refl _) _)
  go_enter Tryz.func45, Tryz.ntmps45
  go_wp2
  go_ret
  exact ⟨rfl, HB0.out⟩

set_option maxHeartbeats 1000000 in
theorem rmayS_2t (x : Int) (cm : Bool) (w : World) (x1 : -2001 ≤ x) (x2 : x ≤ 2001) : Calls Tryz.prog 45 #[shV 2 false ⟨#[]⟩ ⟨#[]⟩ x cm] w fun e w' => e = .returned (.bool true) ∧ Below w.heap.size w w' := by
  have x3 : ¬ x < -2001 := by omega
  have x4 : ¬ 2001 < x := by omega
  have x5 : decide (x < -2001) = false := decide_eq_false x3
  have x6 : decide (2001 < x) = false := decide_eq_false x4
  clear x1 x2 x3 x4
  have Bs0 := hide (Blk.newAt w (w.heap.size) (rfl) #[.int .i64 2, .bool false, .string ⟨#[]⟩, .string ⟨#[]⟩, .int .i64 x, .bool cm] 34)
  have HB0 : Hid (Below w.heap.size w (w.alloc (.cells #[.int .i64 2, .bool false, .string ⟨#[]⟩, .string ⟨#[]⟩, .int .i64 x, .bool cm] 34))) := ((Below.refl _ _).alloc (Nat.le_refl _) _)
  go_enter Tryz.func45, Tryz.ntmps45
  go_wp2
  go_ret
  exact ⟨rfl, HB0.out⟩

set_option maxHeartbeats 1000000 in
theorem rmayS_2n (x : Int) (cm : Bool) (w : World) (x1 : -2001 ≤ x) (x2 : x ≤ 2001) : Calls Tryz.prog 45 #[shV 2 true ⟨#[]⟩ ⟨#[]⟩ x cm] w fun e w' => e = .returned (.bool false) ∧ Below w.heap.size w w' := by
  have x3 : ¬ x < -2001 := by omega
  have x4 : ¬ 2001 < x := by omega
  have x5 : decide (x < -2001) = false := decide_eq_false x3
  have x6 : decide (2001 < x) = false := decide_eq_false x4
  clear x1 x2 x3 x4
  have Bs0 := hide (Blk.newAt w (w.heap.size) (rfl) #[.int .i64 2, .bool true, .string ⟨#[]⟩, .string ⟨#[]⟩, .int .i64 x, .bool cm] 34)
  have HB0 : Hid (Below w.heap.size w (w.alloc (.cells #[.int .i64 2, .bool true, .string ⟨#[]⟩, .string ⟨#[]⟩, .int .i64 x, .bool cm] 34))) := ((Below.refl _ _).alloc (Nat.le_refl _) _)
  go_enter Tryz.func45, Tryz.ntmps45
  go_wp2
  go_ret
  exact ⟨rfl, HB0.out⟩

set_option maxHeartbeats 1000000 in
theorem rmayS_3 (c : Int) (n : Bool) (x : Int) (cm : Bool) (w : World) (x1 : -2001 ≤ x) (x2 : x ≤ 2001) (h0 : ¬ c = 0) (h1 : ¬ c = 1) (h2 : ¬ c = 2) : Calls Tryz.prog 45 #[shV c n ⟨#[]⟩ ⟨#[]⟩ x cm] w fun e w' => e = .returned (.bool false) ∧ Below w.heap.size w w' := by
  have x3 : ¬ x < -2001 := by omega
  have x4 : ¬ 2001 < x := by omega
  have x5 : decide (x < -2001) = false := decide_eq_false x3
  have x6 : decide (2001 < x) = false := decide_eq_false x4
  clear x1 x2 x3 x4
  have Bs0 := hide (Blk.newAt w (w.heap.size) (rfl) #[.int .i64 c, .bool n, .string ⟨#[]⟩, .string ⟨#[]⟩, .int .i64 x, .bool cm] 34)
  have HB0 : Hid (Below w.heap.size w (w.alloc (.cells #[.int .i64 c, .bool n, .string ⟨#[]⟩, .string ⟨#[]⟩, .int .i64 x, .bool cm] 34))) := ((Below.refl _ _).alloc (Nat.le_refl _) _)
  go_enter Tryz.func45, Tryz.ntmps45
  go_wp2
  go_ret
  exact ⟨congrArg (fun b => Ending.returned (Value.bool b)) (show (c == 1) = false by simp; omega), HB0.out⟩

theorem rmayS_T (c : Int) (n : Bool) (ti tf : ByteArray) (x : Int) (cm : Bool) (w : World) (h : MayS ⟨c, n, bys ti, bys tf, x, cm⟩) : Calls Tryz.prog 45 #[shV c n ti tf x cm] w fun e w' => e = .returned (.bool true) ∧ Below w.heap.size w w' := by
  obtain ⟨⟨x1, x2⟩, h⟩ := h
  simp only at x1 x2
  rcases h with ⟨h1, h2, h3, h4⟩ | ⟨h1, h2, h3⟩ | ⟨h1, h2, h3, h4⟩
  · simp only at h1 h2 h3 h4
    subst h1
    refine rmayS_0t n ti tf x cm w x1 x2 h3 h4 (fun g => ?_)
    have q1 : bys ti = [] := bys_nil.2 (by omega)
    have q2 : bys tf = [] := bys_nil.2 (by omega)
    exact h2.elim (fun q => q q1) (fun q => q q2)
  · simp only at h1 h2 h3
    obtain rfl := nil_bys h2
    obtain rfl := nil_bys h3
    subst h1
    exact rmayS_1t n x cm w x1 x2
  · simp only at h1 h2 h3 h4
    obtain rfl := nil_bys h2
    obtain rfl := nil_bys h3
    subst h1 h4
    exact rmayS_2t x cm w x1 x2

theorem rmayS_F (c : Int) (n : Bool) (ti tf : ByteArray) (x : Int) (cm : Bool) (w : World) (b1 : ti.size ≤ 281474976710656) (b2 : tf.size ≤ 281474976710656) (h : ¬ MayS ⟨c, n, bys ti, bys tf, x, cm⟩) : Calls Tryz.prog 45 #[shV c n ti tf x cm] w fun e w' => e = .returned (.bool false) ∧ Below w.heap.size w w' := by
  by_cases xl : x < -2001
  · exact rmayS_xl c n ti tf x cm w xl
  by_cases xh : 2001 < x
  · exact rmayS_xh c n ti tf x cm w xh
  have x1 : -2001 ≤ x := by omega
  have x2 : x ≤ 2001 := by omega
  by_cases h0 : c = 0
  · subst h0
    by_cases g1 : (bys ti).length ≤ 4096 ∧ DigB (bys ti)
    rotate_left
    · exact rmayS_0a n ti tf x cm w x1 x2 b1 g1
    by_cases g2 : (bys tf).length ≤ 4096 ∧ DigB (bys tf)
    rotate_left
    · exact rmayS_0b n ti tf x cm w x1 x2 b1 b2 g1 g2
    by_cases hi : bys ti = []
    · by_cases hf : bys tf = []
      · obtain rfl := nil_bys hi
        obtain rfl := nil_bys hf
        exact rmayS_0z n x cm w x1 x2
      · exact absurd ⟨⟨x1, x2⟩, .inl ⟨rfl, .inr hf, g1, g2⟩⟩ h
    · exact absurd ⟨⟨x1, x2⟩, .inl ⟨rfl, .inl hi, g1, g2⟩⟩ h
  by_cases hi : bys ti = []
  rotate_left
  · exact rmayS_ni c n ti tf x cm w x1 x2 h0 (bys_ne hi)
  obtain rfl := nil_bys hi
  by_cases hf : bys tf = []
  rotate_left
  · exact rmayS_nf c n tf x cm w x1 x2 h0 (bys_ne hf)
  obtain rfl := nil_bys hf
  by_cases h1 : c = 1
  · exact absurd ⟨⟨x1, x2⟩, .inr (.inl ⟨h1, hi, hf⟩)⟩ h
  by_cases h2 : c = 2
  · subst h2
    cases n
    · exact absurd ⟨⟨x1, x2⟩, .inr (.inr ⟨rfl, hi, hf, rfl⟩)⟩ h
    · exact rmayS_2n x cm w x1 x2
  · exact rmayS_3 c n x cm w x1 x2 h0 h1 h2

end Go.Proofs.YtobloamnaemfnaaGreatDoor

namespace Go.Proofs.YtobloamnaemfnaaGreatDoor
open Go.RowKit

set_option maxHeartbeats 2000000 in
theorem rof_m (c : Int) (n : Bool) (ti tf : ByteArray) (x : Int) (cm : Bool) (w : World) (b1 : ti.size ≤ 281474976710656) (b2 : tf.size ≤ 281474976710656) (h : ¬ MayS ⟨c, n, bys ti, bys tf, x, cm⟩) : Calls Tryz.prog 19 #[shV c n ti tf x cm] w fun e w' => e = .returned (.tuple #[.agg #[.string ⟨#[]⟩, .int .i64 0, .int .i64 0, .string ⟨#[]⟩, .string ⟨#[]⟩, .int .i64 0], .int .i64 80]) ∧ Below w.heap.size w w' := by
  have HM := hide (fun W => rmayS_F c n ti tf x cm W b1 b2 h)
  clear h b1 b2
  have Bs0 := hide ((Blk.newAt w (w.heap.size) (rfl) #[.int .i64 c, .bool n, .string ti, .string tf, .int .i64 x, .bool cm] 34).alloc (.cells #[.string ⟨#[]⟩, .int .i64 0, .int .i64 0, .string ⟨#[]⟩, .string ⟨#[]⟩, .int .i64 0] 41))
  have Br0 := hide (Blk.newAt (w.alloc (.cells #[.int .i64 c, .bool n, .string ti, .string tf, .int .i64 x, .bool cm] 34)) (w.heap.size + 1) (by simp) #[.string ⟨#[]⟩, .int .i64 0, .int .i64 0, .string ⟨#[]⟩, .string ⟨#[]⟩, .int .i64 0] 41)
  have HB0 : Hid (Below w.heap.size w ((w.alloc (.cells #[.int .i64 c, .bool n, .string ti, .string tf, .int .i64 x, .bool cm] 34)).alloc (.cells #[.string ⟨#[]⟩, .int .i64 0, .int .i64 0, .string ⟨#[]⟩, .string ⟨#[]⟩, .int .i64 0] 41))) := (((Below.refl _ _).alloc (Nat.le_refl _) _).alloc (by simp <;> omega) _)
  go_enter Tryz.func19, Tryz.ntmps19
  go_wp2_with fail
  refine (HM.out _).mono ?_
  rintro e w1 ⟨rfl, hb⟩
  have Bs1 := Blk.on Bs0 hb
  have Br1 := Blk.on Br0 hb
  have HB1 := hide (HB0.out.trans (hb.mono HB0.out.size))
  clear hb Bs0 Br0 HB0 
  obtain ⟨ys0, ys1, ys2, ys3, ys4, ys5⟩ := Bs1.out.six
  obtain ⟨yr0, yr1, yr2, yr3, yr4, yr5⟩ := Br1.out.six
  have fr0 := Br1.out.free 0
  have fr1 := Br1.out.free 1
  have fr2 := Br1.out.free 2
  have fr3 := Br1.out.free 3
  have fr4 := Br1.out.free 4
  have fr5 := Br1.out.free 5
  go_wp2
  refine bodyPost_ret (results_opr2 rfl _ _ _ _ _ _ _ _ _ rfl (Br1.out.put6 _ _ _ _ _ _)) rfl ?_
  exact ⟨rfl, below_put6 (HB1.out) (by omega) _ _ _ _ _ _⟩

set_option maxHeartbeats 2000000 in
theorem rof_k1 (n : Bool) (ti tf : ByteArray) (x : Int) (cm : Bool) (w : World) (h : MayS ⟨1, n, bys ti, bys tf, x, cm⟩) : Calls Tryz.prog 19 #[shV 1 n ti tf x cm] w fun e w' => e = .returned (.tuple #[.agg #[.string ⟨#[]⟩, .int .i64 0, .int .i64 0, .string ⟨#[]⟩, .string ⟨#[]⟩, .int .i64 0], .int .i64 80]) ∧ Below w.heap.size w w' := by
  have HM := hide (fun W => rmayS_T 1 n ti tf x cm W h)
  clear h
  have Bs0 := hide ((Blk.newAt w (w.heap.size) (rfl) #[.int .i64 1, .bool n, .string ti, .string tf, .int .i64 x, .bool cm] 34).alloc (.cells #[.string ⟨#[]⟩, .int .i64 0, .int .i64 0, .string ⟨#[]⟩, .string ⟨#[]⟩, .int .i64 0] 41))
  have Br0 := hide (Blk.newAt (w.alloc (.cells #[.int .i64 1, .bool n, .string ti, .string tf, .int .i64 x, .bool cm] 34)) (w.heap.size + 1) (by simp) #[.string ⟨#[]⟩, .int .i64 0, .int .i64 0, .string ⟨#[]⟩, .string ⟨#[]⟩, .int .i64 0] 41)
  have HB0 : Hid (Below w.heap.size w ((w.alloc (.cells #[.int .i64 1, .bool n, .string ti, .string tf, .int .i64 x, .bool cm] 34)).alloc (.cells #[.string ⟨#[]⟩, .int .i64 0, .int .i64 0, .string ⟨#[]⟩, .string ⟨#[]⟩, .int .i64 0] 41))) := (((Below.refl _ _).alloc (Nat.le_refl _) _).alloc (by simp <;> omega) _)
  go_enter Tryz.func19, Tryz.ntmps19
  go_wp2_with fail
  refine (HM.out _).mono ?_
  rintro e w1 ⟨rfl, hb⟩
  have Bs1 := Blk.on Bs0 hb
  have Br1 := Blk.on Br0 hb
  have HB1 := hide (HB0.out.trans (hb.mono HB0.out.size))
  clear hb Bs0 Br0 HB0 
  obtain ⟨ys0, ys1, ys2, ys3, ys4, ys5⟩ := Bs1.out.six
  obtain ⟨yr0, yr1, yr2, yr3, yr4, yr5⟩ := Br1.out.six
  have fr0 := Br1.out.free 0
  have fr1 := Br1.out.free 1
  have fr2 := Br1.out.free 2
  have fr3 := Br1.out.free 3
  have fr4 := Br1.out.free 4
  have fr5 := Br1.out.free 5
  go_wp2
  refine bodyPost_ret (results_opr2 rfl _ _ _ _ _ _ _ _ _ rfl (Br1.out.put6 _ _ _ _ _ _)) rfl ?_
  exact ⟨rfl, below_put6 (HB1.out) (by omega) _ _ _ _ _ _⟩

set_option maxHeartbeats 2000000 in
theorem rof_k2 (n : Bool) (ti tf : ByteArray) (x : Int) (cm : Bool) (w : World) (h : MayS ⟨2, n, bys ti, bys tf, x, cm⟩) : Calls Tryz.prog 19 #[shV 2 n ti tf x cm] w fun e w' => e = .returned (.tuple #[.agg #[.string ⟨#[]⟩, .int .i64 0, .int .i64 0, .string ⟨#[]⟩, .string ⟨#[]⟩, .int .i64 0], .int .i64 80]) ∧ Below w.heap.size w w' := by
  have HM := hide (fun W => rmayS_T 2 n ti tf x cm W h)
  clear h
  have Bs0 := hide ((Blk.newAt w (w.heap.size) (rfl) #[.int .i64 2, .bool n, .string ti, .string tf, .int .i64 x, .bool cm] 34).alloc (.cells #[.string ⟨#[]⟩, .int .i64 0, .int .i64 0, .string ⟨#[]⟩, .string ⟨#[]⟩, .int .i64 0] 41))
  have Br0 := hide (Blk.newAt (w.alloc (.cells #[.int .i64 2, .bool n, .string ti, .string tf, .int .i64 x, .bool cm] 34)) (w.heap.size + 1) (by simp) #[.string ⟨#[]⟩, .int .i64 0, .int .i64 0, .string ⟨#[]⟩, .string ⟨#[]⟩, .int .i64 0] 41)
  have HB0 : Hid (Below w.heap.size w ((w.alloc (.cells #[.int .i64 2, .bool n, .string ti, .string tf, .int .i64 x, .bool cm] 34)).alloc (.cells #[.string ⟨#[]⟩, .int .i64 0, .int .i64 0, .string ⟨#[]⟩, .string ⟨#[]⟩, .int .i64 0] 41))) := (((Below.refl _ _).alloc (Nat.le_refl _) _).alloc (by simp <;> omega) _)
  go_enter Tryz.func19, Tryz.ntmps19
  go_wp2_with fail
  refine (HM.out _).mono ?_
  rintro e w1 ⟨rfl, hb⟩
  have Bs1 := Blk.on Bs0 hb
  have Br1 := Blk.on Br0 hb
  have HB1 := hide (HB0.out.trans (hb.mono HB0.out.size))
  clear hb Bs0 Br0 HB0 
  obtain ⟨ys0, ys1, ys2, ys3, ys4, ys5⟩ := Bs1.out.six
  obtain ⟨yr0, yr1, yr2, yr3, yr4, yr5⟩ := Br1.out.six
  have fr0 := Br1.out.free 0
  have fr1 := Br1.out.free 1
  have fr2 := Br1.out.free 2
  have fr3 := Br1.out.free 3
  have fr4 := Br1.out.free 4
  have fr5 := Br1.out.free 5
  go_wp2
  refine bodyPost_ret (results_opr2 rfl _ _ _ _ _ _ _ _ _ rfl (Br1.out.put6 _ _ _ _ _ _)) rfl ?_
  exact ⟨rfl, below_put6 (HB1.out) (by omega) _ _ _ _ _ _⟩

set_option maxHeartbeats 2000000 in
theorem rof_x (n : Bool) (ti tf : ByteArray) (x : Int) (w : World) (h : MayS ⟨0, n, bys ti, bys tf, x, true⟩) (h2 : x < 0) : Calls Tryz.prog 19 #[shV 0 n ti tf x true] w fun e w' => e = .returned (.tuple #[.agg #[.string ⟨#[]⟩, .int .i64 0, .int .i64 0, .string ⟨#[]⟩, .string ⟨#[]⟩, .int .i64 0], .int .i64 80]) ∧ Below w.heap.size w w' := by
  have HM := hide (fun W => rmayS_T 0 n ti tf x true W h)
  have h3 : decide (x < 0) = true := decide_eq_true h2
  clear h h2
  have Bs0 := hide ((Blk.newAt w (w.heap.size) (rfl) #[.int .i64 0, .bool n, .string ti, .string tf, .int .i64 x, .bool true] 34).alloc (.cells #[.string ⟨#[]⟩, .int .i64 0, .int .i64 0, .string ⟨#[]⟩, .string ⟨#[]⟩, .int .i64 0] 41))
  have Br0 := hide (Blk.newAt (w.alloc (.cells #[.int .i64 0, .bool n, .string ti, .string tf, .int .i64 x, .bool true] 34)) (w.heap.size + 1) (by simp) #[.string ⟨#[]⟩, .int .i64 0, .int .i64 0, .string ⟨#[]⟩, .string ⟨#[]⟩, .int .i64 0] 41)
  have HB0 : Hid (Below w.heap.size w ((w.alloc (.cells #[.int .i64 0, .bool n, .string ti, .string tf, .int .i64 x, .bool true] 34)).alloc (.cells #[.string ⟨#[]⟩, .int .i64 0, .int .i64 0, .string ⟨#[]⟩, .string ⟨#[]⟩, .int .i64 0] 41))) := (((Below.refl _ _).alloc (Nat.le_refl _) _).alloc (by simp <;> omega) _)
  go_enter Tryz.func19, Tryz.ntmps19
  go_wp2_with fail
  refine (HM.out _).mono ?_
  rintro e w1 ⟨rfl, hb⟩
  have Bs1 := Blk.on Bs0 hb
  have Br1 := Blk.on Br0 hb
  have HB1 := hide (HB0.out.trans (hb.mono HB0.out.size))
  clear hb Bs0 Br0 HB0 
  obtain ⟨ys0, ys1, ys2, ys3, ys4, ys5⟩ := Bs1.out.six
  obtain ⟨yr0, yr1, yr2, yr3, yr4, yr5⟩ := Br1.out.six
  have fr0 := Br1.out.free 0
  have fr1 := Br1.out.free 1
  have fr2 := Br1.out.free 2
  have fr3 := Br1.out.free 3
  have fr4 := Br1.out.free 4
  have fr5 := Br1.out.free 5
  go_wp2
  refine bodyPost_ret (results_opr2 rfl _ _ _ _ _ _ _ _ _ rfl (Br1.out.put6 _ _ _ _ _ _)) rfl ?_
  exact ⟨rfl, below_put6 (HB1.out) (by omega) _ _ _ _ _ _⟩

structure CutB (W : World) (ti tf : ByteArray) (u v e : Value) (W' : World) : Prop where
  ex : e = .int .i64 0 ∧ (∃ g c, u = .slice (some ⟨g, 0, none⟩) ti.size c ∧ Ob W.heap.size W' u ((bys ti).map UInt8.toNat)) ∧ (∃ g c, v = .slice (some ⟨g, 0, none⟩) tf.size c ∧ Ob W.heap.size W' v ((bys tf).map UInt8.toNat) ∧ u.ownBlock ≠ some g) ∧ Below W.heap.size W W'

theorem cutB_a (W : World) (ti tf : ByteArray) : CutB W ti tf (.slice (some ⟨W.heap.size, 0, none⟩) ti.size (grownCap W.drew ti.size 0 5)) (.slice (some ⟨(Lib.bytesWorld W.drew 5 ti).heap.size, 0, none⟩) tf.size (grownCap (Lib.bytesWorld W.drew 5 ti) tf.size 0 5)) (.int .i64 0) (Lib.bytesWorld (Lib.bytesWorld W.drew 5 ti) 5 tf) := by
  have hb1 : Below W.heap.size W (Lib.bytesWorld W.drew 5 ti) := ((Below.refl W.heap.size W).drew).trans (Joins.below_bytesWorld _ W.drew 5 ti (Nat.le_refl _))
  have hb2 := bytes_below (Lib.bytesWorld W.drew 5 ti) 5 tf
  refine ⟨rfl, ⟨_, _, rfl, ?_⟩, ⟨_, _, rfl, Ob.bytes _ tf hb1.size, ?_⟩, hb1.trans (hb2.mono hb1.size)⟩
  · exact (Ob.bytes (base := W.heap.size) W.drew ti (Nat.le_refl _)).below hb2
  · have hz : (Lib.bytesWorld W.drew 5 ti).heap.size = W.heap.size + 1 := Lib.bytesWorld_size _ _ _
    rw [hz]
    simp only [Value.ownBlock, ne_eq, Option.some.injEq]
    omega

theorem cutB_b (W : World) (ti tf : ByteArray) : CutB W ti tf (.slice (some ⟨(Lib.bytesWorld W.drew 5 tf).heap.size, 0, none⟩) ti.size (grownCap (Lib.bytesWorld W.drew 5 tf) ti.size 0 5)) (.slice (some ⟨W.heap.size, 0, none⟩) tf.size (grownCap W.drew tf.size 0 5)) (.int .i64 0) (Lib.bytesWorld (Lib.bytesWorld W.drew 5 tf) 5 ti) := by
  have hb1 : Below W.heap.size W (Lib.bytesWorld W.drew 5 tf) := ((Below.refl W.heap.size W).drew).trans (Joins.below_bytesWorld _ W.drew 5 tf (Nat.le_refl _))
  have hb2 := bytes_below (Lib.bytesWorld W.drew 5 tf) 5 ti
  refine ⟨rfl, ⟨_, _, rfl, Ob.bytes _ ti hb1.size⟩, ⟨_, _, rfl, (Ob.bytes (base := W.heap.size) W.drew tf (Nat.le_refl _)).below hb2, ?_⟩, hb1.trans (hb2.mono hb1.size)⟩
  have hz : (Lib.bytesWorld W.drew 5 tf).heap.size = W.heap.size + 1 := Lib.bytesWorld_size _ _ _
  rw [hz]
  simp only [Value.ownBlock, ne_eq, Option.some.injEq]
  omega

end Go.Proofs.YtobloamnaemfnaaGreatDoor

namespace Go.Proofs.YtobloamnaemfnaaGreatDoor
open Go.RowKit

theorem strB_of (l : List UInt8) : strOfNums ((l.map UInt8.toNat).map fun (x : Nat) => (x : Int)) = ⟨l.toArray⟩ := by
  apply ByteArray.ext
  apply Array.toList_inj.1
  rw [strOfNums_data, List.map_map, List.map_map]
  show _ = l
  conv => rhs; rw [← List.map_id l]
  apply List.map_congr_left
  intro x _
  simp

theorem Tryz.infoBz : (Tryz.prog.info? 5).map (fun i => (i.zero, i.size, i.bytes)) = some (some (.int .u8 0), 1, 1) := by kernel_rfl

theorem convB_at {X : World} {g o cap : Nat} {l : List UInt8} (h : ∀ i, i < l.length → X.cell? ⟨g, o + i, none⟩ = some (.int .u8 ((byt l i : Nat) : Int))) : (convert 50 9 (.slice (some ⟨g, o, none⟩) l.length cap)).run Tryz.prog X = .ok (.string ⟨l.toArray⟩) X := by
  have kc := run_convert_bytes_arg (P := Tryz.prog) X 50 5 Tryz.underlying50 Tryz.underlying5 g o l.length cap ((l.map UInt8.toNat).map fun (x : Nat) => (x : Int)) (by rw [List.length_map, List.length_map]) (fun i hi => by
    rw [h i hi]
    unfold byt
    simp [List.getD, hi]) 9 Tryz.underlying9
  rw [strB_of] at kc
  exact kc

theorem convB_by (s : ByteArray) : ∀ X : World, (convert 9 50 (.string s)).run Tryz.prog X = .ok (.slice (some ⟨X.heap.size, 0, none⟩) s.size (grownCap X s.size 0 5)) (Lib.bytesWorld X 5 s) := fun X =>
  Lib.run_convert_string_bytes (P := Tryz.prog) X 9 50 5 s Tryz.underlying9 Tryz.underlying50 Tryz.underlying5

end Go.Proofs.YtobloamnaemfnaaGreatDoor

namespace Go.Proofs.YtobloamnaemfnaaGreatDoor
open Go.RowKit

theorem move_more {a b : List UInt8} {j : Nat} (h : j < b.length) : (moveA a b (j + 1)).map UInt8.toNat = (moveA a b j).map UInt8.toNat ++ [byt b j] := by
  have e1 : j + 1 - b.length = 0 := by omega
  have e2 : j - b.length = 0 := by omega
  unfold moveA byt
  rw [e1, e2, List.replicate_zero, List.append_nil, List.append_nil, List.take_add_one, List.getElem?_eq_getElem h, ← List.append_assoc, List.map_append]
  rfl

theorem move_nought {a b : List UInt8} {j : Nat} (h : ¬ j < b.length) : (moveA a b (j + 1)).map UInt8.toNat = (moveA a b j).map UInt8.toNat ++ [48] := by
  have e1 : j + 1 - b.length = j - b.length + 1 := by omega
  unfold moveA
  rw [e1, List.replicate_succ', List.take_of_length_le (by omega), List.take_of_length_le (by omega), ← List.append_assoc, List.map_append]
  rfl

def CvS (ga g o : Nat) (la lf : List UInt8) (w : World) : Prop := (∀ i, i < la.length → w.cell? ⟨ga, i, none⟩ = some (.int .u8 ((byt la i : Nat) : Int))) ∧ ∀ i, i < lf.length → w.cell? ⟨g, o + i, none⟩ = some (.int .u8 ((byt lf i : Nat) : Int))

theorem CvS.conv {ga g o ca cf q : Nat} {la lf : List UInt8} {w : World} (h : CvS ga g o la lf w) (hq : q ≤ lf.length) : (convert 50 9 (.slice (some ⟨ga, 0, none⟩) la.length ca)).run Tryz.prog w = .ok (.string ⟨la.toArray⟩) w ∧ (convert 50 9 (.slice (some ⟨g, o, none⟩) lf.length cf)).run Tryz.prog w = .ok (.string ⟨lf.toArray⟩) w ∧ (convert 50 9 (.slice (some ⟨g, o, none⟩) q cf)).run Tryz.prog w = .ok (.string ⟨(lf.take q).toArray⟩) w := by
  refine ⟨convB_at fun i hi => ?_, convB_at h.2, ?_⟩
  · rw [Nat.zero_add]; exact h.1 i hi
  · have hl : (lf.take q).length = q := by rw [List.length_take]; omega
    have g := convB_at (X := w) (g := g) (o := o) (cap := cf) (l := lf.take q) (fun i hi => by rw [byt_take lf (by omega)]; exact h.2 i (by omega))
    rw [hl] at g
    exact g

theorem CvS.set {ga g o G : Nat} {la lf : List UInt8} {w : World} (h : CvS ga g o la lf w) (h1 : ¬ G = ga) (h2 : ¬ G = g) {W : World} (hW : ∀ b, ¬ G = b → W.heap[b]? = w.heap[b]?) : CvS ga g o la lf W :=
  ⟨fun i hi => (World.cell?_of_block (a := ⟨ga, i, none⟩) (hW ga h1)).trans (h.1 i hi), fun i hi => (World.cell?_of_block (a := ⟨g, o + i, none⟩) (hW g h2)).trans (h.2 i hi)⟩

theorem drew_heap (X : World) : X.drew.heap = X.heap := rfl

theorem Blk.drawn {w : World} {b : Nat} {cs : Array Value} {t : TypeId} (h : Blk w b cs t) : Blk w.drew b cs t := h

theorem put6_other (W : World) (G : Nat) (y0 y1 y2 y3 y4 y5 : Value) (b : Nat) (h : ¬ G = b) : ((((((W.setCell ⟨G, 0, none⟩ y0).setCell ⟨G, 1, none⟩ y1).setCell ⟨G, 2, none⟩ y2).setCell ⟨G, 3, none⟩ y3).setCell ⟨G, 4, none⟩ y4).setCell ⟨G, 5, none⟩ y5).heap[b]? = W.heap[b]? := by
  simp only [World.setCell, Array.getElem?_modify, if_neg h]

theorem put6_drew (W : World) (G : Nat) (y0 y1 y2 y3 y4 y5 : Value) (b : Nat) (h : ¬ G = b) : ((((((W.setCell ⟨G, 0, none⟩ y0).setCell ⟨G, 1, none⟩ y1).setCell ⟨G, 2, none⟩ y2).setCell ⟨G, 3, none⟩ y3).setCell ⟨G, 4, none⟩ y4).setCell ⟨G, 5, none⟩ y5).drew.heap[b]? = W.heap[b]? := by
  rw [drew_heap]
  exact put6_other W G y0 y1 y2 y3 y4 y5 b h

theorem oper_is {n : Bool} {ti tf : ByteArray} {x : Int} {cm : Bool} {j q : Nat} {A lf : List UInt8} (hj : expO ⟨0, n, bys ti, bys tf, x, cm⟩ = j) (hA : A = moveA (bys ti) (bys tf) j) (hlf : lf = (bys tf).drop j) (hq : shortN lf = q) : operS ⟨0, n, bys ti, bys tf, x, cm⟩ = ⟨numO A, (lf.length : Int), (q : Int), numO lf, numO (lf.take q), (j : Int)⟩ := by
  subst hq hA hlf
  unfold operS
  rw [hj]

end Go.Proofs.YtobloamnaemfnaaGreatDoor

namespace Go.Proofs.YtobloamnaemfnaaGreatDoor
open Go.RowKit

set_option maxRecDepth 100000 in
set_option maxHeartbeats 8000000 in
theorem rof_false (n : Bool) (ti tf : ByteArray) (x : Int) (w : World) (h : MayS ⟨0, n, bys ti, bys tf, x, false⟩) (hb : tf.size ≤ 4096) : Calls Tryz.prog 19 #[shV 0 n ti tf x false] w fun e w' => e = .returned (.tuple #[.agg #[.string ⟨(operS ⟨0, n, bys ti, bys tf, x, false⟩).i.toArray⟩, .int .i64 (operS ⟨0, n, bys ti, bys tf, x, false⟩).v, .int .i64 (operS ⟨0, n, bys ti, bys tf, x, false⟩).w, .string ⟨(operS ⟨0, n, bys ti, bys tf, x, false⟩).f.toArray⟩, .string ⟨(operS ⟨0, n, bys ti, bys tf, x, false⟩).t.toArray⟩, .int .i64 (operS ⟨0, n, bys ti, bys tf, x, false⟩).e], .int .i64 0]) ∧ Below w.heap.size w w' := by
  have HM := hide (fun W => rmayS_T 0 n ti tf x false W h)
  clear h
  obtain ⟨i0, hi, hz0, hz1, hz2⟩ := info_parts Tryz.infoBz
  have Bs0 := hide ((Blk.newAt w (w.heap.size) (rfl) #[.int .i64 0, .bool n, .string ti, .string tf, .int .i64 x, .bool false] 34).alloc (.cells #[.string ⟨#[]⟩, .int .i64 0, .int .i64 0, .string ⟨#[]⟩, .string ⟨#[]⟩, .int .i64 0] 41))
  have Br0 := hide (Blk.newAt (w.alloc (.cells #[.int .i64 0, .bool n, .string ti, .string tf, .int .i64 x, .bool false] 34)) (w.heap.size + 1) (by simp) #[.string ⟨#[]⟩, .int .i64 0, .int .i64 0, .string ⟨#[]⟩, .string ⟨#[]⟩, .int .i64 0] 41)
  have HB0 : Hid (Below w.heap.size w ((w.alloc (.cells #[.int .i64 0, .bool n, .string ti, .string tf, .int .i64 x, .bool false] 34)).alloc (.cells #[.string ⟨#[]⟩, .int .i64 0, .int .i64 0, .string ⟨#[]⟩, .string ⟨#[]⟩, .int .i64 0] 41))) := (((Below.refl _ _).alloc (Nat.le_refl _) _).alloc (by simp <;> omega) _)
  go_enter Tryz.func19, Tryz.ntmps19
  go_wp2_with fail
  refine (HM.out _).mono ?_
  rintro e w1 ⟨rfl, hb⟩
  have Bs1 := Blk.on Bs0 hb
  have Br1 := Blk.on Br0 hb
  have HB1 := hide (HB0.out.trans (hb.mono HB0.out.size))
  clear hb Bs0 Br0 HB0 
  obtain ⟨ys0, ys1, ys2, ys3, ys4, ys5⟩ := Bs1.out.six
  obtain ⟨yr0, yr1, yr2, yr3, yr4, yr5⟩ := Br1.out.six
  clear HM
  have cva := convB_by ti
  have cvb := convB_by tf
  have HSW : Hid (∀ w', Below w1.heap.size w1 w' → w'.cell? ⟨w.heap.size, 2, none⟩ = some (.string ti) ∧ w'.cell? ⟨w.heap.size, 3, none⟩ = some (.string tf)) := fun w' hb => ⟨(Bs1.out.below hb Bs1.out.lt).cell 2, (Bs1.out.below hb Bs1.out.lt).cell 3⟩
  go_upto_region 3 with (fail)
  go_cut [4, 5, 6] (fun va vb vc wx => CutB w1 ti tf va vb vc wx)
  case first =>
    refine wp_region_held_drew (S := (fun w' => w'.cell? ⟨w.heap.size, 2, none⟩ = some (.string ti) ∧ w'.cell? ⟨w.heap.size, 3, none⟩ = some (.string tf))) (by kernel_rfl) ?_ (fun hHeld => ?_)
    · (try dsimp only)
      go_keep
    refine wpAnyH_take (i := 0) (oi := Oper.mk (some 27) _ _ _ _ _) (v := .pointer (some ⟨w.heap.size, 2, none⟩)) rfl (by kernel_rfl) (by kernel_rfl) (by kernel_rfl) (fun _ _ _ h => h) (Or.inl ⟨by rfl, ?_⟩) (by assumption) ?_
    · intro wX hSw
      (try dsimp only at hSw)
      go_simp
    simp only [Act.put, List.setIfInBounds_toArray, List.set_cons_succ, List.set_cons_zero]
    refine wpAnyH_take (i := 1) (oi := Oper.mk (some 28) _ _ _ _ _) (v := .string ti) rfl (by kernel_rfl) (by kernel_rfl) (by kernel_rfl) (fun _ _ _ h => h) (Or.inl ⟨by rfl, ?_⟩) (by assumption) ?_
    · intro wX hSw
      (try dsimp only at hSw)
      go_simp
    simp only [Act.put, List.setIfInBounds_toArray, List.set_cons_succ, List.set_cons_zero]
    refine wpAnyH_take (i := 3) (oi := Oper.mk (some 30) _ _ _ _ _) (v := .pointer (some ⟨w.heap.size, 3, none⟩)) rfl (by kernel_rfl) (by kernel_rfl) (by kernel_rfl) (fun _ _ _ h => h) (Or.inl ⟨by rfl, ?_⟩) (by assumption) ?_
    · intro wX hSw
      (try dsimp only at hSw)
      go_simp
    simp only [Act.put, List.setIfInBounds_toArray, List.set_cons_succ, List.set_cons_zero]
    refine wpAnyH_take (i := 4) (oi := Oper.mk (some 31) _ _ _ _ _) (v := .string tf) rfl (by kernel_rfl) (by kernel_rfl) (by kernel_rfl) (fun _ _ _ h => h) (Or.inl ⟨by rfl, ?_⟩) (by assumption) ?_
    · intro wX hSw
      (try dsimp only at hSw)
      go_simp
    simp only [Act.put, List.setIfInBounds_toArray, List.set_cons_succ, List.set_cons_zero]
    have bA : Below w1.heap.size w1 (Lib.bytesWorld w1.drew 5 ti) := ((Below.refl w1.heap.size w1).drew).trans (Joins.below_bytesWorld _ w1.drew 5 ti (Nat.le_refl _))
    have bB : Below w1.heap.size w1 (Lib.bytesWorld w1.drew 5 tf) := ((Below.refl w1.heap.size w1).drew).trans (Joins.below_bytesWorld _ w1.drew 5 tf (Nat.le_refl _))
    have BA := hide bA
    have BB := hide bB
    clear bA bB
    refine wpAnyH_ready (rs := [2, 5]) (by kernel_rfl) (by simp) ?_
    refine AllReadyH.cons (o := Oper.mk (some 29) _ _ _ _ _) rfl (fun K hK => ?_) (AllReadyH.cons (o := Oper.mk (some 32) _ _ _ _ _) rfl (fun K hK => ?_) AllReadyH.nil)
    · go_simp
      refine hK.out _ _ ?_ (fun hHeld => ?_)
      · exact HSW.out _ BA.out
      clear hK K
      refine wpAnyH_take (i := 6) (oi := Oper.mk (some 4) _ _ _ _ _) (v := .slice (some ⟨w1.heap.size, 0, none⟩) ti.size (grownCap w1.drew ti.size 0 5)) rfl (by kernel_rfl) (by kernel_rfl) (by kernel_rfl) (fun _ _ _ h => h) (Or.inl ⟨by rfl, ?_⟩) (by assumption) ?_
      · intro wX hSw
        (try dsimp only at hSw)
        go_simp
      simp only [Act.put, List.setIfInBounds_toArray, List.set_cons_succ, List.set_cons_zero]
      refine wpAnyH_ready (rs := [5]) (by kernel_rfl) (by simp) ?_
      refine AllReadyH.cons (o := Oper.mk (some 32) _ _ _ _ _) rfl (fun K hK => ?_) AllReadyH.nil
      go_simp
      refine hK.out _ _ ?_ (fun hHeld => ?_)
      · exact HSW.out _ (BA.out.trans ((bytes_below (Lib.bytesWorld w1.drew 5 ti) 5 tf).mono BA.out.size))
      clear hK K
      refine wpAnyH_take (i := 7) (oi := Oper.mk (some 5) _ _ _ _ _) (v := .slice (some ⟨(Lib.bytesWorld w1.drew 5 ti).heap.size, 0, none⟩) tf.size (grownCap (Lib.bytesWorld w1.drew 5 ti) tf.size 0 5)) rfl (by kernel_rfl) (by kernel_rfl) (by kernel_rfl) (fun _ _ _ h => h) (Or.inl ⟨by rfl, ?_⟩) (by assumption) ?_
      · intro wX hSw
        (try dsimp only at hSw)
        go_simp
      simp only [Act.put, List.setIfInBounds_toArray, List.set_cons_succ, List.set_cons_zero]
      refine wpAnyH_take (i := 8) (oi := Oper.mk (some 6) _ _ _ _ _) (v := .int .i64 0) rfl (by kernel_rfl) (by kernel_rfl) (by kernel_rfl) (fun _ _ _ h => h) (Or.inl ⟨by rfl, ?_⟩) (by assumption) ?_
      · intro wX hSw
        (try dsimp only at hSw)
        go_simp
      simp only [Act.put, List.setIfInBounds_toArray, List.set_cons_succ, List.set_cons_zero]
      refine wpAnyH_done (by kernel_rfl) ?_ _
      go_wp2_with fail
      go_meet
      exact cutB_a w1 ti tf
    · go_simp
      refine hK.out _ _ ?_ (fun hHeld => ?_)
      · exact HSW.out _ BB.out
      clear hK K
      refine wpAnyH_ready (rs := [2]) (by kernel_rfl) (by simp) ?_
      refine AllReadyH.cons (o := Oper.mk (some 29) _ _ _ _ _) rfl (fun K hK => ?_) AllReadyH.nil
      go_simp
      refine hK.out _ _ ?_ (fun hHeld => ?_)
      · exact HSW.out _ (BB.out.trans ((bytes_below (Lib.bytesWorld w1.drew 5 tf) 5 ti).mono BB.out.size))
      clear hK K
      refine wpAnyH_take (i := 6) (oi := Oper.mk (some 4) _ _ _ _ _) (v := .slice (some ⟨(Lib.bytesWorld w1.drew 5 tf).heap.size, 0, none⟩) ti.size (grownCap (Lib.bytesWorld w1.drew 5 tf) ti.size 0 5)) rfl (by kernel_rfl) (by kernel_rfl) (by kernel_rfl) (fun _ _ _ h => h) (Or.inl ⟨by rfl, ?_⟩) (by assumption) ?_
      · intro wX hSw
        (try dsimp only at hSw)
        go_simp
      simp only [Act.put, List.setIfInBounds_toArray, List.set_cons_succ, List.set_cons_zero]
      refine wpAnyH_take (i := 7) (oi := Oper.mk (some 5) _ _ _ _ _) (v := .slice (some ⟨w1.heap.size, 0, none⟩) tf.size (grownCap w1.drew tf.size 0 5)) rfl (by kernel_rfl) (by kernel_rfl) (by kernel_rfl) (fun _ _ _ h => h) (Or.inl ⟨by rfl, ?_⟩) (by assumption) ?_
      · intro wX hSw
        (try dsimp only at hSw)
        go_simp
      simp only [Act.put, List.setIfInBounds_toArray, List.set_cons_succ, List.set_cons_zero]
      refine wpAnyH_take (i := 8) (oi := Oper.mk (some 6) _ _ _ _ _) (v := .int .i64 0) rfl (by kernel_rfl) (by kernel_rfl) (by kernel_rfl) (fun _ _ _ h => h) (Or.inl ⟨by rfl, ?_⟩) (by assumption) ?_
      · intro wX hSw
        (try dsimp only at hSw)
        go_simp
      simp only [Act.put, List.setIfInBounds_toArray, List.set_cons_succ, List.set_cons_zero]
      refine wpAnyH_done (by kernel_rfl) ?_ _
      go_wp2_with fail
      go_meet
      exact cutB_b w1 ti tf
  obtain ⟨⟨rfl, ⟨g0, c0, rfl, hob⟩, ⟨g, cf, rfl, hof, hne⟩, hbc⟩⟩ := hcut
  obtain ⟨X, hX⟩ : ∃ x, x = wc := ⟨_, rfl⟩
  subst hX
  clear ys0 ys1 ys2 ys3 ys4 ys5 yr0 yr1 yr2 yr3 yr4 yr5
  have Bs9 := hide (Bs1.out.below hbc Bs1.out.lt)
  obtain ⟨ys0, ys1, ys2, ys3, ys4, ys5⟩ := Bs9.out.six
  obtain ⟨hsz0, hgB, hgX, hcf, hcl⟩ := hof.cells
  clear hsz0
  have hcl2 : ∀ i, i < tf.size → X.cell? ⟨g, i, none⟩ = some (.int .u8 ((byt (bys tf) i : Nat) : Int)) := fun i hi => by
    have hl := bys_len tf
    rw [hcl i (by rw [List.length_map, hl]; exact hi)]
    unfold byt
    simp [show i < (bys tf).length by omega]
  have hm0 : moveA (bys ti) (bys tf) 0 = bys ti := by unfold moveA; simp
  have OB0 : Hid (Ob w1.heap.size X (.slice (some ⟨g0, 0, none⟩) ti.size c0) ((moveA (bys ti) (bys tf) 0).map UInt8.toNat)) := by rw [hm0]; exact hob
  have CL0 := hide hcl2
  have NE0 := hide hne
  have BC0 := hide hbc
  have GX := hide (And.intro hgB hgX)
  have BRK := hide (fun (w2 : World) (hb : Below w1.heap.size w1 w2) => Br1.out.below hb Br1.out.lt)
  have LRK := hide Br1.out.lt
  have HBK := hide (fun (w2 : World) (hb : Below w1.heap.size w1 w2) => HB1.out.trans (hb.mono HB1.out.size))
  clear hob hof hne hbc hgB hgX hcl hcl2 hm0 HSW cva cvb Bs1 Br1 HB1 
  go_wp2
  clear ys0 ys1 ys2 ys3 ys4 ys5 Bs9
  go_loopw [4, 5, 7] (fun a b i wr => ∃ j o : Nat, j ≤ 0 ∧ Hid (Ob w1.heap.size wr a ((moveA (bys ti) (bys tf) j).map UInt8.toNat)) ∧ b = .slice (some ⟨g, o, none⟩) (tf.size - min j tf.size) (cf - min j tf.size) ∧ (j < tf.size → o = j) ∧ i = .int .i64 (j : Int) ∧ Hid (a.ownBlock ≠ some g) ∧ Hid (Below w1.heap.size w1 wr) ∧ Hid (∀ i, i < tf.size → wr.cell? ⟨g, i, none⟩ = some (.int .u8 ((byt (bys tf) i : Nat) : Int))) ∧ Hid (g < wr.heap.size)) (fun _ _ i _ => 0 - (intOf i).toNat)
  case atStart => exact ⟨0, 0, Nat.zero_le _, OB0, by simp, fun _ => rfl, rfl, NE0, BC0, CL0, GX.out.2⟩
  case round =>
    clear OB0 NE0 BC0 CL0
    obtain ⟨j, o, hj, hob, rfl, ho, rfl, hne, hbw, hcl, hgl⟩ := hrel
    obtain rfl : j = 0 := by omega
    obtain ⟨ga, ca, hva⟩ : ∃ ga ca, u4 = Value.slice (some ⟨ga, 0, none⟩) (moveA (bys ti) (bys tf) 0).length ca := by
      obtain ⟨ga, ca, cur, fz, e, _⟩ := hob.out
      exact ⟨ga, ca, by rw [e, List.length_map]⟩
    subst hva
    obtain ⟨hsz1, hgaB, hgaX, hsz2, hac⟩ := hob.out.cells
    clear hsz1 hsz2
    obtain ⟨lf, hlf⟩ : ∃ lf, lf = (bys tf).drop 0 := ⟨_, rfl⟩
    have hll : lf.length = tf.size - min 0 tf.size := by rw [hlf, List.length_drop, bys_len]; omega
    rw [← hll]
    have hfc : ∀ i, i < lf.length → wr.cell? ⟨g, o + i, none⟩ = some (.int .u8 ((byt lf i : Nat) : Int)) := fun i hi => by
      have hJ : 0 < tf.size := by omega
      rw [ho hJ, hcl.out _ (by omega), hlf, byt_drop]
    have CV : Hid (CvS ga g o (moveA (bys ti) (bys tf) 0) lf wr) := ⟨fun i hi => by
      rw [hac i (by rw [List.length_map]; exact hi)]
      unfold byt
      simp [hi], hfc⟩
    have FC := hide hfc
    have hls : lf.length ≤ 4096 := by omega
    obtain ⟨A, hA⟩ : ∃ A, A = moveA (bys ti) (bys tf) 0 := ⟨_, rfl⟩
    rw [← hA] at CV ⊢
    obtain ⟨off, hoff⟩ : ∃ off, off = o := ⟨_, rfl⟩
    rw [← hoff] at CV FC ⊢
    obtain ⟨cf2, hcf2⟩ : ∃ c, c = cf - min 0 tf.size := ⟨_, rfl⟩
    rw [← hcf2]
    have hcl2 : lf.length ≤ cf2 := by omega
    have NGA : Hid (¬ w.heap.size + 1 = ga ∧ ¬ w.heap.size + 1 = g) := by have h1 := LRK.out; have h2 := GX.out.1; exact ⟨by omega, by omega⟩
    have HOP := hide (fun (q : Nat) (hq : shortN lf = q) => oper_is (n := n) (ti := ti) (tf := tf) (x := x) (cm := false) (j := 0) (A := A) (lf := lf) (rfl) hA hlf hq)
    clear hob hac hcl hfc hne hgl hgaB hgaX hA hlf hll hoff hcf2 GX hj ho
    go_wp2
    go_loop [8] (fun v => ∃ q : Nat, q ≤ lf.length ∧ v = .int .i64 (q : Int) ∧ Hid (shortK lf q = shortN lf)) (fun v => (intOf v).toNat)
    case atStart => exact ⟨lf.length, Nat.le_refl _, rfl, rfl⟩
    case round =>
      obtain ⟨q, hq, rfl, hsk⟩ := hrel
      by_cases hstop : q ≠ 0 ∧ byt lf (q - 1) = 48
      · obtain ⟨hq0, hb⟩ := hstop
        obtain ⟨p, rfl⟩ : ∃ p, q = p + 1 := ⟨q - 1, by omega⟩
        have c0 := FC.out p (by omega)
        rw [show p + 1 - 1 = p from rfl] at hb
        rw [hb] at c0
        have HSK : Hid (shortK lf p = shortN lf) := by
          have h := hsk.out
          unfold shortK at h
          rw [if_pos hb] at h
          exact h
        have hpos : (0 : Int) < ((p + 1 : Nat) : Int) := by omega
        have hpl : (p : Int) < (lf.length : Int) := by omega
        clear hsk hb hq0
        go_wp2
        go_round
        case rel => exact ⟨p, by omega, by go_num, HSK⟩
        case measure => simp [intOf]
      · have hsn : shortN lf = q := by
          have h1 := shortK_self (l := lf) (k := q) (by
            by_cases h0 : q = 0
            · exact .inl h0
            · exact .inr fun e => hstop ⟨h0, e⟩)
          rw [h1] at hsk
          exact hsk.out.symm
        have hex : q = 0 ∨ ∃ p b : Nat, q = p + 1 ∧ ¬ b = 48 ∧ b < 256 ∧ wr.cell? ⟨g, off + p, none⟩ = some (.int .u8 (b : Int)) := by
          by_cases h0 : q = 0
          · exact .inl h0
          · refine .inr ⟨q - 1, byt lf (q - 1), by omega, fun e => hstop ⟨h0, e⟩, byt_lt _ _, FC.out _ (by omega)⟩
        have HSN := hide hsn
        clear hstop hsk hsn FC
        have HBW := hide (HBK.out _ hbw.out)
        have CVD : Hid (CvS ga g off A lf wr.drew) := CV.out.set NGA.out.1 NGA.out.2 (fun _ _ => rfl)
        have CVP : Hid (∀ y0 y1 y2 y3 y4 y5, CvS ga g off A lf ((((((wr.setCell ⟨w.heap.size + 1, 0, none⟩ y0).setCell ⟨w.heap.size + 1, 1, none⟩ y1).setCell ⟨w.heap.size + 1, 2, none⟩ y2).setCell ⟨w.heap.size + 1, 3, none⟩ y3).setCell ⟨w.heap.size + 1, 4, none⟩ y4).setCell ⟨w.heap.size + 1, 5, none⟩ y5).drew) := fun y0 y1 y2 y3 y4 y5 => CV.out.set NGA.out.1 NGA.out.2 (fun b hb => put6_drew wr _ _ _ _ _ _ _ b hb)
        have KV := hide (fun (w' : World) (h : CvS ga g off A lf w') => h.conv (ca := ca) (cf := cf2) hq)
        have BRW := hide (BRK.out _ hbw.out)
        obtain ⟨yr0, yr1, yr2, yr3, yr4, yr5⟩ := BRW.out.six
        have fr0 := BRW.out.free 0
        have fr1 := BRW.out.free 1
        have fr2 := BRW.out.free 2
        have fr3 := BRW.out.free 3
        have fr4 := BRW.out.free 4
        have fr5 := BRW.out.free 5
        have hql : (q : Int) ≤ (cf2 : Int) := by omega
        have hql2 : (q : Int) ≤ (lf.length : Int) := by omega
        clear NGA CV BRK HBK hbw
        have TAIL : True := trivial
        rcases hex with rfl | ⟨p, b, rfl, hb1, hb2, c0⟩
        · go_upto_region 16 with (fail)
          refine wp_region_held_drew (S := CvS ga g off A lf) (by kernel_rfl) ?_ (fun hHeld => ?_)
          · exact CVD.out
          refine wpAnyH_take (i := 0) (oi := Oper.mk (some 70) _ _ _ _ _) (v := .slice (some ⟨ga, 0, none⟩) A.length ca) rfl (by kernel_rfl) (by kernel_rfl) (by kernel_rfl) (fun _ _ _ h => h) (Or.inl ⟨by rfl, ?_⟩) (by assumption) ?_
          · intro wX hSw
            (try dsimp only at hSw)
            clear hSw
            go_simp
          simp only [Act.put, List.setIfInBounds_toArray, List.set_cons_succ, List.set_cons_zero]
          refine wpAnyH_take (i := 1) (oi := Oper.mk (some 71) _ _ _ _ _) (v := .string ⟨A.toArray⟩) rfl (by kernel_rfl) (by kernel_rfl) (by kernel_rfl) (fun _ _ _ h => h) (Or.inl ⟨by rfl, ?_⟩) (by assumption) ?_
          · intro wX hSw
            (try dsimp only at hSw)
            obtain ⟨kc1, kc2, kc3⟩ := KV.out wX hSw
            clear hSw
            go_simp
          simp only [Act.put, List.setIfInBounds_toArray, List.set_cons_succ, List.set_cons_zero]
          refine wpAnyH_take (i := 3) (oi := Oper.mk (some 73) _ _ _ _ _) (v := .slice (some ⟨g, off, none⟩) lf.length cf2) rfl (by kernel_rfl) (by kernel_rfl) (by kernel_rfl) (fun _ _ _ h => h) (Or.inl ⟨by rfl, ?_⟩) (by assumption) ?_
          · intro wX hSw
            (try dsimp only at hSw)
            clear hSw
            go_simp
          simp only [Act.put, List.setIfInBounds_toArray, List.set_cons_succ, List.set_cons_zero]
          refine wpAnyH_take (i := 4) (oi := Oper.mk (some 74) _ _ _ _ _) (v := .int .i64 (lf.length : Int)) rfl (by kernel_rfl) (by kernel_rfl) (by kernel_rfl) (fun _ _ _ h => h) (Or.inl ⟨by rfl, ?_⟩) (by assumption) ?_
          · intro wX hSw
            (try dsimp only at hSw)
            clear hSw
            go_simp
          simp only [Act.put, List.setIfInBounds_toArray, List.set_cons_succ, List.set_cons_zero]
          refine wpAnyH_take (i := 5) (oi := Oper.mk (some 75) _ _ _ _ _) (v := .int .i64 0) rfl (by kernel_rfl) (by kernel_rfl) (by kernel_rfl) (fun _ _ _ h => h) (Or.inl ⟨by rfl, ?_⟩) (by assumption) ?_
          · intro wX hSw
            (try dsimp only at hSw)
            clear hSw
            go_simp
          simp only [Act.put, List.setIfInBounds_toArray, List.set_cons_succ, List.set_cons_zero]
          refine wpAnyH_take (i := 6) (oi := Oper.mk (some 76) _ _ _ _ _) (v := .slice (some ⟨g, off, none⟩) lf.length cf2) rfl (by kernel_rfl) (by kernel_rfl) (by kernel_rfl) (fun _ _ _ h => h) (Or.inl ⟨by rfl, ?_⟩) (by assumption) ?_
          · intro wX hSw
            (try dsimp only at hSw)
            clear hSw
            go_simp
          simp only [Act.put, List.setIfInBounds_toArray, List.set_cons_succ, List.set_cons_zero]
          refine wpAnyH_take (i := 7) (oi := Oper.mk (some 77) _ _ _ _ _) (v := .string ⟨lf.toArray⟩) rfl (by kernel_rfl) (by kernel_rfl) (by kernel_rfl) (fun _ _ _ h => h) (Or.inl ⟨by rfl, ?_⟩) (by assumption) ?_
          · intro wX hSw
            (try dsimp only at hSw)
            obtain ⟨kc1, kc2, kc3⟩ := KV.out wX hSw
            clear hSw
            go_simp
          simp only [Act.put, List.setIfInBounds_toArray, List.set_cons_succ, List.set_cons_zero]
          refine wpAnyH_take (i := 9) (oi := Oper.mk (some 79) _ _ _ _ _) (v := .slice (some ⟨g, off, none⟩) lf.length cf2) rfl (by kernel_rfl) (by kernel_rfl) (by kernel_rfl) (fun _ _ _ h => h) (Or.inl ⟨by rfl, ?_⟩) (by assumption) ?_
          · intro wX hSw
            (try dsimp only at hSw)
            clear hSw
            go_simp
          simp only [Act.put, List.setIfInBounds_toArray, List.set_cons_succ, List.set_cons_zero]
          refine wpAnyH_take (i := 10) (oi := Oper.mk (some 80) _ _ _ _ _) (v := .int .i64 0) rfl (by kernel_rfl) (by kernel_rfl) (by kernel_rfl) (fun _ _ _ h => h) (Or.inl ⟨by rfl, ?_⟩) (by assumption) ?_
          · intro wX hSw
            (try dsimp only at hSw)
            clear hSw
            go_simp
          simp only [Act.put, List.setIfInBounds_toArray, List.set_cons_succ, List.set_cons_zero]
          refine wpAnyH_take (i := 11) (oi := Oper.mk (some 81) _ _ _ _ _) (v := .slice (some ⟨g, off, none⟩) 0 cf2) rfl (by kernel_rfl) (by kernel_rfl) (by kernel_rfl) (fun _ _ _ h => h) (Or.inl ⟨by rfl, ?_⟩) (by assumption) ?_
          · intro wX hSw
            (try dsimp only at hSw)
            clear hSw
            go_simp
          simp only [Act.put, List.setIfInBounds_toArray, List.set_cons_succ, List.set_cons_zero]
          refine wpAnyH_take (i := 12) (oi := Oper.mk (some 82) _ _ _ _ _) (v := .string ⟨(lf.take 0).toArray⟩) rfl (by kernel_rfl) (by kernel_rfl) (by kernel_rfl) (fun _ _ _ h => h) (Or.inl ⟨by rfl, ?_⟩) (by assumption) ?_
          · intro wX hSw
            (try dsimp only at hSw)
            obtain ⟨kc1, kc2, kc3⟩ := KV.out wX hSw
            clear hSw
            go_simp
          simp only [Act.put, List.setIfInBounds_toArray, List.set_cons_succ, List.set_cons_zero]
          refine wpAnyH_take (i := 14) (oi := Oper.mk (some 84) _ _ _ _ _) (v := .int .i64 0) rfl (by kernel_rfl) (by kernel_rfl) (by kernel_rfl) (fun _ _ _ h => h) (Or.inl ⟨by rfl, ?_⟩) (by assumption) ?_
          · intro wX hSw
            (try dsimp only at hSw)
            clear hSw
            go_simp
          simp only [Act.put, List.setIfInBounds_toArray, List.set_cons_succ, List.set_cons_zero]
          refine wpAnyH_ready (rs := [2]) (by kernel_rfl) (by simp) ?_
          refine AllReadyH.cons (o := Oper.mk (some 72) _ _ _ _ _) rfl (fun K hK => ?_) AllReadyH.nil
          go_simp
          refine (rahead_any ⟨A.toArray⟩ _).mono ?_
          rintro e u ⟨he, rfl⟩
          rw [bys_mk (A)] at he
          subst he
          refine hK.out _ _ ?_ (fun hHeld => ?_)
          · exact CVD.out
          clear hK K
          refine wpAnyH_ready (rs := [8]) (by kernel_rfl) (by simp) ?_
          refine AllReadyH.cons (o := Oper.mk (some 78) _ _ _ _ _) rfl (fun K hK => ?_) AllReadyH.nil
          go_simp
          refine (rahead_any ⟨lf.toArray⟩ _).mono ?_
          rintro e u ⟨he, rfl⟩
          rw [bys_mk (lf)] at he
          subst he
          refine hK.out _ _ ?_ (fun hHeld => ?_)
          · exact CVD.out
          clear hK K
          refine wpAnyH_ready (rs := [13]) (by kernel_rfl) (by simp) ?_
          refine AllReadyH.cons (o := Oper.mk (some 83) _ _ _ _ _) rfl (fun K hK => ?_) AllReadyH.nil
          go_simp
          refine (rahead_any ⟨(lf.take 0).toArray⟩ _).mono ?_
          rintro e u ⟨he, rfl⟩
          rw [bys_mk (lf.take 0)] at he
          subst he
          refine hK.out _ _ ?_ (fun hHeld => ?_)
          · exact CVD.out
          clear hK K
          refine wpAnyH_take (i := 15) (oi := Oper.mk (some 85) _ _ _ _ _) (v := .agg #[.string ⟨(numO A).toArray⟩, .int .i64 (lf.length : Int), .int .i64 0, .string ⟨(numO lf).toArray⟩, .string ⟨(numO (lf.take 0)).toArray⟩, .int .i64 0]) rfl (by kernel_rfl) (by kernel_rfl) (by kernel_rfl) (fun _ _ _ h => h) (Or.inl ⟨by rfl, ?_⟩) (by assumption) ?_
          · intro wX hSw
            (try dsimp only at hSw)
            clear hSw
            go_simp
          simp only [Act.put, List.setIfInBounds_toArray, List.set_cons_succ, List.set_cons_zero]
          refine wpAnyH_ready (rs := [16]) (by kernel_rfl) (by simp) ?_
          refine AllReadyH.cons (o := Oper.mk none _ _ _ _ _) rfl (fun K hK => ?_) AllReadyH.nil
          go_simp
          refine hK.out _ _ ?_ (fun hHeld => ?_)
          · exact CVP.out _ _ _ _ _ _
          clear hK K
          refine wpAnyH_take (i := 17) (oi := Oper.mk (some 3) _ _ _ _ _) (v := .int .i64 0) rfl (by kernel_rfl) (by kernel_rfl) (by kernel_rfl) (fun _ _ _ h => h) (Or.inl ⟨by rfl, ?_⟩) (by assumption) ?_
          · intro wX hSw
            (try dsimp only at hSw)
            clear hSw
            go_simp
          simp only [Act.put, List.setIfInBounds_toArray, List.set_cons_succ, List.set_cons_zero]
          refine wpAnyH_done (by kernel_rfl) ?_ _
          go_wp2
          refine bodyPost_ret (results_opr2 rfl _ _ _ _ _ _ _ _ _ rfl (BRW.out.put6 _ _ _ _ _ _).drawn) rfl ?_
          exact ⟨by rw [HOP.out _ HSN.out]; rfl, (below_put6 HBW.out (by omega) _ _ _ _ _ _).drew⟩
        · have hpos : (0 : Int) < ((p + 1 : Nat) : Int) := by omega
          have hpl : (p : Int) < (lf.length : Int) := by omega
          have hbn : ¬ (b : Int) = 48 := by omega
          have hbe : ((b : Int) == 48) = false := beq_false_of_ne hbn
          have hq3 : ¬ (cf2 : Int) < (p : Int) + 1 := by omega
          have hq4 : (0 : Int) ≤ (p : Int) + 1 := by omega
          go_upto_region 16 with (fail)
          refine wp_region_held_drew (S := CvS ga g off A lf) (by kernel_rfl) ?_ (fun hHeld => ?_)
          · exact CVD.out
          refine wpAnyH_take (i := 0) (oi := Oper.mk (some 70) _ _ _ _ _) (v := .slice (some ⟨ga, 0, none⟩) A.length ca) rfl (by kernel_rfl) (by kernel_rfl) (by kernel_rfl) (fun _ _ _ h => h) (Or.inl ⟨by rfl, ?_⟩) (by assumption) ?_
          · intro wX hSw
            (try dsimp only at hSw)
            clear hSw
            go_simp
          simp only [Act.put, List.setIfInBounds_toArray, List.set_cons_succ, List.set_cons_zero]
          refine wpAnyH_take (i := 1) (oi := Oper.mk (some 71) _ _ _ _ _) (v := .string ⟨A.toArray⟩) rfl (by kernel_rfl) (by kernel_rfl) (by kernel_rfl) (fun _ _ _ h => h) (Or.inl ⟨by rfl, ?_⟩) (by assumption) ?_
          · intro wX hSw
            (try dsimp only at hSw)
            obtain ⟨kc1, kc2, kc3⟩ := KV.out wX hSw
            clear hSw
            go_simp
          simp only [Act.put, List.setIfInBounds_toArray, List.set_cons_succ, List.set_cons_zero]
          refine wpAnyH_take (i := 3) (oi := Oper.mk (some 73) _ _ _ _ _) (v := .slice (some ⟨g, off, none⟩) lf.length cf2) rfl (by kernel_rfl) (by kernel_rfl) (by kernel_rfl) (fun _ _ _ h => h) (Or.inl ⟨by rfl, ?_⟩) (by assumption) ?_
          · intro wX hSw
            (try dsimp only at hSw)
            clear hSw
            go_simp
          simp only [Act.put, List.setIfInBounds_toArray, List.set_cons_succ, List.set_cons_zero]
          refine wpAnyH_take (i := 4) (oi := Oper.mk (some 74) _ _ _ _ _) (v := .int .i64 (lf.length : Int)) rfl (by kernel_rfl) (by kernel_rfl) (by kernel_rfl) (fun _ _ _ h => h) (Or.inl ⟨by rfl, ?_⟩) (by assumption) ?_
          · intro wX hSw
            (try dsimp only at hSw)
            clear hSw
            go_simp
          simp only [Act.put, List.setIfInBounds_toArray, List.set_cons_succ, List.set_cons_zero]
          refine wpAnyH_take (i := 5) (oi := Oper.mk (some 75) _ _ _ _ _) (v := .int .i64 (((p + 1) : Nat) : Int)) rfl (by kernel_rfl) (by kernel_rfl) (by kernel_rfl) (fun _ _ _ h => h) (Or.inl ⟨by rfl, ?_⟩) (by assumption) ?_
          · intro wX hSw
            (try dsimp only at hSw)
            clear hSw
            go_simp
          simp only [Act.put, List.setIfInBounds_toArray, List.set_cons_succ, List.set_cons_zero]
          refine wpAnyH_take (i := 6) (oi := Oper.mk (some 76) _ _ _ _ _) (v := .slice (some ⟨g, off, none⟩) lf.length cf2) rfl (by kernel_rfl) (by kernel_rfl) (by kernel_rfl) (fun _ _ _ h => h) (Or.inl ⟨by rfl, ?_⟩) (by assumption) ?_
          · intro wX hSw
            (try dsimp only at hSw)
            clear hSw
            go_simp
          simp only [Act.put, List.setIfInBounds_toArray, List.set_cons_succ, List.set_cons_zero]
          refine wpAnyH_take (i := 7) (oi := Oper.mk (some 77) _ _ _ _ _) (v := .string ⟨lf.toArray⟩) rfl (by kernel_rfl) (by kernel_rfl) (by kernel_rfl) (fun _ _ _ h => h) (Or.inl ⟨by rfl, ?_⟩) (by assumption) ?_
          · intro wX hSw
            (try dsimp only at hSw)
            obtain ⟨kc1, kc2, kc3⟩ := KV.out wX hSw
            clear hSw
            go_simp
          simp only [Act.put, List.setIfInBounds_toArray, List.set_cons_succ, List.set_cons_zero]
          refine wpAnyH_take (i := 9) (oi := Oper.mk (some 79) _ _ _ _ _) (v := .slice (some ⟨g, off, none⟩) lf.length cf2) rfl (by kernel_rfl) (by kernel_rfl) (by kernel_rfl) (fun _ _ _ h => h) (Or.inl ⟨by rfl, ?_⟩) (by assumption) ?_
          · intro wX hSw
            (try dsimp only at hSw)
            clear hSw
            go_simp
          simp only [Act.put, List.setIfInBounds_toArray, List.set_cons_succ, List.set_cons_zero]
          refine wpAnyH_take (i := 10) (oi := Oper.mk (some 80) _ _ _ _ _) (v := .int .i64 (((p + 1) : Nat) : Int)) rfl (by kernel_rfl) (by kernel_rfl) (by kernel_rfl) (fun _ _ _ h => h) (Or.inl ⟨by rfl, ?_⟩) (by assumption) ?_
          · intro wX hSw
            (try dsimp only at hSw)
            clear hSw
            go_simp
          simp only [Act.put, List.setIfInBounds_toArray, List.set_cons_succ, List.set_cons_zero]
          refine wpAnyH_take (i := 11) (oi := Oper.mk (some 81) _ _ _ _ _) (v := .slice (some ⟨g, off, none⟩) (p + 1) cf2) rfl (by kernel_rfl) (by kernel_rfl) (by kernel_rfl) (fun _ _ _ h => h) (Or.inl ⟨by rfl, ?_⟩) (by assumption) ?_
          · intro wX hSw
            (try dsimp only at hSw)
            clear hSw
            go_simp
          simp only [Act.put, List.setIfInBounds_toArray, List.set_cons_succ, List.set_cons_zero]
          refine wpAnyH_take (i := 12) (oi := Oper.mk (some 82) _ _ _ _ _) (v := .string ⟨(lf.take (p + 1)).toArray⟩) rfl (by kernel_rfl) (by kernel_rfl) (by kernel_rfl) (fun _ _ _ h => h) (Or.inl ⟨by rfl, ?_⟩) (by assumption) ?_
          · intro wX hSw
            (try dsimp only at hSw)
            obtain ⟨kc1, kc2, kc3⟩ := KV.out wX hSw
            clear hSw
            go_simp
          simp only [Act.put, List.setIfInBounds_toArray, List.set_cons_succ, List.set_cons_zero]
          refine wpAnyH_take (i := 14) (oi := Oper.mk (some 84) _ _ _ _ _) (v := .int .i64 0) rfl (by kernel_rfl) (by kernel_rfl) (by kernel_rfl) (fun _ _ _ h => h) (Or.inl ⟨by rfl, ?_⟩) (by assumption) ?_
          · intro wX hSw
            (try dsimp only at hSw)
            clear hSw
            go_simp
          simp only [Act.put, List.setIfInBounds_toArray, List.set_cons_succ, List.set_cons_zero]
          refine wpAnyH_ready (rs := [2]) (by kernel_rfl) (by simp) ?_
          refine AllReadyH.cons (o := Oper.mk (some 72) _ _ _ _ _) rfl (fun K hK => ?_) AllReadyH.nil
          go_simp
          refine (rahead_any ⟨A.toArray⟩ _).mono ?_
          rintro e u ⟨he, rfl⟩
          rw [bys_mk (A)] at he
          subst he
          refine hK.out _ _ ?_ (fun hHeld => ?_)
          · exact CVD.out
          clear hK K
          refine wpAnyH_ready (rs := [8]) (by kernel_rfl) (by simp) ?_
          refine AllReadyH.cons (o := Oper.mk (some 78) _ _ _ _ _) rfl (fun K hK => ?_) AllReadyH.nil
          go_simp
          refine (rahead_any ⟨lf.toArray⟩ _).mono ?_
          rintro e u ⟨he, rfl⟩
          rw [bys_mk (lf)] at he
          subst he
          refine hK.out _ _ ?_ (fun hHeld => ?_)
          · exact CVD.out
          clear hK K
          refine wpAnyH_ready (rs := [13]) (by kernel_rfl) (by simp) ?_
          refine AllReadyH.cons (o := Oper.mk (some 83) _ _ _ _ _) rfl (fun K hK => ?_) AllReadyH.nil
          go_simp
          refine (rahead_any ⟨(lf.take (p + 1)).toArray⟩ _).mono ?_
          rintro e u ⟨he, rfl⟩
          rw [bys_mk (lf.take (p + 1))] at he
          subst he
          refine hK.out _ _ ?_ (fun hHeld => ?_)
          · exact CVD.out
          clear hK K
          refine wpAnyH_take (i := 15) (oi := Oper.mk (some 85) _ _ _ _ _) (v := .agg #[.string ⟨(numO A).toArray⟩, .int .i64 (lf.length : Int), .int .i64 (((p + 1) : Nat) : Int), .string ⟨(numO lf).toArray⟩, .string ⟨(numO (lf.take (p + 1))).toArray⟩, .int .i64 0]) rfl (by kernel_rfl) (by kernel_rfl) (by kernel_rfl) (fun _ _ _ h => h) (Or.inl ⟨by rfl, ?_⟩) (by assumption) ?_
          · intro wX hSw
            (try dsimp only at hSw)
            clear hSw
            go_simp
          simp only [Act.put, List.setIfInBounds_toArray, List.set_cons_succ, List.set_cons_zero]
          refine wpAnyH_ready (rs := [16]) (by kernel_rfl) (by simp) ?_
          refine AllReadyH.cons (o := Oper.mk none _ _ _ _ _) rfl (fun K hK => ?_) AllReadyH.nil
          go_simp
          refine hK.out _ _ ?_ (fun hHeld => ?_)
          · exact CVP.out _ _ _ _ _ _
          clear hK K
          refine wpAnyH_take (i := 17) (oi := Oper.mk (some 3) _ _ _ _ _) (v := .int .i64 0) rfl (by kernel_rfl) (by kernel_rfl) (by kernel_rfl) (fun _ _ _ h => h) (Or.inl ⟨by rfl, ?_⟩) (by assumption) ?_
          · intro wX hSw
            (try dsimp only at hSw)
            clear hSw
            go_simp
          simp only [Act.put, List.setIfInBounds_toArray, List.set_cons_succ, List.set_cons_zero]
          refine wpAnyH_done (by kernel_rfl) ?_ _
          go_wp2
          refine bodyPost_ret (results_opr2 rfl _ _ _ _ _ _ _ _ _ rfl (BRW.out.put6 _ _ _ _ _ _).drawn) rfl ?_
          exact ⟨by rw [HOP.out _ HSN.out]; rfl, (below_put6 HBW.out (by omega) _ _ _ _ _ _).drew⟩

end Go.Proofs.YtobloamnaemfnaaGreatDoor
