/-
  What quipuref07's May does.
  Plain mathematics: limbs of 64 bits as digits of 16 bits, and back.
  What the reference's In does: limbs, as digits of 16 bits.
-/
import Derived.Test.YtobloamnaemfnaaGreatDoorUB13
import Derived.Test.YtobloamnaemfnaaGreatDoorUB2
import Derived.Test.YtobloamnaemfnaaGreatDoorUB6
import Derived.Test.YtobloamnaemfnaaGreatDoorURTrim
import Derived.Test.YtobloamnaemfnaaGreatDoorUUint
import Derived.Laws.Bits64b
namespace Go.Proofs.YtobloamnaemfnaaGreatDoor
open Go.RowKit

set_option maxHeartbeats 1000000 in
theorem rmayS_xl (c : Int) (n : Bool) (ti tf : ByteArray) (x : Int) (cm : Bool) (w : World) (h : x < -2001) : Calls Tryz.prog 45 #[shV c n ti tf x cm] w fun e w' => e = .returned (.bool false) ∧ Below w.heap.size w w' := by
  have h2 : decide (x < -2001) = true := decide_eq_true h
  have Bs0 := hide (Blk.newAt w (w.heap.size) (rfl) #[.int .i64 c, .bool n, .string ti, .string tf, .int .i64 x, .bool cm] 34)
  have HB0 : Hid (Below w.heap.size w (w.alloc (.cells #[.int .i64 c, .bool n, .string ti, .string tf, .int .i64 x, .bool cm] 34))) := ((Below.refl _ _).alloc (Nat.le_refl _) _)
  go_enter Tryz.func45, Tryz.ntmps45
  go_wp2
  go_ret
  exact ⟨rfl, HB0.out⟩

set_option maxHeartbeats 1000000 in
theorem rmayS_xh (c : Int) (n : Bool) (ti tf : ByteArray) (x : Int) (cm : Bool) (w : World) (h : 2001 < x) : Calls Tryz.prog 45 #[shV c n ti tf x cm] w fun e w' => e = .returned (.bool false) ∧ Below w.heap.size w w' := by
  have h2 : decide (x < -2001) = false := decide_eq_false (by omega)
  have h3 : decide (2001 < x) = true := decide_eq_true h
  have Bs0 := hide (Blk.newAt w (w.heap.size) (rfl) #[.int .i64 c, .bool n, .string ti, .string tf, .int .i64 x, .bool cm] 34)
  have HB0 : Hid (Below w.heap.size w (w.alloc (.cells #[.int .i64 c, .bool n, .string ti, .string tf, .int .i64 x, .bool cm] 34))) := ((Below.refl _ _).alloc (Nat.le_refl _) _)
  go_enter Tryz.func45, Tryz.ntmps45
  go_wp2
  go_ret
  exact ⟨rfl, HB0.out⟩

set_option maxHeartbeats 1000000 in
theorem rmayS_0a (n : Bool) (ti tf : ByteArray) (x : Int) (cm : Bool) (w : World) (x1 : -2001 ≤ x) (x2 : x ≤ 2001) (b1 : ti.size ≤ 281474976710656) (g : ¬ ((bys ti).length ≤ 4096 ∧ DigB (bys ti))) : Calls Tryz.prog 45 #[shV 0 n ti tf x cm] w fun e w' => e = .returned (.bool false) ∧ Below w.heap.size w w' := by
  have C0 := hide (fun W => rdig_F ti W b1 g)
  have x3 : ¬ x < -2001 := by omega
  have x4 : ¬ 2001 < x := by omega
  have x5 : decide (x < -2001) = false := decide_eq_false x3
  have x6 : decide (2001 < x) = false := decide_eq_false x4
  clear x1 x2 x3 x4
  clear g b1
  have Bs0 := hide (Blk.newAt w (w.heap.size) (rfl) #[.int .i64 0, .bool n, .string ti, .string tf, .int .i64 x, .bool cm] 34)
  have HB0 : Hid (Below w.heap.size w (w.alloc (.cells #[.int .i64 0, .bool n, .string ti, .string tf, .int .i64 x, .bool cm] 34))) := ((Below.refl _ _).alloc (Nat.le_refl _) _)
  go_enter Tryz.func45, Tryz.ntmps45
  go_wp2_with fail
  refine (C0.out _).mono ?_
  rintro e w1 ⟨rfl, hb⟩
  have Bs1 := Blk.on Bs0 hb
  have HB1 := hide (HB0.out.trans (hb.mono HB0.out.size))
  clear hb Bs0 HB0 
  obtain ⟨ys0, ys1, ys2, ys3, ys4, ys5⟩ := Bs1.out.six
  go_wp2
  go_ret
  exact ⟨rfl, HB1.out⟩

set_option maxHeartbeats 1000000 in
theorem rmayS_0b (n : Bool) (ti tf : ByteArray) (x : Int) (cm : Bool) (w : World) (x1 : -2001 ≤ x) (x2 : x ≤ 2001) (b1 : ti.size ≤ 281474976710656) (b2 : tf.size ≤ 281474976710656) (g : (bys ti).length ≤ 4096 ∧ DigB (bys ti)) (g2 : ¬ ((bys tf).length ≤ 4096 ∧ DigB (bys tf))) : Calls Tryz.prog 45 #[shV 0 n ti tf x cm] w fun e w' => e = .returned (.bool false) ∧ Below w.heap.size w w' := by
  have C0 := hide (fun W => rdig_T ti W b1 g)
  have C1 := hide (fun W => rdig_F tf W b2 g2)
  have x3 : ¬ x < -2001 := by omega
  have x4 : ¬ 2001 < x := by omega
  have x5 : decide (x < -2001) = false := decide_eq_false x3
  have x6 : decide (2001 < x) = false := decide_eq_false x4
  clear x1 x2 x3 x4
  clear g g2 b1 b2
  have Bs0 := hide (Blk.newAt w (w.heap.size) (rfl) #[.int .i64 0, .bool n, .string ti, .string tf, .int .i64 x, .bool cm] 34)
  have HB0 : Hid (Below w.heap.size w (w.alloc (.cells #[.int .i64 0, .bool n, .string ti, .string tf, .int .i64 x, .bool cm] 34))) := ((Below.refl _ _).alloc (Nat.le_refl _) _)
  go_enter Tryz.func45, Tryz.ntmps45
  go_wp2_with fail
  refine (C0.out _).mono ?_
  rintro e w1 ⟨rfl, hb⟩
  have Bs1 := Blk.on Bs0 hb
  have HB1 := hide (HB0.out.trans (hb.mono HB0.out.size))
  clear hb Bs0 HB0 
  obtain ⟨ys0, ys1, ys2, ys3, ys4, ys5⟩ := Bs1.out.six
  go_wp2_with fail
  refine (C1.out _).mono ?_
  rintro e w2 ⟨rfl, hb⟩
  have Bs2 := Blk.on Bs1 hb
  have HB2 := hide (HB1.out.trans (hb.mono HB1.out.size))
  clear hb Bs1 HB1 ys0 ys1 ys2 ys3 ys4 ys5
  obtain ⟨ys0, ys1, ys2, ys3, ys4, ys5⟩ := Bs2.out.six
  go_wp2
  go_ret
  exact ⟨rfl, HB2.out⟩

set_option maxHeartbeats 1000000 in
theorem rmayS_0z (n : Bool) (x : Int) (cm : Bool) (w : World) (x1 : -2001 ≤ x) (x2 : x ≤ 2001) : Calls Tryz.prog 45 #[shV 0 n ⟨#[]⟩ ⟨#[]⟩ x cm] w fun e w' => e = .returned (.bool false) ∧ Below w.heap.size w w' := by
  have C0 := hide (fun W => rdig_T ⟨#[]⟩ W (by decide) ⟨by decide, fun k hk => absurd hk (by simp [bys])⟩)
  have C1 := hide (fun W => rdig_T ⟨#[]⟩ W (by decide) ⟨by decide, fun k hk => absurd hk (by simp [bys])⟩)
  have x3 : ¬ x < -2001 := by omega
  have x4 : ¬ 2001 < x := by omega
  have x5 : decide (x < -2001) = false := decide_eq_false x3
  have x6 : decide (2001 < x) = false := decide_eq_false x4
  clear x1 x2 x3 x4
  have Bs0 := hide (Blk.newAt w (w.heap.size) (rfl) #[.int .i64 0, .bool n, .string ⟨#[]⟩, .string ⟨#[]⟩, .int .i64 x, .bool cm] 34)
  have HB0 : Hid (Below w.heap.size w (w.alloc (.cells #[.int .i64 0, .bool n, .string ⟨#[]⟩, .string ⟨#[]⟩, .int .i64 x, .bool cm] 34))) := ((Below.refl _ _).alloc (Nat.le_refl _) _)
  go_enter Tryz.func45, Tryz.ntmps45
  go_wp2_with fail
  refine (C0.out _).mono ?_
  rintro e w1 ⟨rfl, hb⟩
  have Bs1 := Blk.on Bs0 hb
  have HB1 := hide (HB0.out.trans (hb.mono HB0.out.size))
  clear hb Bs0 HB0 
  obtain ⟨ys0, ys1, ys2, ys3, ys4, ys5⟩ := Bs1.out.six
  go_wp2_with fail
  refine (C1.out _).mono ?_
  rintro e w2 ⟨rfl, hb⟩
  have Bs2 := Blk.on Bs1 hb
  have HB2 := hide (HB1.out.trans (hb.mono HB1.out.size))
  clear hb Bs1 HB1 ys0 ys1 ys2 ys3 ys4 ys5
  obtain ⟨ys0, ys1, ys2, ys3, ys4, ys5⟩ := Bs2.out.six
  go_wp2
  go_ret
  exact ⟨congrArg (fun b => Ending.returned (Value.bool b)) (show (!((⟨#[]⟩ : ByteArray) ++ ⟨#[]⟩).toList.isEmpty) = false by rw [show ((⟨#[]⟩ : ByteArray) ++ ⟨#[]⟩) = ⟨#[]⟩ from by rw [← mk_bys ((⟨#[]⟩ : ByteArray) ++ ⟨#[]⟩), bys_append]; rfl]; first | rfl | decide +kernel), HB2.out⟩

set_option maxHeartbeats 1000000 in
theorem rmayS_0t (n : Bool) (ti tf : ByteArray) (x : Int) (cm : Bool) (w : World) (x1 : -2001 ≤ x) (x2 : x ≤ 2001) (g : (bys ti).length ≤ 4096 ∧ DigB (bys ti)) (g2 : (bys tf).length ≤ 4096 ∧ DigB (bys tf)) (h : ti.size + tf.size ≠ 0) : Calls Tryz.prog 45 #[shV 0 n ti tf x cm] w fun e w' => e = .returned (.bool true) ∧ Below w.heap.size w w' := by
  have C0 := hide (fun W => rdig_T ti W (by have := g.1; rw [bys_len] at this; omega) g)
  have C1 := hide (fun W => rdig_T tf W (by have := g2.1; rw [bys_len] at this; omega) g2)
  have z1 : ti.size ≤ 4096 := by have := g.1; rwa [bys_len] at this
  have z2 : tf.size ≤ 4096 := by have := g2.1; rwa [bys_len] at this
  have hs : ¬ 9223372036854775807 < ti.size + tf.size := by omega
  have hn := toList_ne (t := ti ++ tf) (by rw [ByteArray.size_append]; exact h)
  have x3 : ¬ x < -2001 := by omega
  have x4 : ¬ 2001 < x := by omega
  have x5 : decide (x < -2001) = false := decide_eq_false x3
  have x6 : decide (2001 < x) = false := decide_eq_false x4
  clear x1 x2 x3 x4
  clear g g2 h z1 z2
  have Bs0 := hide (Blk.newAt w (w.heap.size) (rfl) #[.int .i64 0, .bool n, .string ti, .string tf, .int .i64 x, .bool cm] 34)
  have HB0 : Hid (Below w.heap.size w (w.alloc (.cells #[.int .i64 0, .bool n, .string ti, .string tf, .int .i64 x, .bool cm] 34))) := ((Below.refl _ _).alloc (Nat.le_refl _) _)
  go_enter Tryz.func45, Tryz.ntmps45
  go_wp2_with fail
  refine (C0.out _).mono ?_
  rintro e w1 ⟨rfl, hb⟩
  have Bs1 := Blk.on Bs0 hb
  have HB1 := hide (HB0.out.trans (hb.mono HB0.out.size))
  clear hb Bs0 HB0 
  obtain ⟨ys0, ys1, ys2, ys3, ys4, ys5⟩ := Bs1.out.six
  go_wp2_with fail
  refine (C1.out _).mono ?_
  rintro e w2 ⟨rfl, hb⟩
  have Bs2 := Blk.on Bs1 hb
  have HB2 := hide (HB1.out.trans (hb.mono HB1.out.size))
  clear hb Bs1 HB1 ys0 ys1 ys2 ys3 ys4 ys5
  obtain ⟨ys0, ys1, ys2, ys3, ys4, ys5⟩ := Bs2.out.six
  go_wp2
  go_ret
  exact ⟨rfl, HB2.out⟩

set_option maxHeartbeats 1000000 in
theorem rmayS_ni (c : Int) (n : Bool) (ti tf : ByteArray) (x : Int) (cm : Bool) (w : World) (x1 : -2001 ≤ x) (x2 : x ≤ 2001) (h0 : ¬ c = 0) (h : ti.size ≠ 0) : Calls Tryz.prog 45 #[shV c n ti tf x cm] w fun e w' => e = .returned (.bool false) ∧ Below w.heap.size w w' := by
  have x3 : ¬ x < -2001 := by omega
  have x4 : ¬ 2001 < x := by omega
  have x5 : decide (x < -2001) = false := decide_eq_false x3
  have x6 : decide (2001 < x) = false := decide_eq_false x4
  clear x1 x2 x3 x4
  have hn := toList_ne h
  clear h
  have Bs0 := hide (Blk.newAt w (w.heap.size) (rfl) #[.int .i64 c, .bool n, .string ti, .string tf, .int .i64 x, .bool cm] 34)
  have HB0 : Hid (Below w.heap.size w (w.alloc (.cells #[.int .i64 c, .bool n, .string ti, .string tf, .int .i64 x, .bool cm] 34))) := ((Below.refl _ _).alloc (Nat.le_refl _) _)
  go_enter Tryz.func45, Tryz.ntmps45
  go_wp2
  go_ret
  exact ⟨rfl, HB0.out⟩

set_option maxHeartbeats 1000000 in
theorem rmayS_nf (c : Int) (n : Bool) (tf : ByteArray) (x : Int) (cm : Bool) (w : World) (x1 : -2001 ≤ x) (x2 : x ≤ 2001) (h0 : ¬ c = 0) (h : tf.size ≠ 0) : Calls Tryz.prog 45 #[shV c n ⟨#[]⟩ tf x cm] w fun e w' => e = .returned (.bool false) ∧ Below w.heap.size w w' := by
  have x3 : ¬ x < -2001 := by omega
  have x4 : ¬ 2001 < x := by omega
  have x5 : decide (x < -2001) = false := decide_eq_false x3
  have x6 : decide (2001 < x) = false := decide_eq_false x4
  clear x1 x2 x3 x4
  have hn := toList_ne h
  clear h
  have Bs0 := hide (Blk.newAt w (w.heap.size) (rfl) #[.int .i64 c, .bool n, .string ⟨#[]⟩, .string tf, .int .i64 x, .bool cm] 34)
  have HB0 : Hid (Below w.heap.size w (w.alloc (.cells #[.int .i64 c, .bool n, .string ⟨#[]⟩, .string tf, .int .i64 x, .bool cm] 34))) := ((Below.refl _ _).alloc (Nat.le_refl _) _)
  go_enter Tryz.func45, Tryz.ntmps45
  go_wp2
  go_ret
  exact ⟨rfl, HB0.out⟩

set_option maxHeartbeats 1000000 in
theorem rmayS_1t (n : Bool) (x : Int) (cm : Bool) (w : World) (x1 : -2001 ≤ x) (x2 : x ≤ 2001) : Calls Tryz.prog 45 #[shV 1 n ⟨#[]⟩ ⟨#[]⟩ x cm] w fun e w' => e = .returned (.bool true) ∧ Below w.heap.size w w' := by
  have x3 : ¬ x < -2001 := by omega
  have x4 : ¬ 2001 < x := by omega
  have x5 : decide (x < -2001) = false := decide_eq_false x3
  have x6 : decide (2001 < x) = false := decide_eq_false x4
  clear x1 x2 x3 x4
  have Bs0 := hide (Blk.newAt w (w.heap.size) (rfl) #[.int .i64 1, .bool n, .string ⟨#[]⟩, .string ⟨#[]⟩, .int .i64 x, .bool cm] 34)
  have HB0 : Hid (Below w.heap.size w (w.alloc (.cells #[.int .i64 1, .bool n, .string ⟨#[]⟩, .string ⟨#[]⟩, .int .i64 x, .bool cm] 34))) := ((Below.refl _ _).alloc (Nat.le_refl _) _)
  go_enter Tryz.func45, Tryz.ntmps45
  go_wp2
  go_ret
  exact ⟨rfl, HB0.out⟩

set_option maxHeartbeats 1000000 in
theorem rmayS_2t (x : Int) (cm : Bool) (w : World) (x1 : -2001 ≤ x) (x2 : x ≤ 2001) : Calls Tryz.prog 45 #[shV 2 false ⟨#[]⟩ ⟨#[]⟩ x cm] w fun e w' => e = .returned (.bool true) ∧ Below w.heap.size w w' := by
  have x3 : ¬ x < -2001 := by omega
  have x4 : ¬ 2001 < x := by omega
  have x5 : decide (x < -2001) = false := decide_eq_false x3
  have x6 : decide (2001 < x) = false := decide_eq_false x4
  clear x1 x2 x3 x4
  have Bs0 := hide (Blk.newAt w (w.heap.size) (rfl) #[.int .i64 2, .bool false, .string ⟨#[]⟩, .string ⟨#[]⟩, .int .i64 x, .bool cm] 34)
  have HB0 : Hid (Below w.heap.size w (w.alloc (.cells #[.int .i64 2, .bool false, .string ⟨#[]⟩, .string ⟨#[]⟩, .int .i64 x, .bool cm] 34))) := ((Below.refl _ _).alloc (Nat.le_refl _) _)
  go_enter Tryz.func45, Tryz.ntmps45
  go_wp2
  go_ret
  exact ⟨rfl, HB0.out⟩

set_option maxHeartbeats 1000000 in
theorem rmayS_2n (x : Int) (cm : Bool) (w : World) (x1 : -2001 ≤ x) (x2 : x ≤ 2001) : Calls Tryz.prog 45 #[shV 2 true ⟨#[]⟩ ⟨#[]⟩ x cm] w fun e w' => e = .returned (.bool false) ∧ Below w.heap.size w w' := by
  have x3 : ¬ x < -2001 := by omega
  have x4 : ¬ 2001 < x := by omega
  have x5 : decide (x < -2001) = false := decide_eq_false x3
  have x6 : decide (2001 < x) = false := decide_eq_false x4
  clear x1 x2 x3 x4
  have Bs0 := hide (Blk.newAt w (w.heap.size) (rfl) #[.int .i64 2, .bool true, .string ⟨#[]⟩, .string ⟨#[]⟩, .int .i64 x, .bool cm] 34)
  have HB0 : Hid (Below w.heap.size w (w.alloc (.cells #[.int .i64 2, .bool true, .string ⟨#[]⟩, .string ⟨#[]⟩, .int .i64 x, .bool cm] 34))) := ((Below.refl _ _).alloc (Nat.le_refl _) _)
  go_enter Tryz.func45, Tryz.ntmps45
  go_wp2
  go_ret
  exact ⟨rfl, HB0.out⟩

set_option maxHeartbeats 1000000 in
theorem rmayS_3 (c : Int) (n : Bool) (x : Int) (cm : Bool) (w : World) (x1 : -2001 ≤ x) (x2 : x ≤ 2001) (h0 : ¬ c = 0) (h1 : ¬ c = 1) (h2 : ¬ c = 2) : Calls Tryz.prog 45 #[shV c n ⟨#[]⟩ ⟨#[]⟩ x cm] w fun e w' => e = .returned (.bool false) ∧ Below w.heap.size w w' := by
  have x3 : ¬ x < -2001 := by omega
  have x4 : ¬ 2001 < x := by omega
  have x5 : decide (x < -2001) = false := decide_eq_false x3
  have x6 : decide (2001 < x) = false := decide_eq_false x4
  clear x1 x2 x3 x4
  have Bs0 := hide (Blk.newAt w (w.heap.size) (rfl) #[.int .i64 c, .bool n, .string ⟨#[]⟩, .string ⟨#[]⟩, .int .i64 x, .bool cm] 34)
  have HB0 : Hid (Below w.heap.size w (w.alloc (.cells #[.int .i64 c, .bool n, .string ⟨#[]⟩, .string ⟨#[]⟩, .int .i64 x, .bool cm] 34))) := ((Below.refl _ _).alloc (Nat.le_refl _) _)
  go_enter Tryz.func45, Tryz.ntmps45
  go_wp2
  go_ret
  exact ⟨congrArg (fun b => Ending.returned (Value.bool b)) (show (c == 1) = false by simp; omega), HB0.out⟩

theorem rmayS_T (c : Int) (n : Bool) (ti tf : ByteArray) (x : Int) (cm : Bool) (w : World) (h : MayS ⟨c, n, bys ti, bys tf, x, cm⟩) : Calls Tryz.prog 45 #[shV c n ti tf x cm] w fun e w' => e = .returned (.bool true) ∧ Below w.heap.size w w' := by
  obtain ⟨⟨x1, x2⟩, h⟩ := h
  simp only at x1 x2
  rcases h with ⟨h1, h2, h3, h4⟩ | ⟨h1, h2, h3⟩ | ⟨h1, h2, h3, h4⟩
  · simp only at h1 h2 h3 h4
    subst h1
    refine rmayS_0t n ti tf x cm w x1 x2 h3 h4 (fun g => ?_)
    have q1 : bys ti = [] := bys_nil.2 (by omega)
    have q2 : bys tf = [] := bys_nil.2 (by omega)
    exact h2.elim (fun q => q q1) (fun q => q q2)
  · simp only at h1 h2 h3
    obtain rfl := nil_bys h2
    obtain rfl := nil_bys h3
    subst h1
    exact rmayS_1t n x cm w x1 x2
  · simp only at h1 h2 h3 h4
    obtain rfl := nil_bys h2
    obtain rfl := nil_bys h3
    subst h1 h4
    exact rmayS_2t x cm w x1 x2

theorem rmayS_F (c : Int) (n : Bool) (ti tf : ByteArray) (x : Int) (cm : Bool) (w : World) (b1 : ti.size ≤ 281474976710656) (b2 : tf.size ≤ 281474976710656) (h : ¬ MayS ⟨c, n, bys ti, bys tf, x, cm⟩) : Calls Tryz.prog 45 #[shV c n ti tf x cm] w fun e w' => e = .returned (.bool false) ∧ Below w.heap.size w w' := by
  by_cases xl : x < -2001
  · exact rmayS_xl c n ti tf x cm w xl
  by_cases xh : 2001 < x
  · exact rmayS_xh c n ti tf x cm w xh
  have x1 : -2001 ≤ x := by omega
  have x2 : x ≤ 2001 := by omega
  by_cases h0 : c = 0
  · subst h0
    by_cases g1 : (bys ti).length ≤ 4096 ∧ DigB (bys ti)
    rotate_left
    · exact rmayS_0a n ti tf x cm w x1 x2 b1 g1
    by_cases g2 : (bys tf).length ≤ 4096 ∧ DigB (bys tf)
    rotate_left
    · exact rmayS_0b n ti tf x cm w x1 x2 b1 b2 g1 g2
    by_cases hi : bys ti = []
    · by_cases hf : bys tf = []
      · obtain rfl := nil_bys hi
        obtain rfl := nil_bys hf
        exact rmayS_0z n x cm w x1 x2
      · exact absurd ⟨⟨x1, x2⟩, .inl ⟨rfl, .inr hf, g1, g2⟩⟩ h
    · exact absurd ⟨⟨x1, x2⟩, .inl ⟨rfl, .inl hi, g1, g2⟩⟩ h
  by_cases hi : bys ti = []
  rotate_left
  · exact rmayS_ni c n ti tf x cm w x1 x2 h0 (bys_ne hi)
  obtain rfl := nil_bys hi
  by_cases hf : bys tf = []
  rotate_left
  · exact rmayS_nf c n tf x cm w x1 x2 h0 (bys_ne hf)
  obtain rfl := nil_bys hf
  by_cases h1 : c = 1
  · exact absurd ⟨⟨x1, x2⟩, .inr (.inl ⟨h1, hi, hf⟩)⟩ h
  by_cases h2 : c = 2
  · subst h2
    cases n
    · exact absurd ⟨⟨x1, x2⟩, .inr (.inr ⟨rfl, hi, hf, rfl⟩)⟩ h
    · exact rmayS_2n x cm w x1 x2
  · exact rmayS_3 c n x cm w x1 x2 h0 h1 h2

end Go.Proofs.YtobloamnaemfnaaGreatDoor

namespace Go.Proofs.YtobloamnaemfnaaGreatDoor

end Go.Proofs.YtobloamnaemfnaaGreatDoor

namespace Go.Proofs.YtobloamnaemfnaaGreatDoor
open Go.RowKit

def RPost (w : World) (m n : Nat) (e : Ending) (w' : World) : Prop :=
  ∃ ao cap ys, e = .returned (.slice ao ys.length cap) ∧ ys.length ≤ cap ∧ At .u32 w' ao ys ∧ Is 65536 ys n ∧ ys.length ≤ m ∧ Below w.heap.size w w'

def Grows (w wr : World) (v : Value) (ys : List Nat) : Prop := Below w.heap.size w wr ∧ wr.ownsRow w.heap.size 110 1 v ys.length (vals .u32 ys)

theorem Grows.at {w wr : World} {v : Value} {ys : List Nat} (h : Grows w wr v ys) : ∃ ao cap, v = .slice ao ys.length cap ∧ ys.length ≤ cap ∧ At .u32 wr ao ys := by
  obtain ⟨hb, hl, ho⟩ := h
  rcases ho with ⟨rfl, h0⟩ | ⟨g, cap, cur, rfl, hg, hh, hn, _, hs, ht⟩
  · obtain rfl : ys = [] := List.length_eq_zero_iff.1 h0
    exact ⟨none, 0, rfl, Nat.le_refl _, At.nil _ _ _⟩
  · refine ⟨_, cap, rfl, hn, .inr ⟨g, 0, rfl, lt_of_block hh, fun i hi => ?_⟩⟩
    simp only [World.cell?, hh]
    have hc : cur[i]? = (vals .u32 ys)[i]? := by
      rw [← ht, List.getElem?_take_of_lt (by omega), Array.getElem?_toList]
    simp only [Option.isSome_none, Bool.false_eq_true, if_false, Nat.zero_add, hc]
    simp [vals, hi]

theorem Grows.step {w wr w1 : World} {v v' : Value} {ys : List Nat} {d : Nat} (o : Obj) (h : Grows w wr v ys) (ho : w1.ownsRow w.heap.size 110 1 v' (ys.length + 1) (vals .u32 ys ++ [.int .u32 (d : Int)])) (hg : (wr.alloc o).grownBy w1 v.ownBlock) :
    Grows w w1 v' (ys ++ [d]) := by
  have hb := h.1.alloc (h.1.size) o
  refine ⟨hb.grown hg hb.size ?_, ?_⟩
  · intro k hk
    rcases h.2.2 with ⟨rfl, _⟩ | ⟨g, cap, cur, rfl, hgb, _⟩
    · simp [Value.ownBlock] at hk
    · simp [Value.ownBlock] at hk; omega
  · rw [List.length_append]
    have : vals .u32 (ys ++ [d]) = vals .u32 ys ++ [.int .u32 (d : Int)] := by simp [vals]
    rw [this]; exact ho

theorem and16 (a : Nat) (ha : a < B64) : bits .and .u64 (a : Int) 65535 % 4294967296 = ((a % 65536 : Nat) : Int) := by
  have h := bits_and_u64_nat a 65535 ha (by omega)
  rw [Nat.and_two_pow_sub_one_eq_mod a 16] at h
  rw [show (65535 : Int) = ((65535 : Nat) : Int) from rfl, h]
  omega

end Go.Proofs.YtobloamnaemfnaaGreatDoor
