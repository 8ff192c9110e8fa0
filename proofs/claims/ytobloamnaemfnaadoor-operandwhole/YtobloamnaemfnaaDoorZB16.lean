/-
  What quipuref07's digits does.
  What quipuref07's May does.
  OperandWhole, where it answers at once.
  OperandWhole, the long way.
  OperandWhole, the long way.
  OperandWhole, the long way.
-/
import Derived.Test.YtobloamnaemfnaaDoorZB13
import Derived.Test.YtobloamnaemfnaaDoorZB15
namespace Go.Proofs.YtobloamnaemfnaaDoor
open Go.RowKit

set_option maxHeartbeats 1000000 in
theorem rdig_t (s : ByteArray) (w : World) (hs : s.size ≤ 281474976710656) (hd : DigB (bys s)) (hl : s.size ≤ 4096) : Calls Tryd.prog 23 #[.string s] w fun e w' => e = .returned (.bool true) ∧ Below w.heap.size w w' := by
  have HD : Hid (∀ k, k < s.size → (48 ≤ byt (bys s) k ∧ byt (bys s) k ≤ 57) ∧ ∀ h : k < s.size, s[k].toNat = byt (bys s) k) := fun k hk => ⟨hd k (by first | exact hk | (rw [bys_len]; omega)), fun h => byt_get s k h⟩
  clear hd
  go_enter Tryd.func23, Tryd.ntmps23
  go_wp2
  go_loopw [3] (fun i wr => ∃ k : Nat, k ≤ s.size ∧ i = .int .i64 (k : Int) ∧ wr = w) (fun i _ => s.size - (intOf i).toNat)
  case atStart => exact ⟨0, Nat.zero_le _, rfl, rfl⟩
  case round =>
    obtain ⟨k, hk, rfl, rfl⟩ := hrel
    by_cases hlt : k < s.size
    · have hlt' : (k : Int) < (s.size : Int) := by omega
      have hks : k < s.size := by omega
      obtain ⟨hb, hg⟩ := HD.out k hlt
      obtain ⟨b, hbb⟩ : ∃ b, b = byt (bys s) k := ⟨_, rfl⟩
      rw [← hbb] at hg hb
      have h1' : ¬ (b : Int) < 48 := by omega
      have h2' : ¬ 57 < (b : Int) := by omega
      have h3' : decide ((b : Int) < 48) = false := decide_eq_false h1'
      have h4' : decide (57 < (b : Int)) = false := decide_eq_false h2'
      clear hbb HD
      go_wp2
      exact ⟨⟨k + 1, by omega, by go_num, trivial⟩, by simp [intOf]; omega⟩
    · have hlt' : ¬ (k : Int) < (s.size : Int) := by omega
      have hl2 : decide ((s.size : Int) ≤ 4096) = true := decide_eq_true (by omega)
      clear HD hlt hk
      go_wp2
      go_ret
      first | exact ⟨rfl, Below.refl _ _⟩ | exact ⟨congrArg (fun b => Ending.returned (Value.bool b)) hl2, Below.refl _ _⟩

theorem rdig_T (s : ByteArray) (w : World) (hs : s.size ≤ 281474976710656) (h : (bys s).length ≤ 4096 ∧ DigB (bys s)) : Calls Tryd.prog 23 #[.string s] w fun e w' => e = .returned (.bool true) ∧ Below w.heap.size w w' :=
  rdig_t s w hs h.2 (by have := h.1; rwa [bys_len] at this)

end Go.Proofs.YtobloamnaemfnaaDoor

namespace Go.Proofs.YtobloamnaemfnaaDoor
open Go.RowKit

set_option maxHeartbeats 1000000 in
theorem rmayS_0t (n : Bool) (ti tf : ByteArray) (x : Int) (cm : Bool) (w : World) (x1 : -2001 ≤ x) (x2 : x ≤ 2001) (g : (bys ti).length ≤ 4096 ∧ DigB (bys ti)) (g2 : (bys tf).length ≤ 4096 ∧ DigB (bys tf)) (h : ti.size + tf.size ≠ 0) : Calls Tryd.prog 11 #[shV 0 n ti tf x cm] w fun e w' => e = .returned (.bool true) ∧ Below w.heap.size w w' := by
  have C0 := hide (fun W => rdig_T ti W (by have := g.1; rw [bys_len] at this; omega) g)
  have C1 := hide (fun W => rdig_T tf W (by have := g2.1; rw [bys_len] at this; omega) g2)
  have z1 : ti.size ≤ 4096 := by have := g.1; rwa [bys_len] at this
  have z2 : tf.size ≤ 4096 := by have := g2.1; rwa [bys_len] at this
  have hs : ¬ 9223372036854775807 < ti.size + tf.size := by omega
  have hn := toList_ne (t := ti ++ tf) (by rw [ByteArray.size_append]; exact h)
  have x3 : ¬ x < -2001 := by omega
  have x4 : ¬ 2001 < x := by omega
  have x5 : decide (x < -2001) = false := decide_eq_false x3
  have x6 : decide (2001 < x) = false := decide_eq_false x4
  clear x1 x2 x3 x4
  clear g g2 h z1 z2
  have Bs0 := hide (Blk.newAt w (w.heap.size) (rfl) #[.int .i64 0, .bool n, .string ti, .string tf, .int .i64 x, .bool cm] 25)
  have HB0 : Hid (Below w.heap.size w (w.alloc (.cells #[.int .i64 0, .bool n, .string ti, .string tf, .int .i64 x, .bool cm] 25))) := ((Below.refl _ _).alloc (Nat.le_refl _) _)
  go_enter Tryd.func11, Tryd.ntmps11
  go_wp2_with fail
  refine (C0.out _).mono ?_
  rintro e w1 ⟨rfl, hb⟩
  have Bs1 := Blk.on Bs0 hb
  have HB1 := hide (HB0.out.trans (hb.mono HB0.out.size))
  clear hb Bs0 HB0 
  obtain ⟨ys0, ys1, ys2, ys3, ys4, ys5⟩ := Bs1.out.six
  go_wp2_with fail
  refine (C1.out _).mono ?_
  rintro e w2 ⟨rfl, hb⟩
  have Bs2 := Blk.on Bs1 hb
  have HB2 := hide (HB1.out.trans (hb.mono HB1.out.size))
  clear hb Bs1 HB1 ys0 ys1 ys2 ys3 ys4 ys5
  obtain ⟨ys0, ys1, ys2, ys3, ys4, ys5⟩ := Bs2.out.six
  go_wp2
  go_ret
  exact ⟨rfl, HB2.out⟩

set_option maxHeartbeats 1000000 in
theorem rmayS_1t (n : Bool) (x : Int) (cm : Bool) (w : World) (x1 : -2001 ≤ x) (x2 : x ≤ 2001) : Calls Tryd.prog 11 #[shV 1 n ⟨#[]⟩ ⟨#[]⟩ x cm] w fun e w' => e = .returned (.bool true) ∧ Below w.heap.size w w' := by
  have x3 : ¬ x < -2001 := by omega
  have x4 : ¬ 2001 < x := by omega
  have x5 : decide (x < -2001) = false := decide_eq_false x3
  have x6 : decide (2001 < x) = false := decide_eq_false x4
  clear x1 x2 x3 x4
  have Bs0 := hide (Blk.newAt w (w.heap.size) (rfl) #[.int .i64 1, .bool n, .string ⟨#[]⟩, .string ⟨#[]⟩, .int .i64 x, .bool cm] 25)
  have HB0 : Hid (Below w.heap.size w (w.alloc (.cells #[.int .i64 1, .bool n, .string ⟨#[]⟩, .string ⟨#[]⟩, .int .i64 x, .bool cm] 25))) := ((Below.refl _ _).alloc (Nat.le_refl _) _)
  go_enter Tryd.func11, Tryd.ntmps11
  go_wp2
  go_ret
  exact ⟨rfl, HB0.out⟩

set_option maxHeartbeats 1000000 in
theorem rmayS_2t (x : Int) (cm : Bool) (w : World) (x1 : -2001 ≤ x) (x2 : x ≤ 2001) : Calls Tryd.prog 11 #[shV 2 false ⟨#[]⟩ ⟨#[]⟩ x cm] w fun e w' => e = .returned (.bool true) ∧ Below w.heap.size w w' := by
  have x3 : ¬ x < -2001 := by omega
  have x4 : ¬ 2001 < x := by omega
  have x5 : decide (x < -2001) = false := decide_eq_false x3
  have x6 : decide (2001 < x) = false := decide_eq_false x4
  clear x1 x2 x3 x4
  have Bs0 := hide (Blk.newAt w (w.heap.size) (rfl) #[.int .i64 2, .bool false, .string ⟨#[]⟩, .string ⟨#[]⟩, .int .i64 x, .bool cm] 25)
  have HB0 : Hid (Below w.heap.size w (w.alloc (.cells #[.int .i64 2, .bool false, .string ⟨#[]⟩, .string ⟨#[]⟩, .int .i64 x, .bool cm] 25))) := ((Below.refl _ _).alloc (Nat.le_refl _) _)
  go_enter Tryd.func11, Tryd.ntmps11
  go_wp2
  go_ret
  exact ⟨rfl, HB0.out⟩

theorem rmayS_T (c : Int) (n : Bool) (ti tf : ByteArray) (x : Int) (cm : Bool) (w : World) (h : MayS ⟨c, n, bys ti, bys tf, x, cm⟩) : Calls Tryd.prog 11 #[shV c n ti tf x cm] w fun e w' => e = .returned (.bool true) ∧ Below w.heap.size w w' := by
  obtain ⟨⟨x1, x2⟩, h⟩ := h
  simp only at x1 x2
  rcases h with ⟨h1, h2, h3, h4⟩ | ⟨h1, h2, h3⟩ | ⟨h1, h2, h3, h4⟩
  · simp only at h1 h2 h3 h4
    subst h1
    refine rmayS_0t n ti tf x cm w x1 x2 h3 h4 (fun g => ?_)
    have q1 : bys ti = [] := bys_nil.2 (by omega)
    have q2 : bys tf = [] := bys_nil.2 (by omega)
    exact h2.elim (fun q => q q1) (fun q => q q2)
  · simp only at h1 h2 h3
    obtain rfl := nil_bys h2
    obtain rfl := nil_bys h3
    subst h1
    exact rmayS_1t n x cm w x1 x2
  · simp only at h1 h2 h3 h4
    obtain rfl := nil_bys h2
    obtain rfl := nil_bys h3
    subst h1 h4
    exact rmayS_2t x cm w x1 x2

end Go.Proofs.YtobloamnaemfnaaDoor

namespace Go.Proofs.YtobloamnaemfnaaDoor
open Go.RowKit

set_option maxRecDepth 100000 in
set_option maxHeartbeats 2000000 in
theorem owho_e (c : Int) (n : Bool) (ti tf : ByteArray) (x : Int) (cm : Bool) (I : ByteArray) (v z : Int) (F T : ByteArray) (E : Int) (w : World) (htab : Tab w) (hO : ∀ W, Tab W → Calls Tryd.prog 6 #[shV c n ti tf x cm] W fun e w' => e = .returned (.tuple #[.agg #[.string I, .int .i64 v, .int .i64 z, .string F, .string T, .int .i64 E], .int .i64 80]) ∧ Below W.heap.size W w')  : Calls Tryd.prog 5 #[shV c n ti tf x cm] w fun e w' => e = .returned (.bool true) ∧ Below w.heap.size w w' := by
  have HO := hide hO
  have HT := hide htab
  clear hO htab
  have Bs0 := hide (Blk.newAt w (w.heap.size) (rfl) #[.int .i64 c, .bool n, .string ti, .string tf, .int .i64 x, .bool cm] 25)
  have HB0 : Hid (Below w.heap.size w (w.alloc (.cells #[.int .i64 c, .bool n, .string ti, .string tf, .int .i64 x, .bool cm] 25))) := ((Below.refl _ _).alloc (Nat.le_refl _) _)
  go_enter Tryd.func5, Tryd.ntmps5
  go_wp2_with fail
  refine (HO.out _ (HT.out.below HB0.out)).mono ?_
  rintro e w1 ⟨rfl, hb⟩
  have Bs1 := Blk.on Bs0 hb
  have HB1 := hide (HB0.out.trans (hb.mono HB0.out.size))
  clear hb Bs0 HB0 
  obtain ⟨ys0, ys1, ys2, ys3, ys4, ys5⟩ := Bs1.out.six
  have lsx : w.heap.size < w1.heap.size := Bs1.out.lt
  have Bs2 := Blk.up Bs1 (.cells #[.string I, .int .i64 v, .int .i64 z, .string F, .string T, .int .i64 E] 23)
  have Bx2 := hide ((Blk.newAt w1 (w1.heap.size) (rfl) #[.string I, .int .i64 v, .int .i64 z, .string F, .string T, .int .i64 E] 23))
  have HB2 : Hid (Below w.heap.size w (w1.alloc (.cells #[.string I, .int .i64 v, .int .i64 z, .string F, .string T, .int .i64 E] 23))) := (HB1.out.alloc HB1.out.size _)
  clear Bs1 HB1 ys0 ys1 ys2 ys3 ys4 ys5
  obtain ⟨ys0, ys1, ys2, ys3, ys4, ys5⟩ := Bs2.out.six
  obtain ⟨yx0, yx1, yx2, yx3, yx4, yx5⟩ := Bx2.out.six
  have HTW := hide (HT.out.below HB2.out)
  clear HO HT
  go_wp2_with fail
  refine (qawake_any _ HTW.out).mono ?_
  rintro e w3 ⟨rfl, hb⟩
  have Bs3 := Blk.on Bs2 hb
  have Bx3 := Blk.on Bx2 hb
  have HB3 := hide (HB2.out.trans (hb.mono HB2.out.size))
  clear hb Bs2 Bx2 HB2 ys0 ys1 ys2 ys3 ys4 ys5 yx0 yx1 yx2 yx3 yx4 yx5
  obtain ⟨ys0, ys1, ys2, ys3, ys4, ys5⟩ := Bs3.out.six
  obtain ⟨yx0, yx1, yx2, yx3, yx4, yx5⟩ := Bx3.out.six
  go_wp2
  go_ret
  exact ⟨rfl, HB3.out⟩

set_option maxRecDepth 100000 in
set_option maxHeartbeats 2000000 in
theorem owho_i (c : Int) (n : Bool) (ti tf : ByteArray) (x : Int) (cm : Bool) (I : ByteArray) (v z : Int) (F T : ByteArray) (E : Int) (w : World) (htab : Tab w) (hO : ∀ W, Tab W → Calls Tryd.prog 6 #[shV c n ti tf x cm] W fun e w' => e = .returned (.tuple #[.agg #[.string I, .int .i64 v, .int .i64 z, .string F, .string T, .int .i64 E], .int .i64 0]) ∧ Below W.heap.size W w') (h : 4000 < I.size) : Calls Tryd.prog 5 #[shV c n ti tf x cm] w fun e w' => e = .returned (.bool true) ∧ Below w.heap.size w w' := by
  have HO := hide hO
  have HT := hide htab
  clear hO htab
  have h1 : decide (4000 < (I.size : Int)) = true := decide_eq_true (by omega)
  clear h
  have Bs0 := hide (Blk.newAt w (w.heap.size) (rfl) #[.int .i64 c, .bool n, .string ti, .string tf, .int .i64 x, .bool cm] 25)
  have HB0 : Hid (Below w.heap.size w (w.alloc (.cells #[.int .i64 c, .bool n, .string ti, .string tf, .int .i64 x, .bool cm] 25))) := ((Below.refl _ _).alloc (Nat.le_refl _) _)
  go_enter Tryd.func5, Tryd.ntmps5
  go_wp2_with fail
  refine (HO.out _ (HT.out.below HB0.out)).mono ?_
  rintro e w1 ⟨rfl, hb⟩
  have Bs1 := Blk.on Bs0 hb
  have HB1 := hide (HB0.out.trans (hb.mono HB0.out.size))
  clear hb Bs0 HB0 
  obtain ⟨ys0, ys1, ys2, ys3, ys4, ys5⟩ := Bs1.out.six
  have lsx : w.heap.size < w1.heap.size := Bs1.out.lt
  have Bs2 := Blk.up Bs1 (.cells #[.string I, .int .i64 v, .int .i64 z, .string F, .string T, .int .i64 E] 23)
  have Bx2 := hide ((Blk.newAt w1 (w1.heap.size) (rfl) #[.string I, .int .i64 v, .int .i64 z, .string F, .string T, .int .i64 E] 23))
  have HB2 : Hid (Below w.heap.size w (w1.alloc (.cells #[.string I, .int .i64 v, .int .i64 z, .string F, .string T, .int .i64 E] 23))) := (HB1.out.alloc HB1.out.size _)
  clear Bs1 HB1 ys0 ys1 ys2 ys3 ys4 ys5
  obtain ⟨ys0, ys1, ys2, ys3, ys4, ys5⟩ := Bs2.out.six
  obtain ⟨yx0, yx1, yx2, yx3, yx4, yx5⟩ := Bx2.out.six
  have HTW := hide (HT.out.below HB2.out)
  clear HO HT
  go_wp2_with fail
  refine (qawake_any _ HTW.out).mono ?_
  rintro e w3 ⟨rfl, hb⟩
  have Bs3 := Blk.on Bs2 hb
  have Bx3 := Blk.on Bx2 hb
  have HB3 := hide (HB2.out.trans (hb.mono HB2.out.size))
  clear hb Bs2 Bx2 HB2 ys0 ys1 ys2 ys3 ys4 ys5 yx0 yx1 yx2 yx3 yx4 yx5
  obtain ⟨ys0, ys1, ys2, ys3, ys4, ys5⟩ := Bs3.out.six
  obtain ⟨yx0, yx1, yx2, yx3, yx4, yx5⟩ := Bx3.out.six
  go_wp2
  go_ret
  exact ⟨rfl, HB3.out⟩

set_option maxRecDepth 100000 in
set_option maxHeartbeats 2000000 in
theorem owho_v (c : Int) (n : Bool) (ti tf : ByteArray) (x : Int) (cm : Bool) (I : ByteArray) (v z : Int) (F T : ByteArray) (E : Int) (w : World) (htab : Tab w) (hO : ∀ W, Tab W → Calls Tryd.prog 6 #[shV c n ti tf x cm] W fun e w' => e = .returned (.tuple #[.agg #[.string I, .int .i64 v, .int .i64 z, .string F, .string T, .int .i64 E], .int .i64 0]) ∧ Below W.heap.size W w') (h : I.size ≤ 4000) (g : 4000 < v) : Calls Tryd.prog 5 #[shV c n ti tf x cm] w fun e w' => e = .returned (.bool true) ∧ Below w.heap.size w w' := by
  have HO := hide hO
  have HT := hide htab
  clear hO htab
  have h1 : decide (4000 < (I.size : Int)) = false := decide_eq_false (by omega)
  have h2 : decide (4000 < v) = true := decide_eq_true g
  clear h g
  have Bs0 := hide (Blk.newAt w (w.heap.size) (rfl) #[.int .i64 c, .bool n, .string ti, .string tf, .int .i64 x, .bool cm] 25)
  have HB0 : Hid (Below w.heap.size w (w.alloc (.cells #[.int .i64 c, .bool n, .string ti, .string tf, .int .i64 x, .bool cm] 25))) := ((Below.refl _ _).alloc (Nat.le_refl _) _)
  go_enter Tryd.func5, Tryd.ntmps5
  go_wp2_with fail
  refine (HO.out _ (HT.out.below HB0.out)).mono ?_
  rintro e w1 ⟨rfl, hb⟩
  have Bs1 := Blk.on Bs0 hb
  have HB1 := hide (HB0.out.trans (hb.mono HB0.out.size))
  clear hb Bs0 HB0 
  obtain ⟨ys0, ys1, ys2, ys3, ys4, ys5⟩ := Bs1.out.six
  have lsx : w.heap.size < w1.heap.size := Bs1.out.lt
  have Bs2 := Blk.up Bs1 (.cells #[.string I, .int .i64 v, .int .i64 z, .string F, .string T, .int .i64 E] 23)
  have Bx2 := hide ((Blk.newAt w1 (w1.heap.size) (rfl) #[.string I, .int .i64 v, .int .i64 z, .string F, .string T, .int .i64 E] 23))
  have HB2 : Hid (Below w.heap.size w (w1.alloc (.cells #[.string I, .int .i64 v, .int .i64 z, .string F, .string T, .int .i64 E] 23))) := (HB1.out.alloc HB1.out.size _)
  clear Bs1 HB1 ys0 ys1 ys2 ys3 ys4 ys5
  obtain ⟨ys0, ys1, ys2, ys3, ys4, ys5⟩ := Bs2.out.six
  obtain ⟨yx0, yx1, yx2, yx3, yx4, yx5⟩ := Bx2.out.six
  have HTW := hide (HT.out.below HB2.out)
  clear HO HT
  go_wp2_with fail
  refine (qawake_any _ HTW.out).mono ?_
  rintro e w3 ⟨rfl, hb⟩
  have Bs3 := Blk.on Bs2 hb
  have Bx3 := Blk.on Bx2 hb
  have HB3 := hide (HB2.out.trans (hb.mono HB2.out.size))
  clear hb Bs2 Bx2 HB2 ys0 ys1 ys2 ys3 ys4 ys5 yx0 yx1 yx2 yx3 yx4 yx5
  obtain ⟨ys0, ys1, ys2, ys3, ys4, ys5⟩ := Bs3.out.six
  obtain ⟨yx0, yx1, yx2, yx3, yx4, yx5⟩ := Bx3.out.six
  go_wp2
  go_ret
  exact ⟨rfl, HB3.out⟩

end Go.Proofs.YtobloamnaemfnaaDoor

namespace Go.Proofs.YtobloamnaemfnaaDoor
open Go.RowKit

set_option maxRecDepth 100000 in
set_option maxHeartbeats 8000000 in
theorem owho_fz (n : Bool) (ti tf : ByteArray) (x : Int) (I : ByteArray) (v : Int) (F R : ByteArray) (cx : Int) (nx : Bool) (tx : ByteArray) (ex rx : Int) (j2 : Nat) (w : World) (htab : Tab w) (hO : ∀ W, Tab W → Calls Tryd.prog 6 #[shV 0 n ti tf x false] W fun e w' => e = .returned (.tuple #[.agg #[.string I, .int .i64 v, .int .i64 0, .string F, .string ⟨#[48]⟩, .int .i64 0], .int .i64 0]) ∧ Below W.heap.size W w') (hV : ∀ W, Tab W → Calls Tryd.prog 10 #[.agg #[.int .i64 0, .bool n, .string ti, .string tf, .int .i64 0, .bool false]] W fun e w' => e = .returned (.tuple #[.agg #[.int .i64 cx, .bool nx, .string tx, .int .i64 ex], .int .i64 rx]) ∧ Below W.heap.size W w') (hV2 : ∀ W, Tab W → Calls Tryd.prog 10 #[shV 0 n I R 0 false] W fun e w' => e = .returned (.tuple #[.agg #[.int .i64 cx, .bool nx, .string tx, .int .i64 ex], .int .i64 rx]) ∧ Below W.heap.size W w') (hO2 : ∀ W, Tab W → Calls Tryd.prog 6 #[shV 0 n I R 0 false] W fun e w' => e = .returned (.tuple #[.agg #[.string I, .int .i64 v, .int .i64 0, .string F, .string ⟨#[48]⟩, .int .i64 0], .int .i64 0]) ∧ Below W.heap.size W w') (hM : ∀ W, Calls Tryd.prog 11 #[shV 0 n I R 0 false] W fun e w' => e = .returned (.bool true) ∧ Below W.heap.size W w') (hI : I.size ≤ 4000) (v1 : 0 ≤ v) (v2 : v ≤ 4000) (hj2 : (j2 : Int) = v) (hR : bys R = List.replicate j2 48) : Calls Tryd.prog 5 #[shV 0 n ti tf x false] w fun e w' => e = .returned (.bool true) ∧ Below w.heap.size w w' := by
  have HO := hide hO
  have HV := hide hV
  have HV2 := hide hV2
  have HO2 := hide hO2
  have HM := hide hM
  have HT := hide htab
  have h1 : decide (4000 < (I.size : Int)) = false := decide_eq_false (by omega)
  have h2 : decide (4000 < v) = false := decide_eq_false (by omega)
  have HR := hide hR
  clear hO hV hV2 hO2 hM htab hR
  have Bs0 := hide (Blk.newAt w (w.heap.size) (rfl) #[.int .i64 0, .bool n, .string ti, .string tf, .int .i64 x, .bool false] 25)
  have HB0 : Hid (Below w.heap.size w (w.alloc (.cells #[.int .i64 0, .bool n, .string ti, .string tf, .int .i64 x, .bool false] 25))) := ((Below.refl _ _).alloc (Nat.le_refl _) _)
  go_enter Tryd.func5, Tryd.ntmps5
  go_wp2_with fail
  refine (HO.out _ (HT.out.below HB0.out)).mono ?_
  rintro e w1 ⟨rfl, hb⟩
  have Bs1 := Blk.on Bs0 hb
  have HB1 := hide (HB0.out.trans (hb.mono HB0.out.size))
  clear hb Bs0 HB0 
  obtain ⟨ys0, ys1, ys2, ys3, ys4, ys5⟩ := Bs1.out.six
  have LSX := hide Bs1.out.lt
  have lsx : w.heap.size < w1.heap.size := Bs1.out.lt
  have Bs2 := Blk.up Bs1 (.cells #[.string I, .int .i64 v, .int .i64 0, .string F, .string ⟨#[48]⟩, .int .i64 0] 23)
  have Bx2 := hide ((Blk.newAt w1 (w1.heap.size) (rfl) #[.string I, .int .i64 v, .int .i64 0, .string F, .string ⟨#[48]⟩, .int .i64 0] 23))
  have HB2 : Hid (Below w.heap.size w (w1.alloc (.cells #[.string I, .int .i64 v, .int .i64 0, .string F, .string ⟨#[48]⟩, .int .i64 0] 23))) := (HB1.out.alloc HB1.out.size _)
  clear Bs1 HB1 ys0 ys1 ys2 ys3 ys4 ys5
  obtain ⟨ys0, ys1, ys2, ys3, ys4, ys5⟩ := Bs2.out.six
  obtain ⟨yx0, yx1, yx2, yx3, yx4, yx5⟩ := Bx2.out.six
  go_wp2_with fail
  refine (qawake_any _ (HT.out.below HB2.out)).mono ?_
  rintro e w3 ⟨rfl, hb⟩
  have Bs3 := Blk.on Bs2 hb
  have Bx3 := Blk.on Bx2 hb
  have HB3 := hide (HB2.out.trans (hb.mono HB2.out.size))
  clear hb Bs2 Bx2 HB2 ys0 ys1 ys2 ys3 ys4 ys5 yx0 yx1 yx2 yx3 yx4 yx5
  obtain ⟨ys0, ys1, ys2, ys3, ys4, ys5⟩ := Bs3.out.six
  obtain ⟨yx0, yx1, yx2, yx3, yx4, yx5⟩ := Bx3.out.six
  have nsx : ¬ w.heap.size = w1.heap.size := by have := LSX.out; omega
  have msx : ¬ w1.heap.size = w.heap.size := by have := LSX.out; omega
  have fs4 := Bs3.out.free 4
  go_upto_region 8 with (fail)
  have Bs4 : Hid (Blk (w3.setCell ⟨w.heap.size, 4, none⟩ (.int .i64 0)) w.heap.size #[.int .i64 0, .bool n, .string ti, .string tf, .int .i64 0, .bool false] 25) := Bs3.out.setC 4 (.int .i64 0)
  have Bx4 : Hid (Blk (w3.setCell ⟨w.heap.size, 4, none⟩ (.int .i64 0)) w1.heap.size #[.string I, .int .i64 v, .int .i64 0, .string F, .string ⟨#[48]⟩, .int .i64 0] 23) := Bx3.out.other (a := ⟨w.heap.size, 4, none⟩) nsx (.int .i64 0)
  have HB4 : Hid (Below w.heap.size w (w3.setCell ⟨w.heap.size, 4, none⟩ (.int .i64 0))) := HB3.out.setCell (Nat.le_refl _) _
  obtain ⟨U, hU⟩ : ∃ U, U = (w3.setCell ⟨w.heap.size, 4, none⟩ (.int .i64 0)) := ⟨_, rfl⟩
  rw [← hU] at Bs4 Bx4 HB4
  simp only [← hU]
  clear hU fs4 Bs3 Bx3 HB3 ys0 ys1 ys2 ys3 ys4 ys5 yx0 yx1 yx2 yx3 yx4 yx5
  obtain ⟨ys0, ys1, ys2, ys3, ys4, ys5⟩ := Bs4.out.six
  obtain ⟨yx0, yx1, yx2, yx3, yx4, yx5⟩ := Bx4.out.six
  go_wp2_with fail
  refine (HV.out _ (HT.out.below HB4.out)).mono ?_
  rintro e w5 ⟨rfl, hb⟩
  have Bs5 := Blk.on Bs4 hb
  have Bx5 := Blk.on Bx4 hb
  have HB5 := hide (HB4.out.trans (hb.mono HB4.out.size))
  clear hb Bs4 Bx4 HB4 ys0 ys1 ys2 ys3 ys4 ys5 yx0 yx1 yx2 yx3 yx4 yx5
  obtain ⟨ys0, ys1, ys2, ys3, ys4, ys5⟩ := Bs5.out.six
  obtain ⟨yx0, yx1, yx2, yx3, yx4, yx5⟩ := Bx5.out.six
  have lsd : w.heap.size < w5.heap.size := Bs5.out.lt
  have lxd : w1.heap.size < w5.heap.size := Bx5.out.lt
  have Bs6 := Blk.up Bs5 (.cells #[.int .i64 cx, .bool nx, .string tx, .int .i64 ex] 34)
  have Bx6 := Blk.up Bx5 (.cells #[.int .i64 cx, .bool nx, .string tx, .int .i64 ex] 34)
  have Bd6 := hide ((Blk.newAt w5 (w5.heap.size) (rfl) #[.int .i64 cx, .bool nx, .string tx, .int .i64 ex] 34))
  have HB6 : Hid (Below w.heap.size w (w5.alloc (.cells #[.int .i64 cx, .bool nx, .string tx, .int .i64 ex] 34))) := (HB5.out.alloc HB5.out.size _)
  clear Bs5 Bx5 HB5 ys0 ys1 ys2 ys3 ys4 ys5 yx0 yx1 yx2 yx3 yx4 yx5
  obtain ⟨ys0, ys1, ys2, ys3, ys4, ys5⟩ := Bs6.out.six
  obtain ⟨yx0, yx1, yx2, yx3, yx4, yx5⟩ := Bx6.out.six
  obtain ⟨yd0, yd1, yd2, yd3⟩ := Bd6.out.four
  go_upto_region 9 with (fail)
  obtain ⟨V, hV⟩ : ∃ V, V = (w5.alloc (.cells #[.int .i64 cx, .bool nx, .string tx, .int .i64 ex] 34)) := ⟨_, rfl⟩
  rw [← hV] at HB6 Bs6 Bx6 Bd6 ys0 ys1 ys2 ys3 ys4 ys5 yx0 yx1 yx2 yx3 yx4 yx5 yd0 yd1 yd2 yd3
  simp only [← hV]
  clear hV
  go_wp2
  go_loopw [7, 8] (fun a b wr => a = .string ⟨#[]⟩ ∧ b = .int .i64 1 ∧ wr = V) (fun _ _ _ => 0)
  case atStart => exact ⟨rfl, rfl, rfl⟩
  case round =>
    obtain ⟨rfl, rfl, hw⟩ := hrel
    replace hw := hw.symm
    subst hw
    go_wp2
    go_loopw [7, 9] (fun a b wr => ∃ (i : Nat) (A : ByteArray), i ≤ j2 ∧ a = .string A ∧ Hid (bys A = ([] : List UInt8) ++ List.replicate i 48) ∧ A.size = 0 + i ∧ b = .int .i64 (0 + (i : Int)) ∧ wr = V) (fun _ b _ => (v - intOf b).toNat)
    case atStart => exact ⟨0, ⟨#[]⟩, Nat.zero_le _, rfl, rfl, rfl, by simp, rfl⟩
    case round =>
      obtain ⟨i, B, hi, rfl, hB, hs3, rfl, hw⟩ := hrel
      replace hw := hw.symm
      subst hw
      by_cases hlt2 : i < j2
      · have g2 : 0 + (i : Int) < v := by omega
        have s2 : ¬ 9223372036854775807 < B.size + 1 := by omega
        have HB2 : Hid (bys (B ++ ⟨#[48]⟩) = ([] : List UInt8) ++ List.replicate (i + 1) 48) := by rw [bys_append, hB.out, List.replicate_succ', ← List.append_assoc]; rfl
        have HS3 := hide (show (B ++ ⟨#[48]⟩ : ByteArray).size = 0 + (i + 1) by rw [ByteArray.size_append, hs3]; rfl)
        clear hB
        go_wp2
        go_roundw
        case rel => exact ⟨i + 1, B ++ ⟨#[48]⟩, by omega, rfl, HB2, HS3.out, by go_num, trivial⟩
        case measure => simp [intOf]; omega
      · obtain rfl : i = j2 := by omega
        have g2 : ¬ 0 + (i : Int) < v := by omega
        obtain rfl : B = R := bys_inj (by rw [hB.out, HR.out]; rfl)
        have g3 : decide (v < (B.size : Int)) = false := decide_eq_false (by omega)
        clear hB hlt2 hi
        have lst : w.heap.size < V.heap.size := Bs6.out.lt
        have lsx2 : w1.heap.size < V.heap.size := Bx6.out.lt
        go_upto_region 23 with (fail)
        clear lst lsx2
        have Bs7 := Blk.up Bs6 (.cells #[.int .i64 0, .bool n, .string I, .string B, .int .i64 0, .bool false] 25)
        have Bx7 := Blk.up Bx6 (.cells #[.int .i64 0, .bool n, .string I, .string B, .int .i64 0, .bool false] 25)
        have Bd7 := Blk.up Bd6 (.cells #[.int .i64 0, .bool n, .string I, .string B, .int .i64 0, .bool false] 25)
        have Bf7 := hide ((Blk.newAt V (V.heap.size) (rfl) #[.int .i64 0, .bool n, .string I, .string B, .int .i64 0, .bool false] 25))
        have HB7 : Hid (Below w.heap.size w (V.alloc (.cells #[.int .i64 0, .bool n, .string I, .string B, .int .i64 0, .bool false] 25))) := (HB6.out.alloc HB6.out.size _)
        clear Bs6 Bx6 Bd6 HB6 ys0 ys1 ys2 ys3 ys4 ys5 yx0 yx1 yx2 yx3 yx4 yx5 yd0 yd1 yd2 yd3
        obtain ⟨ys0, ys1, ys2, ys3, ys4, ys5⟩ := Bs7.out.six
        obtain ⟨yx0, yx1, yx2, yx3, yx4, yx5⟩ := Bx7.out.six
        obtain ⟨yd0, yd1, yd2, yd3⟩ := Bd7.out.four
        obtain ⟨yf0, yf1, yf2, yf3, yf4, yf5⟩ := Bf7.out.six
        go_wp2_with fail
        refine (HV2.out _ (HT.out.below HB7.out)).mono ?_
        rintro e w8 ⟨rfl, hb⟩
        have Bs8 := Blk.on Bs7 hb
        have Bx8 := Blk.on Bx7 hb
        have Bd8 := Blk.on Bd7 hb
        have Bf8 := Blk.on Bf7 hb
        have HB8 := hide (HB7.out.trans (hb.mono HB7.out.size))
        clear hb Bs7 Bx7 Bd7 Bf7 HB7 ys0 ys1 ys2 ys3 ys4 ys5 yx0 yx1 yx2 yx3 yx4 yx5 yd0 yd1 yd2 yd3 yf0 yf1 yf2 yf3 yf4 yf5
        obtain ⟨ys0, ys1, ys2, ys3, ys4, ys5⟩ := Bs8.out.six
        obtain ⟨yx0, yx1, yx2, yx3, yx4, yx5⟩ := Bx8.out.six
        obtain ⟨yd0, yd1, yd2, yd3⟩ := Bd8.out.four
        obtain ⟨yf0, yf1, yf2, yf3, yf4, yf5⟩ := Bf8.out.six
        have Bs9 := Blk.up Bs8 (.cells #[.int .i64 cx, .bool nx, .string tx, .int .i64 ex] 34)
        have Bx9 := Blk.up Bx8 (.cells #[.int .i64 cx, .bool nx, .string tx, .int .i64 ex] 34)
        have Bd9 := Blk.up Bd8 (.cells #[.int .i64 cx, .bool nx, .string tx, .int .i64 ex] 34)
        have Bf9 := Blk.up Bf8 (.cells #[.int .i64 cx, .bool nx, .string tx, .int .i64 ex] 34)
        have Be9 := hide ((Blk.newAt w8 (w8.heap.size) (rfl) #[.int .i64 cx, .bool nx, .string tx, .int .i64 ex] 34))
        have HB9 : Hid (Below w.heap.size w (w8.alloc (.cells #[.int .i64 cx, .bool nx, .string tx, .int .i64 ex] 34))) := (HB8.out.alloc HB8.out.size _)
        clear Bs8 Bx8 Bd8 Bf8 HB8 ys0 ys1 ys2 ys3 ys4 ys5 yx0 yx1 yx2 yx3 yx4 yx5 yd0 yd1 yd2 yd3 yf0 yf1 yf2 yf3 yf4 yf5
        obtain ⟨ys0, ys1, ys2, ys3, ys4, ys5⟩ := Bs9.out.six
        obtain ⟨yx0, yx1, yx2, yx3, yx4, yx5⟩ := Bx9.out.six
        obtain ⟨yd0, yd1, yd2, yd3⟩ := Bd9.out.four
        obtain ⟨yf0, yf1, yf2, yf3, yf4, yf5⟩ := Bf9.out.six
        obtain ⟨ye0, ye1, ye2, ye3⟩ := Be9.out.four
        go_wp2_with fail
        refine (HO2.out _ (HT.out.below HB9.out)).mono ?_
        rintro e w10 ⟨rfl, hb⟩
        have Bs10 := Blk.on Bs9 hb
        have Bx10 := Blk.on Bx9 hb
        have Bd10 := Blk.on Bd9 hb
        have Bf10 := Blk.on Bf9 hb
        have Be10 := Blk.on Be9 hb
        have HB10 := hide (HB9.out.trans (hb.mono HB9.out.size))
        clear hb Bs9 Bx9 Bd9 Bf9 Be9 HB9 ys0 ys1 ys2 ys3 ys4 ys5 yx0 yx1 yx2 yx3 yx4 yx5 yd0 yd1 yd2 yd3 yf0 yf1 yf2 yf3 yf4 yf5 ye0 ye1 ye2 ye3
        obtain ⟨ys0, ys1, ys2, ys3, ys4, ys5⟩ := Bs10.out.six
        obtain ⟨yx0, yx1, yx2, yx3, yx4, yx5⟩ := Bx10.out.six
        obtain ⟨yd0, yd1, yd2, yd3⟩ := Bd10.out.four
        obtain ⟨yf0, yf1, yf2, yf3, yf4, yf5⟩ := Bf10.out.six
        obtain ⟨ye0, ye1, ye2, ye3⟩ := Be10.out.four
        have HYL := hide HB10.out.size
        have lsy : w.heap.size < w10.heap.size := Bs10.out.lt
        have lxy : w1.heap.size < w10.heap.size := Bx10.out.lt
        have ldy : w5.heap.size < w10.heap.size := Bd10.out.lt
        have lfy : V.heap.size < w10.heap.size := Bf10.out.lt
        have ley : w8.heap.size < w10.heap.size := Be10.out.lt
        have Bs11 := Blk.up Bs10 (.cells #[.string I, .int .i64 v, .int .i64 0, .string F, .string ⟨#[48]⟩, .int .i64 0] 23)
        have Bx11 := Blk.up Bx10 (.cells #[.string I, .int .i64 v, .int .i64 0, .string F, .string ⟨#[48]⟩, .int .i64 0] 23)
        have Bd11 := Blk.up Bd10 (.cells #[.string I, .int .i64 v, .int .i64 0, .string F, .string ⟨#[48]⟩, .int .i64 0] 23)
        have Bf11 := Blk.up Bf10 (.cells #[.string I, .int .i64 v, .int .i64 0, .string F, .string ⟨#[48]⟩, .int .i64 0] 23)
        have Be11 := Blk.up Be10 (.cells #[.string I, .int .i64 v, .int .i64 0, .string F, .string ⟨#[48]⟩, .int .i64 0] 23)
        have By11 := hide ((Blk.newAt w10 (w10.heap.size) (rfl) #[.string I, .int .i64 v, .int .i64 0, .string F, .string ⟨#[48]⟩, .int .i64 0] 23))
        have HB11 : Hid (Below w.heap.size w (w10.alloc (.cells #[.string I, .int .i64 v, .int .i64 0, .string F, .string ⟨#[48]⟩, .int .i64 0] 23))) := (HB10.out.alloc HB10.out.size _)
        clear Bs10 Bx10 Bd10 Bf10 Be10 HB10 ys0 ys1 ys2 ys3 ys4 ys5 yx0 yx1 yx2 yx3 yx4 yx5 yd0 yd1 yd2 yd3 yf0 yf1 yf2 yf3 yf4 yf5 ye0 ye1 ye2 ye3
        obtain ⟨ys0, ys1, ys2, ys3, ys4, ys5⟩ := Bs11.out.six
        obtain ⟨yx0, yx1, yx2, yx3, yx4, yx5⟩ := Bx11.out.six
        obtain ⟨yd0, yd1, yd2, yd3⟩ := Bd11.out.four
        obtain ⟨yf0, yf1, yf2, yf3, yf4, yf5⟩ := Bf11.out.six
        obtain ⟨ye0, ye1, ye2, ye3⟩ := Be11.out.four
        obtain ⟨yy0, yy1, yy2, yy3, yy4, yy5⟩ := By11.out.six
        go_upto_region 25 with (fail)
        obtain ⟨Q, hQ⟩ : ∃ Q, Q = (w10.alloc (.cells #[.string I, .int .i64 v, .int .i64 0, .string F, .string ⟨#[48]⟩, .int .i64 0] 23)) := ⟨_, rfl⟩
        rw [← hQ] at HB11 Bs11 Bx11 Bd11 Bf11 Be11 By11 ys0 ys1 ys2 ys3 ys4 ys5 yx0 yx1 yx2 yx3 yx4 yx5 yd0 yd1 yd2 yd3 yf0 yf1 yf2 yf3 yf4 yf5 ye0 ye1 ye2 ye3 yy0 yy1 yy2 yy3 yy4 yy5
        simp only [← hQ]
        clear hQ
        have fy5 := By11.out.free 5
        have nsy : ¬ w10.heap.size = w.heap.size := by omega
        have nxy : ¬ w10.heap.size = w1.heap.size := by omega
        have ndy : ¬ w10.heap.size = w5.heap.size := by omega
        have nfy : ¬ w10.heap.size = V.heap.size := by omega
        have ney : ¬ w10.heap.size = w8.heap.size := by omega
        have Bs12 : Hid (Blk (Q.setCell ⟨w10.heap.size, 5, none⟩ (.int .i64 0)) (w.heap.size) #[.int .i64 0, .bool n, .string ti, .string tf, .int .i64 0, .bool false] 25) := Bs11.out.other (a := ⟨w10.heap.size, 5, none⟩) nsy (.int .i64 0)
        have Bx12 : Hid (Blk (Q.setCell ⟨w10.heap.size, 5, none⟩ (.int .i64 0)) (w1.heap.size) #[.string I, .int .i64 v, .int .i64 0, .string F, .string ⟨#[48]⟩, .int .i64 0] 23) := Bx11.out.other (a := ⟨w10.heap.size, 5, none⟩) nxy (.int .i64 0)
        have Bd12 : Hid (Blk (Q.setCell ⟨w10.heap.size, 5, none⟩ (.int .i64 0)) (w5.heap.size) #[.int .i64 cx, .bool nx, .string tx, .int .i64 ex] 34) := Bd11.out.other (a := ⟨w10.heap.size, 5, none⟩) ndy (.int .i64 0)
        have Bf12 : Hid (Blk (Q.setCell ⟨w10.heap.size, 5, none⟩ (.int .i64 0)) (V.heap.size) #[.int .i64 0, .bool n, .string I, .string B, .int .i64 0, .bool false] 25) := Bf11.out.other (a := ⟨w10.heap.size, 5, none⟩) nfy (.int .i64 0)
        have Be12 : Hid (Blk (Q.setCell ⟨w10.heap.size, 5, none⟩ (.int .i64 0)) (w8.heap.size) #[.int .i64 cx, .bool nx, .string tx, .int .i64 ex] 34) := Be11.out.other (a := ⟨w10.heap.size, 5, none⟩) ney (.int .i64 0)
        have By12 : Hid (Blk (Q.setCell ⟨w10.heap.size, 5, none⟩ (.int .i64 0)) (w10.heap.size) #[.string I, .int .i64 v, .int .i64 0, .string F, .string ⟨#[48]⟩, .int .i64 0] 23) := By11.out.setC 5 (.int .i64 0)
        have HB12 : Hid (Below w.heap.size w (Q.setCell ⟨w10.heap.size, 5, none⟩ (.int .i64 0))) := HB11.out.setCell (by have := HYL.out; omega) _
        go_upto_region 26 with (fail)
        obtain ⟨G, hG⟩ : ∃ G, G = (Q.setCell ⟨w10.heap.size, 5, none⟩ (.int .i64 0)) := ⟨_, rfl⟩
        rw [← hG] at HB12 Bs12 Bx12 Bd12 Bf12 Be12 By12
        simp only [← hG]
        clear hG fy5 nsy lsy nxy lxy ndy ldy nfy lfy ney ley Bs11 Bx11 Bd11 Bf11 Be11 By11 HB11 HYL ys0 ys1 ys2 ys3 ys4 ys5 yx0 yx1 yx2 yx3 yx4 yx5 yd0 yd1 yd2 yd3 yf0 yf1 yf2 yf3 yf4 yf5 ye0 ye1 ye2 ye3 yy0 yy1 yy2 yy3 yy4 yy5
        obtain ⟨ys0, ys1, ys2, ys3, ys4, ys5⟩ := Bs12.out.six
        obtain ⟨yx0, yx1, yx2, yx3, yx4, yx5⟩ := Bx12.out.six
        obtain ⟨yd0, yd1, yd2, yd3⟩ := Bd12.out.four
        obtain ⟨yf0, yf1, yf2, yf3, yf4, yf5⟩ := Bf12.out.six
        obtain ⟨ye0, ye1, ye2, ye3⟩ := Be12.out.four
        obtain ⟨yy0, yy1, yy2, yy3, yy4, yy5⟩ := By12.out.six
        go_wp2_with fail
        refine (HM.out _).mono ?_
        rintro e w13 ⟨rfl, hb⟩
        have Bs13 := Blk.on Bs12 hb
        have Bx13 := Blk.on Bx12 hb
        have Bd13 := Blk.on Bd12 hb
        have Bf13 := Blk.on Bf12 hb
        have Be13 := Blk.on Be12 hb
        have By13 := Blk.on By12 hb
        have HB13 := hide (HB12.out.trans (hb.mono HB12.out.size))
        clear hb Bs12 Bx12 Bd12 Bf12 Be12 By12 HB12 ys0 ys1 ys2 ys3 ys4 ys5 yx0 yx1 yx2 yx3 yx4 yx5 yd0 yd1 yd2 yd3 yf0 yf1 yf2 yf3 yf4 yf5 ye0 ye1 ye2 ye3 yy0 yy1 yy2 yy3 yy4 yy5
        obtain ⟨ys0, ys1, ys2, ys3, ys4, ys5⟩ := Bs13.out.six
        obtain ⟨yx0, yx1, yx2, yx3, yx4, yx5⟩ := Bx13.out.six
        obtain ⟨yd0, yd1, yd2, yd3⟩ := Bd13.out.four
        obtain ⟨yf0, yf1, yf2, yf3, yf4, yf5⟩ := Bf13.out.six
        obtain ⟨ye0, ye1, ye2, ye3⟩ := Be13.out.four
        obtain ⟨yy0, yy1, yy2, yy3, yy4, yy5⟩ := By13.out.six
        go_wp2
        go_ret
        exact ⟨rfl, HB13.out⟩

end Go.Proofs.YtobloamnaemfnaaDoor

namespace Go.Proofs.YtobloamnaemfnaaDoor
open Go.RowKit

set_option maxRecDepth 100000 in
set_option maxHeartbeats 8000000 in
theorem owho_fn (n : Bool) (ti tf : ByteArray) (x : Int) (I : ByteArray) (v z : Int) (F T R : ByteArray) (cx : Int) (nx : Bool) (tx : ByteArray) (ex rx : Int) (j1 j2 : Nat) (w : World) (htab : Tab w) (hO : ∀ W, Tab W → Calls Tryd.prog 6 #[shV 0 n ti tf x false] W fun e w' => e = .returned (.tuple #[.agg #[.string I, .int .i64 v, .int .i64 z, .string F, .string T, .int .i64 0], .int .i64 0]) ∧ Below W.heap.size W w') (hV : ∀ W, Tab W → Calls Tryd.prog 10 #[.agg #[.int .i64 0, .bool n, .string ti, .string tf, .int .i64 0, .bool false]] W fun e w' => e = .returned (.tuple #[.agg #[.int .i64 cx, .bool nx, .string tx, .int .i64 ex], .int .i64 rx]) ∧ Below W.heap.size W w') (hV2 : ∀ W, Tab W → Calls Tryd.prog 10 #[shV 0 n I R 0 false] W fun e w' => e = .returned (.tuple #[.agg #[.int .i64 cx, .bool nx, .string tx, .int .i64 ex], .int .i64 rx]) ∧ Below W.heap.size W w') (hO2 : ∀ W, Tab W → Calls Tryd.prog 6 #[shV 0 n I R 0 false] W fun e w' => e = .returned (.tuple #[.agg #[.string I, .int .i64 v, .int .i64 z, .string F, .string T, .int .i64 0], .int .i64 0]) ∧ Below W.heap.size W w') (hM : ∀ W, Calls Tryd.prog 11 #[shV 0 n I R 0 false] W fun e w' => e = .returned (.bool true) ∧ Below W.heap.size W w') (hI : I.size ≤ 4000) (v1 : 0 ≤ v) (v2 : v ≤ 4000) (hT : bys T ≠ [48]) (hj1 : (T.size : Int) + (j1 : Int) = z) (hj2 : z + (j2 : Int) = v) (hz : z ≤ 4000) (hR : bys R = List.replicate j1 48 ++ bys T ++ List.replicate j2 48) : Calls Tryd.prog 5 #[shV 0 n ti tf x false] w fun e w' => e = .returned (.bool true) ∧ Below w.heap.size w w' := by
  have HO := hide hO
  have HV := hide hV
  have HV2 := hide hV2
  have HO2 := hide hO2
  have HM := hide hM
  have HT := hide htab
  have h1 : decide (4000 < (I.size : Int)) = false := decide_eq_false (by omega)
  have h2 : decide (4000 < v) = false := decide_eq_false (by omega)
  have HR := hide hR
  clear hO hV hV2 hO2 hM htab hR
  have q1 := ne_nought hT
  clear hT
  have Bs0 := hide (Blk.newAt w (w.heap.size) (rfl) #[.int .i64 0, .bool n, .string ti, .string tf, .int .i64 x, .bool false] 25)
  have HB0 : Hid (Below w.heap.size w (w.alloc (.cells #[.int .i64 0, .bool n, .string ti, .string tf, .int .i64 x, .bool false] 25))) := ((Below.refl _ _).alloc (Nat.le_refl _) _)
  go_enter Tryd.func5, Tryd.ntmps5
  go_wp2_with fail
  refine (HO.out _ (HT.out.below HB0.out)).mono ?_
  rintro e w1 ⟨rfl, hb⟩
  have Bs1 := Blk.on Bs0 hb
  have HB1 := hide (HB0.out.trans (hb.mono HB0.out.size))
  clear hb Bs0 HB0 
  obtain ⟨ys0, ys1, ys2, ys3, ys4, ys5⟩ := Bs1.out.six
  have LSX := hide Bs1.out.lt
  have lsx : w.heap.size < w1.heap.size := Bs1.out.lt
  have Bs2 := Blk.up Bs1 (.cells #[.string I, .int .i64 v, .int .i64 z, .string F, .string T, .int .i64 0] 23)
  have Bx2 := hide ((Blk.newAt w1 (w1.heap.size) (rfl) #[.string I, .int .i64 v, .int .i64 z, .string F, .string T, .int .i64 0] 23))
  have HB2 : Hid (Below w.heap.size w (w1.alloc (.cells #[.string I, .int .i64 v, .int .i64 z, .string F, .string T, .int .i64 0] 23))) := (HB1.out.alloc HB1.out.size _)
  clear Bs1 HB1 ys0 ys1 ys2 ys3 ys4 ys5
  obtain ⟨ys0, ys1, ys2, ys3, ys4, ys5⟩ := Bs2.out.six
  obtain ⟨yx0, yx1, yx2, yx3, yx4, yx5⟩ := Bx2.out.six
  go_wp2_with fail
  refine (qawake_any _ (HT.out.below HB2.out)).mono ?_
  rintro e w3 ⟨rfl, hb⟩
  have Bs3 := Blk.on Bs2 hb
  have Bx3 := Blk.on Bx2 hb
  have HB3 := hide (HB2.out.trans (hb.mono HB2.out.size))
  clear hb Bs2 Bx2 HB2 ys0 ys1 ys2 ys3 ys4 ys5 yx0 yx1 yx2 yx3 yx4 yx5
  obtain ⟨ys0, ys1, ys2, ys3, ys4, ys5⟩ := Bs3.out.six
  obtain ⟨yx0, yx1, yx2, yx3, yx4, yx5⟩ := Bx3.out.six
  have nsx : ¬ w.heap.size = w1.heap.size := by have := LSX.out; omega
  have msx : ¬ w1.heap.size = w.heap.size := by have := LSX.out; omega
  have fs4 := Bs3.out.free 4
  go_upto_region 8 with (fail)
  have Bs4 : Hid (Blk (w3.setCell ⟨w.heap.size, 4, none⟩ (.int .i64 0)) w.heap.size #[.int .i64 0, .bool n, .string ti, .string tf, .int .i64 0, .bool false] 25) := Bs3.out.setC 4 (.int .i64 0)
  have Bx4 : Hid (Blk (w3.setCell ⟨w.heap.size, 4, none⟩ (.int .i64 0)) w1.heap.size #[.string I, .int .i64 v, .int .i64 z, .string F, .string T, .int .i64 0] 23) := Bx3.out.other (a := ⟨w.heap.size, 4, none⟩) nsx (.int .i64 0)
  have HB4 : Hid (Below w.heap.size w (w3.setCell ⟨w.heap.size, 4, none⟩ (.int .i64 0))) := HB3.out.setCell (Nat.le_refl _) _
  obtain ⟨U, hU⟩ : ∃ U, U = (w3.setCell ⟨w.heap.size, 4, none⟩ (.int .i64 0)) := ⟨_, rfl⟩
  rw [← hU] at Bs4 Bx4 HB4
  simp only [← hU]
  clear hU fs4 Bs3 Bx3 HB3 ys0 ys1 ys2 ys3 ys4 ys5 yx0 yx1 yx2 yx3 yx4 yx5
  obtain ⟨ys0, ys1, ys2, ys3, ys4, ys5⟩ := Bs4.out.six
  obtain ⟨yx0, yx1, yx2, yx3, yx4, yx5⟩ := Bx4.out.six
  go_wp2_with fail
  refine (HV.out _ (HT.out.below HB4.out)).mono ?_
  rintro e w5 ⟨rfl, hb⟩
  have Bs5 := Blk.on Bs4 hb
  have Bx5 := Blk.on Bx4 hb
  have HB5 := hide (HB4.out.trans (hb.mono HB4.out.size))
  clear hb Bs4 Bx4 HB4 ys0 ys1 ys2 ys3 ys4 ys5 yx0 yx1 yx2 yx3 yx4 yx5
  obtain ⟨ys0, ys1, ys2, ys3, ys4, ys5⟩ := Bs5.out.six
  obtain ⟨yx0, yx1, yx2, yx3, yx4, yx5⟩ := Bx5.out.six
  have lsd : w.heap.size < w5.heap.size := Bs5.out.lt
  have lxd : w1.heap.size < w5.heap.size := Bx5.out.lt
  have Bs6 := Blk.up Bs5 (.cells #[.int .i64 cx, .bool nx, .string tx, .int .i64 ex] 34)
  have Bx6 := Blk.up Bx5 (.cells #[.int .i64 cx, .bool nx, .string tx, .int .i64 ex] 34)
  have Bd6 := hide ((Blk.newAt w5 (w5.heap.size) (rfl) #[.int .i64 cx, .bool nx, .string tx, .int .i64 ex] 34))
  have HB6 : Hid (Below w.heap.size w (w5.alloc (.cells #[.int .i64 cx, .bool nx, .string tx, .int .i64 ex] 34))) := (HB5.out.alloc HB5.out.size _)
  clear Bs5 Bx5 HB5 ys0 ys1 ys2 ys3 ys4 ys5 yx0 yx1 yx2 yx3 yx4 yx5
  obtain ⟨ys0, ys1, ys2, ys3, ys4, ys5⟩ := Bs6.out.six
  obtain ⟨yx0, yx1, yx2, yx3, yx4, yx5⟩ := Bx6.out.six
  obtain ⟨yd0, yd1, yd2, yd3⟩ := Bd6.out.four
  go_upto_region 9 with (fail)
  obtain ⟨V, hV⟩ : ∃ V, V = (w5.alloc (.cells #[.int .i64 cx, .bool nx, .string tx, .int .i64 ex] 34)) := ⟨_, rfl⟩
  rw [← hV] at HB6 Bs6 Bx6 Bd6 ys0 ys1 ys2 ys3 ys4 ys5 yx0 yx1 yx2 yx3 yx4 yx5 yd0 yd1 yd2 yd3
  simp only [← hV]
  clear hV
  go_wp2
  go_loopw [7, 8] (fun a b wr => ∃ (j : Nat) (A : ByteArray), j ≤ j1 ∧ a = .string A ∧ Hid (bys A = List.replicate j 48) ∧ A.size = j ∧ b = .int .i64 ((T.size : Int) + (j : Int)) ∧ wr = V) (fun _ b _ => (z - intOf b).toNat)
  case atStart => exact ⟨0, ⟨#[]⟩, Nat.zero_le _, rfl, rfl, rfl, by simp, rfl⟩
  case round =>
    obtain ⟨j, A, hj, rfl, hA, hs, rfl, hw⟩ := hrel
    replace hw := hw.symm
    subst hw
    by_cases hlt : j < j1
    · have g1 : (T.size : Int) + (j : Int) < z := by omega
      have s1 : ¬ 9223372036854775807 < A.size + 1 := by omega
      have HA : Hid (bys (A ++ ⟨#[48]⟩) = List.replicate (j + 1) 48) := by rw [bys_append, hA.out, List.replicate_succ']; rfl
      have hs2 : (A ++ ⟨#[48]⟩ : ByteArray).size = j + 1 := by rw [ByteArray.size_append, hs]; rfl
      have HS2 := hide hs2
      clear hA hs2
      go_wp2
      go_roundw
      case rel => exact ⟨j + 1, A ++ ⟨#[48]⟩, by omega, rfl, HA, HS2.out, by go_num, trivial⟩
      case measure => simp [intOf]; omega
    · obtain rfl : j = j1 := by omega
      have g1 : ¬ (T.size : Int) + (j : Int) < z := by omega
      have s1 : ¬ 9223372036854775807 < A.size + T.size := by omega
      have HA := hide (show bys (A ++ T) = List.replicate j 48 ++ bys T by rw [bys_append, hA.out])
      have hs2 : (A ++ T : ByteArray).size = j + T.size := by rw [ByteArray.size_append, hs]
      have HS2 := hide hs2
      clear hA hs2 hlt hj
      go_wp2
      go_loopw [7, 9] (fun a b wr => ∃ (i : Nat) (A : ByteArray), i ≤ j2 ∧ a = .string A ∧ Hid (bys A = (List.replicate j 48 ++ bys T) ++ List.replicate i 48) ∧ A.size = (j + T.size) + i ∧ b = .int .i64 (z + (i : Int)) ∧ wr = V) (fun _ b _ => (v - intOf b).toNat)
      case atStart => exact ⟨0, A ++ T, Nat.zero_le _, rfl, hide (by rw [HA.out]; simp), by rw [HS2.out]; omega, by simp, rfl⟩
      case round =>
        clear HA HS2
        obtain ⟨i, B, hi, rfl, hB, hs3, rfl, hw⟩ := hrel
        replace hw := hw.symm
        subst hw
        by_cases hlt2 : i < j2
        · have g2 : z + (i : Int) < v := by omega
          have s2 : ¬ 9223372036854775807 < B.size + 1 := by omega
          have HB2 : Hid (bys (B ++ ⟨#[48]⟩) = (List.replicate j 48 ++ bys T) ++ List.replicate (i + 1) 48) := by rw [bys_append, hB.out, List.replicate_succ', ← List.append_assoc]; rfl
          have HS3 := hide (show (B ++ ⟨#[48]⟩ : ByteArray).size = (j + T.size) + (i + 1) by rw [ByteArray.size_append, hs3]; rfl)
          clear hB
          go_wp2
          go_roundw
          case rel => exact ⟨i + 1, B ++ ⟨#[48]⟩, by omega, rfl, HB2, HS3.out, by go_num, trivial⟩
          case measure => simp [intOf]; omega
        · obtain rfl : i = j2 := by omega
          have g2 : ¬ z + (i : Int) < v := by omega
          obtain rfl : B = R := bys_inj (by rw [hB.out, HR.out])
          clear hB hlt2 hi 
          have lst : w.heap.size < V.heap.size := Bs6.out.lt
          have lsx2 : w1.heap.size < V.heap.size := Bx6.out.lt
          go_upto_region 23 with (fail)
          clear lst lsx2
          have Bs7 := Blk.up Bs6 (.cells #[.int .i64 0, .bool n, .string I, .string B, .int .i64 0, .bool false] 25)
          have Bx7 := Blk.up Bx6 (.cells #[.int .i64 0, .bool n, .string I, .string B, .int .i64 0, .bool false] 25)
          have Bd7 := Blk.up Bd6 (.cells #[.int .i64 0, .bool n, .string I, .string B, .int .i64 0, .bool false] 25)
          have Bf7 := hide ((Blk.newAt V (V.heap.size) (rfl) #[.int .i64 0, .bool n, .string I, .string B, .int .i64 0, .bool false] 25))
          have HB7 : Hid (Below w.heap.size w (V.alloc (.cells #[.int .i64 0, .bool n, .string I, .string B, .int .i64 0, .bool false] 25))) := (HB6.out.alloc HB6.out.size _)
          clear Bs6 Bx6 Bd6 HB6 ys0 ys1 ys2 ys3 ys4 ys5 yx0 yx1 yx2 yx3 yx4 yx5 yd0 yd1 yd2 yd3
          obtain ⟨ys0, ys1, ys2, ys3, ys4, ys5⟩ := Bs7.out.six
          obtain ⟨yx0, yx1, yx2, yx3, yx4, yx5⟩ := Bx7.out.six
          obtain ⟨yd0, yd1, yd2, yd3⟩ := Bd7.out.four
          obtain ⟨yf0, yf1, yf2, yf3, yf4, yf5⟩ := Bf7.out.six
          go_wp2_with fail
          refine (HV2.out _ (HT.out.below HB7.out)).mono ?_
          rintro e w8 ⟨rfl, hb⟩
          have Bs8 := Blk.on Bs7 hb
          have Bx8 := Blk.on Bx7 hb
          have Bd8 := Blk.on Bd7 hb
          have Bf8 := Blk.on Bf7 hb
          have HB8 := hide (HB7.out.trans (hb.mono HB7.out.size))
          clear hb Bs7 Bx7 Bd7 Bf7 HB7 ys0 ys1 ys2 ys3 ys4 ys5 yx0 yx1 yx2 yx3 yx4 yx5 yd0 yd1 yd2 yd3 yf0 yf1 yf2 yf3 yf4 yf5
          obtain ⟨ys0, ys1, ys2, ys3, ys4, ys5⟩ := Bs8.out.six
          obtain ⟨yx0, yx1, yx2, yx3, yx4, yx5⟩ := Bx8.out.six
          obtain ⟨yd0, yd1, yd2, yd3⟩ := Bd8.out.four
          obtain ⟨yf0, yf1, yf2, yf3, yf4, yf5⟩ := Bf8.out.six
          have Bs9 := Blk.up Bs8 (.cells #[.int .i64 cx, .bool nx, .string tx, .int .i64 ex] 34)
          have Bx9 := Blk.up Bx8 (.cells #[.int .i64 cx, .bool nx, .string tx, .int .i64 ex] 34)
          have Bd9 := Blk.up Bd8 (.cells #[.int .i64 cx, .bool nx, .string tx, .int .i64 ex] 34)
          have Bf9 := Blk.up Bf8 (.cells #[.int .i64 cx, .bool nx, .string tx, .int .i64 ex] 34)
          have Be9 := hide ((Blk.newAt w8 (w8.heap.size) (rfl) #[.int .i64 cx, .bool nx, .string tx, .int .i64 ex] 34))
          have HB9 : Hid (Below w.heap.size w (w8.alloc (.cells #[.int .i64 cx, .bool nx, .string tx, .int .i64 ex] 34))) := (HB8.out.alloc HB8.out.size _)
          clear Bs8 Bx8 Bd8 Bf8 HB8 ys0 ys1 ys2 ys3 ys4 ys5 yx0 yx1 yx2 yx3 yx4 yx5 yd0 yd1 yd2 yd3 yf0 yf1 yf2 yf3 yf4 yf5
          obtain ⟨ys0, ys1, ys2, ys3, ys4, ys5⟩ := Bs9.out.six
          obtain ⟨yx0, yx1, yx2, yx3, yx4, yx5⟩ := Bx9.out.six
          obtain ⟨yd0, yd1, yd2, yd3⟩ := Bd9.out.four
          obtain ⟨yf0, yf1, yf2, yf3, yf4, yf5⟩ := Bf9.out.six
          obtain ⟨ye0, ye1, ye2, ye3⟩ := Be9.out.four
          go_wp2_with fail
          refine (HO2.out _ (HT.out.below HB9.out)).mono ?_
          rintro e w10 ⟨rfl, hb⟩
          have Bs10 := Blk.on Bs9 hb
          have Bx10 := Blk.on Bx9 hb
          have Bd10 := Blk.on Bd9 hb
          have Bf10 := Blk.on Bf9 hb
          have Be10 := Blk.on Be9 hb
          have HB10 := hide (HB9.out.trans (hb.mono HB9.out.size))
          clear hb Bs9 Bx9 Bd9 Bf9 Be9 HB9 ys0 ys1 ys2 ys3 ys4 ys5 yx0 yx1 yx2 yx3 yx4 yx5 yd0 yd1 yd2 yd3 yf0 yf1 yf2 yf3 yf4 yf5 ye0 ye1 ye2 ye3
          obtain ⟨ys0, ys1, ys2, ys3, ys4, ys5⟩ := Bs10.out.six
          obtain ⟨yx0, yx1, yx2, yx3, yx4, yx5⟩ := Bx10.out.six
          obtain ⟨yd0, yd1, yd2, yd3⟩ := Bd10.out.four
          obtain ⟨yf0, yf1, yf2, yf3, yf4, yf5⟩ := Bf10.out.six
          obtain ⟨ye0, ye1, ye2, ye3⟩ := Be10.out.four
          have HYL := hide HB10.out.size
          have lsy : w.heap.size < w10.heap.size := Bs10.out.lt
          have lxy : w1.heap.size < w10.heap.size := Bx10.out.lt
          have ldy : w5.heap.size < w10.heap.size := Bd10.out.lt
          have lfy : V.heap.size < w10.heap.size := Bf10.out.lt
          have ley : w8.heap.size < w10.heap.size := Be10.out.lt
          have Bs11 := Blk.up Bs10 (.cells #[.string I, .int .i64 v, .int .i64 z, .string F, .string T, .int .i64 0] 23)
          have Bx11 := Blk.up Bx10 (.cells #[.string I, .int .i64 v, .int .i64 z, .string F, .string T, .int .i64 0] 23)
          have Bd11 := Blk.up Bd10 (.cells #[.string I, .int .i64 v, .int .i64 z, .string F, .string T, .int .i64 0] 23)
          have Bf11 := Blk.up Bf10 (.cells #[.string I, .int .i64 v, .int .i64 z, .string F, .string T, .int .i64 0] 23)
          have Be11 := Blk.up Be10 (.cells #[.string I, .int .i64 v, .int .i64 z, .string F, .string T, .int .i64 0] 23)
          have By11 := hide ((Blk.newAt w10 (w10.heap.size) (rfl) #[.string I, .int .i64 v, .int .i64 z, .string F, .string T, .int .i64 0] 23))
          have HB11 : Hid (Below w.heap.size w (w10.alloc (.cells #[.string I, .int .i64 v, .int .i64 z, .string F, .string T, .int .i64 0] 23))) := (HB10.out.alloc HB10.out.size _)
          clear Bs10 Bx10 Bd10 Bf10 Be10 HB10 ys0 ys1 ys2 ys3 ys4 ys5 yx0 yx1 yx2 yx3 yx4 yx5 yd0 yd1 yd2 yd3 yf0 yf1 yf2 yf3 yf4 yf5 ye0 ye1 ye2 ye3
          obtain ⟨ys0, ys1, ys2, ys3, ys4, ys5⟩ := Bs11.out.six
          obtain ⟨yx0, yx1, yx2, yx3, yx4, yx5⟩ := Bx11.out.six
          obtain ⟨yd0, yd1, yd2, yd3⟩ := Bd11.out.four
          obtain ⟨yf0, yf1, yf2, yf3, yf4, yf5⟩ := Bf11.out.six
          obtain ⟨ye0, ye1, ye2, ye3⟩ := Be11.out.four
          obtain ⟨yy0, yy1, yy2, yy3, yy4, yy5⟩ := By11.out.six
          go_upto_region 25 with (fail)
          obtain ⟨Q, hQ⟩ : ∃ Q, Q = (w10.alloc (.cells #[.string I, .int .i64 v, .int .i64 z, .string F, .string T, .int .i64 0] 23)) := ⟨_, rfl⟩
          rw [← hQ] at HB11 Bs11 Bx11 Bd11 Bf11 Be11 By11 ys0 ys1 ys2 ys3 ys4 ys5 yx0 yx1 yx2 yx3 yx4 yx5 yd0 yd1 yd2 yd3 yf0 yf1 yf2 yf3 yf4 yf5 ye0 ye1 ye2 ye3 yy0 yy1 yy2 yy3 yy4 yy5
          simp only [← hQ]
          clear hQ
          have fy5 := By11.out.free 5
          have nsy : ¬ w10.heap.size = w.heap.size := by omega
          have nxy : ¬ w10.heap.size = w1.heap.size := by omega
          have ndy : ¬ w10.heap.size = w5.heap.size := by omega
          have nfy : ¬ w10.heap.size = V.heap.size := by omega
          have ney : ¬ w10.heap.size = w8.heap.size := by omega
          have Bs12 : Hid (Blk (Q.setCell ⟨w10.heap.size, 5, none⟩ (.int .i64 0)) (w.heap.size) #[.int .i64 0, .bool n, .string ti, .string tf, .int .i64 0, .bool false] 25) := Bs11.out.other (a := ⟨w10.heap.size, 5, none⟩) nsy (.int .i64 0)
          have Bx12 : Hid (Blk (Q.setCell ⟨w10.heap.size, 5, none⟩ (.int .i64 0)) (w1.heap.size) #[.string I, .int .i64 v, .int .i64 z, .string F, .string T, .int .i64 0] 23) := Bx11.out.other (a := ⟨w10.heap.size, 5, none⟩) nxy (.int .i64 0)
          have Bd12 : Hid (Blk (Q.setCell ⟨w10.heap.size, 5, none⟩ (.int .i64 0)) (w5.heap.size) #[.int .i64 cx, .bool nx, .string tx, .int .i64 ex] 34) := Bd11.out.other (a := ⟨w10.heap.size, 5, none⟩) ndy (.int .i64 0)
          have Bf12 : Hid (Blk (Q.setCell ⟨w10.heap.size, 5, none⟩ (.int .i64 0)) (V.heap.size) #[.int .i64 0, .bool n, .string I, .string B, .int .i64 0, .bool false] 25) := Bf11.out.other (a := ⟨w10.heap.size, 5, none⟩) nfy (.int .i64 0)
          have Be12 : Hid (Blk (Q.setCell ⟨w10.heap.size, 5, none⟩ (.int .i64 0)) (w8.heap.size) #[.int .i64 cx, .bool nx, .string tx, .int .i64 ex] 34) := Be11.out.other (a := ⟨w10.heap.size, 5, none⟩) ney (.int .i64 0)
          have By12 : Hid (Blk (Q.setCell ⟨w10.heap.size, 5, none⟩ (.int .i64 0)) (w10.heap.size) #[.string I, .int .i64 v, .int .i64 z, .string F, .string T, .int .i64 0] 23) := By11.out.setC 5 (.int .i64 0)
          have HB12 : Hid (Below w.heap.size w (Q.setCell ⟨w10.heap.size, 5, none⟩ (.int .i64 0))) := HB11.out.setCell (by have := HYL.out; omega) _
          go_upto_region 26 with (fail)
          obtain ⟨G, hG⟩ : ∃ G, G = (Q.setCell ⟨w10.heap.size, 5, none⟩ (.int .i64 0)) := ⟨_, rfl⟩
          rw [← hG] at HB12 Bs12 Bx12 Bd12 Bf12 Be12 By12
          simp only [← hG]
          clear hG fy5 nsy lsy nxy lxy ndy ldy nfy lfy ney ley Bs11 Bx11 Bd11 Bf11 Be11 By11 HB11 HYL ys0 ys1 ys2 ys3 ys4 ys5 yx0 yx1 yx2 yx3 yx4 yx5 yd0 yd1 yd2 yd3 yf0 yf1 yf2 yf3 yf4 yf5 ye0 ye1 ye2 ye3 yy0 yy1 yy2 yy3 yy4 yy5
          obtain ⟨ys0, ys1, ys2, ys3, ys4, ys5⟩ := Bs12.out.six
          obtain ⟨yx0, yx1, yx2, yx3, yx4, yx5⟩ := Bx12.out.six
          obtain ⟨yd0, yd1, yd2, yd3⟩ := Bd12.out.four
          obtain ⟨yf0, yf1, yf2, yf3, yf4, yf5⟩ := Bf12.out.six
          obtain ⟨ye0, ye1, ye2, ye3⟩ := Be12.out.four
          obtain ⟨yy0, yy1, yy2, yy3, yy4, yy5⟩ := By12.out.six
          go_wp2_with fail
          refine (HM.out _).mono ?_
          rintro e w13 ⟨rfl, hb⟩
          have Bs13 := Blk.on Bs12 hb
          have Bx13 := Blk.on Bx12 hb
          have Bd13 := Blk.on Bd12 hb
          have Bf13 := Blk.on Bf12 hb
          have Be13 := Blk.on Be12 hb
          have By13 := Blk.on By12 hb
          have HB13 := hide (HB12.out.trans (hb.mono HB12.out.size))
          clear hb Bs12 Bx12 Bd12 Bf12 Be12 By12 HB12 ys0 ys1 ys2 ys3 ys4 ys5 yx0 yx1 yx2 yx3 yx4 yx5 yd0 yd1 yd2 yd3 yf0 yf1 yf2 yf3 yf4 yf5 ye0 ye1 ye2 ye3 yy0 yy1 yy2 yy3 yy4 yy5
          obtain ⟨ys0, ys1, ys2, ys3, ys4, ys5⟩ := Bs13.out.six
          obtain ⟨yx0, yx1, yx2, yx3, yx4, yx5⟩ := Bx13.out.six
          obtain ⟨yd0, yd1, yd2, yd3⟩ := Bd13.out.four
          obtain ⟨yf0, yf1, yf2, yf3, yf4, yf5⟩ := Bf13.out.six
          obtain ⟨ye0, ye1, ye2, ye3⟩ := Be13.out.four
          obtain ⟨yy0, yy1, yy2, yy3, yy4, yy5⟩ := By13.out.six
          go_wp2
          go_ret
          exact ⟨rfl, HB13.out⟩

end Go.Proofs.YtobloamnaemfnaaDoor

namespace Go.Proofs.YtobloamnaemfnaaDoor
open Go.RowKit

set_option maxRecDepth 100000 in
set_option maxHeartbeats 8000000 in
theorem owho_tz (n : Bool) (ti tf : ByteArray) (x : Int) (I : ByteArray) (v : Int) (F R : ByteArray) (cx : Int) (nx : Bool) (tx : ByteArray) (ex rx : Int) (j2 : Nat) (w : World) (htab : Tab w) (hO : ∀ W, Tab W → Calls Tryd.prog 6 #[shV 0 n ti tf x true] W fun e w' => e = .returned (.tuple #[.agg #[.string I, .int .i64 v, .int .i64 0, .string F, .string ⟨#[48]⟩, .int .i64 x], .int .i64 0]) ∧ Below W.heap.size W w') (hV : ∀ W, Tab W → Calls Tryd.prog 10 #[.agg #[.int .i64 0, .bool n, .string ti, .string tf, .int .i64 x, .bool true]] W fun e w' => e = .returned (.tuple #[.agg #[.int .i64 cx, .bool nx, .string tx, .int .i64 ex], .int .i64 rx]) ∧ Below W.heap.size W w') (hV2 : ∀ W, Tab W → Calls Tryd.prog 10 #[shV 0 n I R 0 false] W fun e w' => e = .returned (.tuple #[.agg #[.int .i64 cx, .bool nx, .string tx, .int .i64 ex], .int .i64 rx]) ∧ Below W.heap.size W w') (hO2 : ∀ W, Tab W → Calls Tryd.prog 6 #[shV 0 n I R 0 false] W fun e w' => e = .returned (.tuple #[.agg #[.string I, .int .i64 v, .int .i64 0, .string F, .string ⟨#[48]⟩, .int .i64 0], .int .i64 0]) ∧ Below W.heap.size W w') (hM : ∀ W, Calls Tryd.prog 11 #[shV 0 n I R 0 false] W fun e w' => e = .returned (.bool true) ∧ Below W.heap.size W w') (hI : I.size ≤ 4000) (v1 : 0 ≤ v) (v2 : v ≤ 4000) (hj2 : (j2 : Int) = v) (hR : bys R = List.replicate j2 48) : Calls Tryd.prog 5 #[shV 0 n ti tf x true] w fun e w' => e = .returned (.bool true) ∧ Below w.heap.size w w' := by
  have HO := hide hO
  have HV := hide hV
  have HV2 := hide hV2
  have HO2 := hide hO2
  have HM := hide hM
  have HT := hide htab
  have h1 : decide (4000 < (I.size : Int)) = false := decide_eq_false (by omega)
  have h2 : decide (4000 < v) = false := decide_eq_false (by omega)
  have HR := hide hR
  clear hO hV hV2 hO2 hM htab hR
  have Bs0 := hide (Blk.newAt w (w.heap.size) (rfl) #[.int .i64 0, .bool n, .string ti, .string tf, .int .i64 x, .bool true] 25)
  have HB0 : Hid (Below w.heap.size w (w.alloc (.cells #[.int .i64 0, .bool n, .string ti, .string tf, .int .i64 x, .bool true] 25))) := ((Below.refl _ _).alloc (Nat.le_refl _) _)
  go_enter Tryd.func5, Tryd.ntmps5
  go_wp2_with fail
  refine (HO.out _ (HT.out.below HB0.out)).mono ?_
  rintro e w1 ⟨rfl, hb⟩
  have Bs1 := Blk.on Bs0 hb
  have HB1 := hide (HB0.out.trans (hb.mono HB0.out.size))
  clear hb Bs0 HB0 
  obtain ⟨ys0, ys1, ys2, ys3, ys4, ys5⟩ := Bs1.out.six
  have lsx : w.heap.size < w1.heap.size := Bs1.out.lt
  have Bs2 := Blk.up Bs1 (.cells #[.string I, .int .i64 v, .int .i64 0, .string F, .string ⟨#[48]⟩, .int .i64 x] 23)
  have Bx2 := hide ((Blk.newAt w1 (w1.heap.size) (rfl) #[.string I, .int .i64 v, .int .i64 0, .string F, .string ⟨#[48]⟩, .int .i64 x] 23))
  have HB2 : Hid (Below w.heap.size w (w1.alloc (.cells #[.string I, .int .i64 v, .int .i64 0, .string F, .string ⟨#[48]⟩, .int .i64 x] 23))) := (HB1.out.alloc HB1.out.size _)
  clear Bs1 HB1 ys0 ys1 ys2 ys3 ys4 ys5
  obtain ⟨ys0, ys1, ys2, ys3, ys4, ys5⟩ := Bs2.out.six
  obtain ⟨yx0, yx1, yx2, yx3, yx4, yx5⟩ := Bx2.out.six
  go_wp2_with fail
  refine (qawake_any _ (HT.out.below HB2.out)).mono ?_
  rintro e w3 ⟨rfl, hb⟩
  have Bs3 := Blk.on Bs2 hb
  have Bx3 := Blk.on Bx2 hb
  have HB3 := hide (HB2.out.trans (hb.mono HB2.out.size))
  clear hb Bs2 Bx2 HB2 ys0 ys1 ys2 ys3 ys4 ys5 yx0 yx1 yx2 yx3 yx4 yx5
  obtain ⟨ys0, ys1, ys2, ys3, ys4, ys5⟩ := Bs3.out.six
  obtain ⟨yx0, yx1, yx2, yx3, yx4, yx5⟩ := Bx3.out.six
  go_wp2_with fail
  refine (HV.out _ (HT.out.below HB3.out)).mono ?_
  rintro e w4 ⟨rfl, hb⟩
  have Bs4 := Blk.on Bs3 hb
  have Bx4 := Blk.on Bx3 hb
  have HB4 := hide (HB3.out.trans (hb.mono HB3.out.size))
  clear hb Bs3 Bx3 HB3 ys0 ys1 ys2 ys3 ys4 ys5 yx0 yx1 yx2 yx3 yx4 yx5
  obtain ⟨ys0, ys1, ys2, ys3, ys4, ys5⟩ := Bs4.out.six
  obtain ⟨yx0, yx1, yx2, yx3, yx4, yx5⟩ := Bx4.out.six
  have lsd : w.heap.size < w4.heap.size := Bs4.out.lt
  have lxd : w1.heap.size < w4.heap.size := Bx4.out.lt
  have Bs5 := Blk.up Bs4 (.cells #[.int .i64 cx, .bool nx, .string tx, .int .i64 ex] 34)
  have Bx5 := Blk.up Bx4 (.cells #[.int .i64 cx, .bool nx, .string tx, .int .i64 ex] 34)
  have Bd5 := hide ((Blk.newAt w4 (w4.heap.size) (rfl) #[.int .i64 cx, .bool nx, .string tx, .int .i64 ex] 34))
  have HB5 : Hid (Below w.heap.size w (w4.alloc (.cells #[.int .i64 cx, .bool nx, .string tx, .int .i64 ex] 34))) := (HB4.out.alloc HB4.out.size _)
  clear Bs4 Bx4 HB4 ys0 ys1 ys2 ys3 ys4 ys5 yx0 yx1 yx2 yx3 yx4 yx5
  obtain ⟨ys0, ys1, ys2, ys3, ys4, ys5⟩ := Bs5.out.six
  obtain ⟨yx0, yx1, yx2, yx3, yx4, yx5⟩ := Bx5.out.six
  obtain ⟨yd0, yd1, yd2, yd3⟩ := Bd5.out.four
  go_upto_region 9 with (fail)
  obtain ⟨V, hV⟩ : ∃ V, V = (w4.alloc (.cells #[.int .i64 cx, .bool nx, .string tx, .int .i64 ex] 34)) := ⟨_, rfl⟩
  rw [← hV] at HB5 Bs5 Bx5 Bd5 ys0 ys1 ys2 ys3 ys4 ys5 yx0 yx1 yx2 yx3 yx4 yx5 yd0 yd1 yd2 yd3
  simp only [← hV]
  clear hV
  go_wp2
  go_loopw [7, 8] (fun a b wr => a = .string ⟨#[]⟩ ∧ b = .int .i64 1 ∧ wr = V) (fun _ _ _ => 0)
  case atStart => exact ⟨rfl, rfl, rfl⟩
  case round =>
    obtain ⟨rfl, rfl, hw⟩ := hrel
    replace hw := hw.symm
    subst hw
    go_wp2
    go_loopw [7, 9] (fun a b wr => ∃ (i : Nat) (A : ByteArray), i ≤ j2 ∧ a = .string A ∧ Hid (bys A = ([] : List UInt8) ++ List.replicate i 48) ∧ A.size = 0 + i ∧ b = .int .i64 (0 + (i : Int)) ∧ wr = V) (fun _ b _ => (v - intOf b).toNat)
    case atStart => exact ⟨0, ⟨#[]⟩, Nat.zero_le _, rfl, rfl, rfl, by simp, rfl⟩
    case round =>
      obtain ⟨i, B, hi, rfl, hB, hs3, rfl, hw⟩ := hrel
      replace hw := hw.symm
      subst hw
      by_cases hlt2 : i < j2
      · have g2 : 0 + (i : Int) < v := by omega
        have s2 : ¬ 9223372036854775807 < B.size + 1 := by omega
        have HB2 : Hid (bys (B ++ ⟨#[48]⟩) = ([] : List UInt8) ++ List.replicate (i + 1) 48) := by rw [bys_append, hB.out, List.replicate_succ', ← List.append_assoc]; rfl
        have HS3 := hide (show (B ++ ⟨#[48]⟩ : ByteArray).size = 0 + (i + 1) by rw [ByteArray.size_append, hs3]; rfl)
        clear hB
        go_wp2
        go_roundw
        case rel => exact ⟨i + 1, B ++ ⟨#[48]⟩, by omega, rfl, HB2, HS3.out, by go_num, trivial⟩
        case measure => simp [intOf]; omega
      · obtain rfl : i = j2 := by omega
        have g2 : ¬ 0 + (i : Int) < v := by omega
        obtain rfl : B = R := bys_inj (by rw [hB.out, HR.out]; rfl)
        have g3 : decide (v < (B.size : Int)) = false := decide_eq_false (by omega)
        clear hB hlt2 hi
        have lst : w.heap.size < V.heap.size := Bs5.out.lt
        have lsx2 : w1.heap.size < V.heap.size := Bx5.out.lt
        go_upto_region 23 with (fail)
        clear lst lsx2
        have Bs6 := Blk.up Bs5 (.cells #[.int .i64 0, .bool n, .string I, .string B, .int .i64 0, .bool false] 25)
        have Bx6 := Blk.up Bx5 (.cells #[.int .i64 0, .bool n, .string I, .string B, .int .i64 0, .bool false] 25)
        have Bd6 := Blk.up Bd5 (.cells #[.int .i64 0, .bool n, .string I, .string B, .int .i64 0, .bool false] 25)
        have Bf6 := hide ((Blk.newAt V (V.heap.size) (rfl) #[.int .i64 0, .bool n, .string I, .string B, .int .i64 0, .bool false] 25))
        have HB6 : Hid (Below w.heap.size w (V.alloc (.cells #[.int .i64 0, .bool n, .string I, .string B, .int .i64 0, .bool false] 25))) := (HB5.out.alloc HB5.out.size _)
        clear Bs5 Bx5 Bd5 HB5 ys0 ys1 ys2 ys3 ys4 ys5 yx0 yx1 yx2 yx3 yx4 yx5 yd0 yd1 yd2 yd3
        obtain ⟨ys0, ys1, ys2, ys3, ys4, ys5⟩ := Bs6.out.six
        obtain ⟨yx0, yx1, yx2, yx3, yx4, yx5⟩ := Bx6.out.six
        obtain ⟨yd0, yd1, yd2, yd3⟩ := Bd6.out.four
        obtain ⟨yf0, yf1, yf2, yf3, yf4, yf5⟩ := Bf6.out.six
        go_wp2_with fail
        refine (HV2.out _ (HT.out.below HB6.out)).mono ?_
        rintro e w7 ⟨rfl, hb⟩
        have Bs7 := Blk.on Bs6 hb
        have Bx7 := Blk.on Bx6 hb
        have Bd7 := Blk.on Bd6 hb
        have Bf7 := Blk.on Bf6 hb
        have HB7 := hide (HB6.out.trans (hb.mono HB6.out.size))
        clear hb Bs6 Bx6 Bd6 Bf6 HB6 ys0 ys1 ys2 ys3 ys4 ys5 yx0 yx1 yx2 yx3 yx4 yx5 yd0 yd1 yd2 yd3 yf0 yf1 yf2 yf3 yf4 yf5
        obtain ⟨ys0, ys1, ys2, ys3, ys4, ys5⟩ := Bs7.out.six
        obtain ⟨yx0, yx1, yx2, yx3, yx4, yx5⟩ := Bx7.out.six
        obtain ⟨yd0, yd1, yd2, yd3⟩ := Bd7.out.four
        obtain ⟨yf0, yf1, yf2, yf3, yf4, yf5⟩ := Bf7.out.six
        have Bs8 := Blk.up Bs7 (.cells #[.int .i64 cx, .bool nx, .string tx, .int .i64 ex] 34)
        have Bx8 := Blk.up Bx7 (.cells #[.int .i64 cx, .bool nx, .string tx, .int .i64 ex] 34)
        have Bd8 := Blk.up Bd7 (.cells #[.int .i64 cx, .bool nx, .string tx, .int .i64 ex] 34)
        have Bf8 := Blk.up Bf7 (.cells #[.int .i64 cx, .bool nx, .string tx, .int .i64 ex] 34)
        have Be8 := hide ((Blk.newAt w7 (w7.heap.size) (rfl) #[.int .i64 cx, .bool nx, .string tx, .int .i64 ex] 34))
        have HB8 : Hid (Below w.heap.size w (w7.alloc (.cells #[.int .i64 cx, .bool nx, .string tx, .int .i64 ex] 34))) := (HB7.out.alloc HB7.out.size _)
        clear Bs7 Bx7 Bd7 Bf7 HB7 ys0 ys1 ys2 ys3 ys4 ys5 yx0 yx1 yx2 yx3 yx4 yx5 yd0 yd1 yd2 yd3 yf0 yf1 yf2 yf3 yf4 yf5
        obtain ⟨ys0, ys1, ys2, ys3, ys4, ys5⟩ := Bs8.out.six
        obtain ⟨yx0, yx1, yx2, yx3, yx4, yx5⟩ := Bx8.out.six
        obtain ⟨yd0, yd1, yd2, yd3⟩ := Bd8.out.four
        obtain ⟨yf0, yf1, yf2, yf3, yf4, yf5⟩ := Bf8.out.six
        obtain ⟨ye0, ye1, ye2, ye3⟩ := Be8.out.four
        go_wp2_with fail
        refine (HO2.out _ (HT.out.below HB8.out)).mono ?_
        rintro e w9 ⟨rfl, hb⟩
        have Bs9 := Blk.on Bs8 hb
        have Bx9 := Blk.on Bx8 hb
        have Bd9 := Blk.on Bd8 hb
        have Bf9 := Blk.on Bf8 hb
        have Be9 := Blk.on Be8 hb
        have HB9 := hide (HB8.out.trans (hb.mono HB8.out.size))
        clear hb Bs8 Bx8 Bd8 Bf8 Be8 HB8 ys0 ys1 ys2 ys3 ys4 ys5 yx0 yx1 yx2 yx3 yx4 yx5 yd0 yd1 yd2 yd3 yf0 yf1 yf2 yf3 yf4 yf5 ye0 ye1 ye2 ye3
        obtain ⟨ys0, ys1, ys2, ys3, ys4, ys5⟩ := Bs9.out.six
        obtain ⟨yx0, yx1, yx2, yx3, yx4, yx5⟩ := Bx9.out.six
        obtain ⟨yd0, yd1, yd2, yd3⟩ := Bd9.out.four
        obtain ⟨yf0, yf1, yf2, yf3, yf4, yf5⟩ := Bf9.out.six
        obtain ⟨ye0, ye1, ye2, ye3⟩ := Be9.out.four
        have HYL := hide HB9.out.size
        have lsy : w.heap.size < w9.heap.size := Bs9.out.lt
        have lxy : w1.heap.size < w9.heap.size := Bx9.out.lt
        have ldy : w4.heap.size < w9.heap.size := Bd9.out.lt
        have lfy : V.heap.size < w9.heap.size := Bf9.out.lt
        have ley : w7.heap.size < w9.heap.size := Be9.out.lt
        have Bs10 := Blk.up Bs9 (.cells #[.string I, .int .i64 v, .int .i64 0, .string F, .string ⟨#[48]⟩, .int .i64 0] 23)
        have Bx10 := Blk.up Bx9 (.cells #[.string I, .int .i64 v, .int .i64 0, .string F, .string ⟨#[48]⟩, .int .i64 0] 23)
        have Bd10 := Blk.up Bd9 (.cells #[.string I, .int .i64 v, .int .i64 0, .string F, .string ⟨#[48]⟩, .int .i64 0] 23)
        have Bf10 := Blk.up Bf9 (.cells #[.string I, .int .i64 v, .int .i64 0, .string F, .string ⟨#[48]⟩, .int .i64 0] 23)
        have Be10 := Blk.up Be9 (.cells #[.string I, .int .i64 v, .int .i64 0, .string F, .string ⟨#[48]⟩, .int .i64 0] 23)
        have By10 := hide ((Blk.newAt w9 (w9.heap.size) (rfl) #[.string I, .int .i64 v, .int .i64 0, .string F, .string ⟨#[48]⟩, .int .i64 0] 23))
        have HB10 : Hid (Below w.heap.size w (w9.alloc (.cells #[.string I, .int .i64 v, .int .i64 0, .string F, .string ⟨#[48]⟩, .int .i64 0] 23))) := (HB9.out.alloc HB9.out.size _)
        clear Bs9 Bx9 Bd9 Bf9 Be9 HB9 ys0 ys1 ys2 ys3 ys4 ys5 yx0 yx1 yx2 yx3 yx4 yx5 yd0 yd1 yd2 yd3 yf0 yf1 yf2 yf3 yf4 yf5 ye0 ye1 ye2 ye3
        obtain ⟨ys0, ys1, ys2, ys3, ys4, ys5⟩ := Bs10.out.six
        obtain ⟨yx0, yx1, yx2, yx3, yx4, yx5⟩ := Bx10.out.six
        obtain ⟨yd0, yd1, yd2, yd3⟩ := Bd10.out.four
        obtain ⟨yf0, yf1, yf2, yf3, yf4, yf5⟩ := Bf10.out.six
        obtain ⟨ye0, ye1, ye2, ye3⟩ := Be10.out.four
        obtain ⟨yy0, yy1, yy2, yy3, yy4, yy5⟩ := By10.out.six
        go_upto_region 25 with (fail)
        obtain ⟨Q, hQ⟩ : ∃ Q, Q = (w9.alloc (.cells #[.string I, .int .i64 v, .int .i64 0, .string F, .string ⟨#[48]⟩, .int .i64 0] 23)) := ⟨_, rfl⟩
        rw [← hQ] at HB10 Bs10 Bx10 Bd10 Bf10 Be10 By10 ys0 ys1 ys2 ys3 ys4 ys5 yx0 yx1 yx2 yx3 yx4 yx5 yd0 yd1 yd2 yd3 yf0 yf1 yf2 yf3 yf4 yf5 ye0 ye1 ye2 ye3 yy0 yy1 yy2 yy3 yy4 yy5
        simp only [← hQ]
        clear hQ
        have fy5 := By10.out.free 5
        have nsy : ¬ w9.heap.size = w.heap.size := by omega
        have nxy : ¬ w9.heap.size = w1.heap.size := by omega
        have ndy : ¬ w9.heap.size = w4.heap.size := by omega
        have nfy : ¬ w9.heap.size = V.heap.size := by omega
        have ney : ¬ w9.heap.size = w7.heap.size := by omega
        have Bs11 : Hid (Blk (Q.setCell ⟨w9.heap.size, 5, none⟩ (.int .i64 x)) (w.heap.size) #[.int .i64 0, .bool n, .string ti, .string tf, .int .i64 x, .bool true] 25) := Bs10.out.other (a := ⟨w9.heap.size, 5, none⟩) nsy (.int .i64 x)
        have Bx11 : Hid (Blk (Q.setCell ⟨w9.heap.size, 5, none⟩ (.int .i64 x)) (w1.heap.size) #[.string I, .int .i64 v, .int .i64 0, .string F, .string ⟨#[48]⟩, .int .i64 x] 23) := Bx10.out.other (a := ⟨w9.heap.size, 5, none⟩) nxy (.int .i64 x)
        have Bd11 : Hid (Blk (Q.setCell ⟨w9.heap.size, 5, none⟩ (.int .i64 x)) (w4.heap.size) #[.int .i64 cx, .bool nx, .string tx, .int .i64 ex] 34) := Bd10.out.other (a := ⟨w9.heap.size, 5, none⟩) ndy (.int .i64 x)
        have Bf11 : Hid (Blk (Q.setCell ⟨w9.heap.size, 5, none⟩ (.int .i64 x)) (V.heap.size) #[.int .i64 0, .bool n, .string I, .string B, .int .i64 0, .bool false] 25) := Bf10.out.other (a := ⟨w9.heap.size, 5, none⟩) nfy (.int .i64 x)
        have Be11 : Hid (Blk (Q.setCell ⟨w9.heap.size, 5, none⟩ (.int .i64 x)) (w7.heap.size) #[.int .i64 cx, .bool nx, .string tx, .int .i64 ex] 34) := Be10.out.other (a := ⟨w9.heap.size, 5, none⟩) ney (.int .i64 x)
        have By11 : Hid (Blk (Q.setCell ⟨w9.heap.size, 5, none⟩ (.int .i64 x)) (w9.heap.size) #[.string I, .int .i64 v, .int .i64 0, .string F, .string ⟨#[48]⟩, .int .i64 x] 23) := By10.out.setC 5 (.int .i64 x)
        have HB11 : Hid (Below w.heap.size w (Q.setCell ⟨w9.heap.size, 5, none⟩ (.int .i64 x))) := HB10.out.setCell (by have := HYL.out; omega) _
        go_upto_region 26 with (fail)
        obtain ⟨G, hG⟩ : ∃ G, G = (Q.setCell ⟨w9.heap.size, 5, none⟩ (.int .i64 x)) := ⟨_, rfl⟩
        rw [← hG] at HB11 Bs11 Bx11 Bd11 Bf11 Be11 By11
        simp only [← hG]
        clear hG fy5 nsy lsy nxy lxy ndy ldy nfy lfy ney ley Bs10 Bx10 Bd10 Bf10 Be10 By10 HB10 HYL ys0 ys1 ys2 ys3 ys4 ys5 yx0 yx1 yx2 yx3 yx4 yx5 yd0 yd1 yd2 yd3 yf0 yf1 yf2 yf3 yf4 yf5 ye0 ye1 ye2 ye3 yy0 yy1 yy2 yy3 yy4 yy5
        obtain ⟨ys0, ys1, ys2, ys3, ys4, ys5⟩ := Bs11.out.six
        obtain ⟨yx0, yx1, yx2, yx3, yx4, yx5⟩ := Bx11.out.six
        obtain ⟨yd0, yd1, yd2, yd3⟩ := Bd11.out.four
        obtain ⟨yf0, yf1, yf2, yf3, yf4, yf5⟩ := Bf11.out.six
        obtain ⟨ye0, ye1, ye2, ye3⟩ := Be11.out.four
        obtain ⟨yy0, yy1, yy2, yy3, yy4, yy5⟩ := By11.out.six
        go_wp2_with fail
        refine (HM.out _).mono ?_
        rintro e w12 ⟨rfl, hb⟩
        have Bs12 := Blk.on Bs11 hb
        have Bx12 := Blk.on Bx11 hb
        have Bd12 := Blk.on Bd11 hb
        have Bf12 := Blk.on Bf11 hb
        have Be12 := Blk.on Be11 hb
        have By12 := Blk.on By11 hb
        have HB12 := hide (HB11.out.trans (hb.mono HB11.out.size))
        clear hb Bs11 Bx11 Bd11 Bf11 Be11 By11 HB11 ys0 ys1 ys2 ys3 ys4 ys5 yx0 yx1 yx2 yx3 yx4 yx5 yd0 yd1 yd2 yd3 yf0 yf1 yf2 yf3 yf4 yf5 ye0 ye1 ye2 ye3 yy0 yy1 yy2 yy3 yy4 yy5
        obtain ⟨ys0, ys1, ys2, ys3, ys4, ys5⟩ := Bs12.out.six
        obtain ⟨yx0, yx1, yx2, yx3, yx4, yx5⟩ := Bx12.out.six
        obtain ⟨yd0, yd1, yd2, yd3⟩ := Bd12.out.four
        obtain ⟨yf0, yf1, yf2, yf3, yf4, yf5⟩ := Bf12.out.six
        obtain ⟨ye0, ye1, ye2, ye3⟩ := Be12.out.four
        obtain ⟨yy0, yy1, yy2, yy3, yy4, yy5⟩ := By12.out.six
        go_wp2
        go_ret
        exact ⟨rfl, HB12.out⟩

end Go.Proofs.YtobloamnaemfnaaDoor
