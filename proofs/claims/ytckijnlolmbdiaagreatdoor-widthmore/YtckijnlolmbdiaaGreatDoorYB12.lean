/-
  Plain mathematics: digits with a point between and an exponent behind are read as the number that they show.
  What width's areShown, mayShown and Value do.
  quipulaw06's awake: the calls answer what the document fixes.
  quipulaw07's awake answers true.
  What quipuref04's May does.
-/
import Derived.Test.YtckijnlolmbdiaaGreatDoorYB7
import Derived.Test.YtckijnlolmbdiaaGreatDoorYB11
import Derived.Lib.SlTrimSet
import Derived.Test.YtckijnlolmbdiaaGreatDoorYB8
import Derived.Shelf.Strings.SlTrimAscii
import Derived.Deep.RegionHeld3
import Derived.Test.YtckijnlolmbdiaaGreatDoorYB2
import Derived.Test.YtckijnlolmbdiaaGreatDoorYB4
namespace Go.Proofs.YtckijnlolmbdiaaGreatDoor

theorem parse_dot {s int frac : List UInt8} {neg : Bool} {e : Int} (hneg : Lib.hasPrefix s [45] = neg) (hp : p1 s = int ++ 46 :: (frac ++ 101 :: Lib.itoa e)) (hi : DigB int) (hf : DigB frac) (hne : ¬ (int = [] ∧ frac = [])) (h1 : -10000 ≤ e) (h2 : e ≤ 10000) : parseT s = some ⟨neg, int, frac, e⟩ := by
  have nd : ¬ (48 ≤ byt (46 :: (frac ++ 101 :: Lib.itoa e)) 0 ∧ byt (46 :: (frac ++ 101 :: Lib.itoa e)) 0 ≤ 57) := by rw [byt_cons0]; decide
  have ne : ¬ (48 ≤ byt (101 :: Lib.itoa e) 0 ∧ byt (101 :: Lib.itoa e) 0 ≤ 57) := by rw [byt_cons0]; decide
  have ea : pAhead s = int := by unfold pAhead; rw [hp]; exact (dgs_append hi (.inr nd)).1
  have e2 : p2 s = 46 :: (frac ++ 101 :: Lib.itoa e) := by unfold p2; rw [hp]; exact (dgs_append hi (.inr nd)).2
  have ed : Lib.hasPrefix (p2 s) [46] = true := by rw [e2, hp_one]; simp
  have et : Lib.trimPrefix (p2 s) [46] = frac ++ 101 :: Lib.itoa e := by unfold Lib.trimPrefix; rw [if_pos ed, e2]; rfl
  have ed2 : pDot s = true := ed
  have eb : pBehind s = frac := by unfold pBehind; rw [ed2, if_pos rfl, et]; exact (dgs_append hf (.inr ne)).1
  have e3 : p3 s = 101 :: Lib.itoa e := by unfold p3; rw [ed2, if_pos rfl, et]; exact (dgs_append hf (.inr ne)).2
  have e4 : p4 s = Lib.itoa e := by unfold p4; rw [e3]; rfl
  obtain ⟨u1, u2⟩ := itoa_back e
  obtain ⟨g1, g2⟩ := dgs_all (dd_okT e.natAbs).2.2
  have gl : (Lib.decDigits e.natAbs).length ≤ 5 := sizeN_le (Nat.lt_of_le_of_lt (show e.natAbs ≤ 10000 by omega) (by decide)) (by omega)
  unfold parseT
  rw [ea, eb, if_neg hne, e3, if_neg (by simp), if_neg (by rw [byt_cons0]; decide), e4, u1, g1, g2, if_neg (by
    rintro (h | h | h)
    · exact dd_ne _ h
    · omega
    · exact h rfl), hneg, u2]

theorem parseD_of {l : List UInt8} {p : Parts} (h : parseT l = some p) : parseD l = tellF p.neg (decV (p.ahead ++ p.behind)) (p.pow - p.behind.length) := by
  have n1 : parseT tNan = none := by decide +kernel
  have n2 : parseT tInf = none := by decide +kernel
  have n3 : parseT tNeg = none := by decide +kernel
  unfold parseD
  rw [if_neg (fun e => by rw [e, n1] at h; cases h), if_neg (fun e => by rw [e, n2] at h; cases h), if_neg (fun e => by rw [e, n3] at h; cases h), h]
  rfl

def shownT (neg : Bool) (int frac : List UInt8) (e : Int) : List UInt8 := (if neg then [45] else []) ++ (int ++ 46 :: (frac ++ 101 :: Lib.itoa e))

theorem parse_shown (neg : Bool) {int frac : List UInt8} {e : Int} (hi : DigB int) (hf : DigB frac) (hne : ¬ (int = [] ∧ frac = [])) (h1 : -10000 ≤ e) (h2 : e ≤ 10000) :
    parseD (shownT neg int frac e) = tellF neg (decV (int ++ frac)) (e - frac.length) := by
  cases neg
  · have hh : (int ++ 46 :: (frac ++ 101 :: Lib.itoa e)).head? ≠ some 45 := by
      cases int with
      | nil => simp
      | cons b t =>
        have := hi.head
        simp only [List.cons_append, List.head?_cons, ne_eq, Option.some.injEq]
        intro g
        rw [g] at this
        exact absurd this.1 (by decide)
    obtain ⟨q1, q2⟩ := p1_pos hh
    exact parseD_of (parse_dot q1 q2 hi hf hne h1 h2)
  · obtain ⟨q1, q2⟩ := p1_neg (int ++ 46 :: (frac ++ 101 :: Lib.itoa e))
    exact parseD_of (parse_dot q1 q2 hi hf hne h1 h2)

theorem mem_dropW {p : UInt8 → Bool} {x : UInt8} (hx : p x = false) : ∀ {l : List UInt8}, x ∈ l → x ∈ l.dropWhile p
  | b :: t, h => by
    rw [List.dropWhile_cons]
    split
    · rename_i hb
      rcases List.mem_cons.1 h with e | e
      · subst e; rw [hx] at hb; cases hb
      · exact mem_dropW hx e
    · exact h

theorem trimS_nil {l cs : List UInt8} : Lib.trimS l cs = [] ↔ ∀ x ∈ l, cs.contains x = true := by
  constructor
  · intro h x hx
    rcases hc : cs.contains x with _ | _
    · exfalso
      have m1 : x ∈ Lib.trimRightS l cs := by
        unfold Lib.trimRightS
        rw [List.mem_reverse]
        exact mem_dropW hc (List.mem_reverse.2 hx)
      have m2 : x ∈ Lib.trimS l cs := by
        unfold Lib.trimS Lib.trimLeftS
        exact mem_dropW hc m1
      rw [h] at m2; cases m2
    · rfl
  · intro h
    have e1 : Lib.trimRightS l cs = [] := by
      unfold Lib.trimRightS
      rw [List.reverse_eq_nil_iff]
      have : ∀ m : List UInt8, (∀ x ∈ m, cs.contains x = true) → m.dropWhile (cs.contains ·) = [] := by
        intro m
        induction m with
        | nil => intro _; rfl
        | cons b t ih =>
          intro hm
          rw [List.dropWhile_cons, if_pos (hm b (List.mem_cons_self ..))]
          exact ih fun x hx => hm x (List.mem_cons_of_mem _ hx)
      exact this _ fun x hx => h x (List.mem_reverse.1 hx)
    unfold Lib.trimS
    rw [e1]; rfl

def tenD : List UInt8 := [48, 49, 50, 51, 52, 53, 54, 55, 56, 57]

theorem tenD_has : ∀ b : UInt8, tenD.contains b = decide (48 ≤ b.toNat ∧ b.toNat ≤ 57) := by
  intro b
  have h : ∀ n : _root_.Fin 256, tenD.contains (UInt8.ofNat n.val) = decide (48 ≤ (UInt8.ofNat n.val).toNat ∧ (UInt8.ofNat n.val).toNat ≤ 57) := by decide +kernel
  have := h ⟨b.toNat, b.toNat_lt⟩
  simpa using this

theorem trim_digB {l : List UInt8} : Lib.trimS l tenD = [] ↔ DigB l := by
  rw [trimS_nil]
  constructor
  · intro h k hk
    have hm := h l[k] (List.getElem_mem hk)
    rw [tenD_has] at hm
    have := of_decide_eq_true hm
    unfold byt
    rw [List.getElem?_eq_getElem hk]
    exact this
  · intro h x hx
    obtain ⟨k, hk, rfl⟩ := List.getElem_of_mem hx
    have := h k hk
    unfold byt at this
    rw [List.getElem?_eq_getElem hk] at this
    rw [tenD_has]
    exact decide_eq_true this

end Go.Proofs.YtckijnlolmbdiaaGreatDoor

namespace Go.Proofs.YtckijnlolmbdiaaGreatDoor
open Go.RowKit

abbrev shV (c : Int) (n : Bool) (ti tf : ByteArray) (x : Int) (cm : Bool) : Value := .agg #[.int .i64 c, .bool n, .string ti, .string tf, .int .i64 x, .bool cm]

theorem trim_ten (t : ByteArray) (w : World) (h : t.size ≤ 4096) : Calls Tryz.prog 171 #[.string t, .string ⟨#[48, 49, 50, 51, 52, 53, 54, 55, 56, 57]⟩] w fun e w' => e = .returned (.string ⟨(Lib.trimS (bys t) tenD).toArray⟩) ∧ Below w.heap.size w w' :=
  Any.strings_Trim_laid Tryz.lays160 (by kernel_rfl) t ⟨#[48, 49, 50, 51, 52, 53, 54, 55, 56, 57]⟩ w (by omega) (by decide) (ascii_of_all (by decide))

set_option maxHeartbeats 1000000 in
theorem areShown_long (t : ByteArray) (w : World) (h : 4096 < t.size) : Calls Tryz.prog 121 #[.string t] w fun e w' => e = .returned (.bool false) ∧ Below w.heap.size w w' := by
  have h2 : decide ((t.size : Int) ≤ 4096) = false := decide_eq_false (by omega)
  clear h
  go_enter Tryz.func121, Tryz.ntmps121
  go_wp2
  go_ret
  exact ⟨rfl, Below.refl _ _⟩

set_option maxHeartbeats 1000000 in
theorem areShown_t (t : ByteArray) (w : World) (h : t.size ≤ 4096) (g : Lib.trimS (bys t) tenD = []) : Calls Tryz.prog 121 #[.string t] w fun e w' => e = .returned (.bool true) ∧ Below w.heap.size w w' := by
  have TR := hide (fun W => trim_ten t W h)
  have h2 : decide ((t.size : Int) ≤ 4096) = true := decide_eq_true (by omega)
  obtain ⟨D, hD⟩ : ∃ D : ByteArray, D = ⟨(Lib.trimS (bys t) tenD).toArray⟩ := ⟨_, rfl⟩
  rw [← hD] at TR
  obtain rfl : D = ⟨#[]⟩ := by rw [hD, g]
  clear hD g h
  go_enter Tryz.func121, Tryz.ntmps121
  go_wp2_with fail
  refine (TR.out _).mono ?_
  rintro e w1 ⟨rfl, hb⟩
  have HB := hide hb
  clear hb
  go_wp2
  go_ret
  exact ⟨rfl, HB.out⟩

set_option maxHeartbeats 1000000 in
theorem areShown_f (t : ByteArray) (w : World) (h : t.size ≤ 4096) (g : Lib.trimS (bys t) tenD ≠ []) : Calls Tryz.prog 121 #[.string t] w fun e w' => e = .returned (.bool false) ∧ Below w.heap.size w w' := by
  have TR := hide (fun W => trim_ten t W h)
  have h2 : decide ((t.size : Int) ≤ 4096) = true := decide_eq_true (by omega)
  obtain ⟨D, hD⟩ : ∃ D : ByteArray, D = ⟨(Lib.trimS (bys t) tenD).toArray⟩ := ⟨_, rfl⟩
  rw [← hD] at TR
  have hn := toList_ne (t := D) (by rw [hD, size_mk0]; exact fun e => g (List.length_eq_zero_iff.1 e))
  clear hD g h
  go_enter Tryz.func121, Tryz.ntmps121
  go_wp2_with fail
  refine (TR.out _).mono ?_
  rintro e w1 ⟨rfl, hb⟩
  have HB := hide hb
  clear hb
  go_wp2
  go_ret
  exact ⟨rfl, HB.out⟩

theorem areShown_T (t : ByteArray) (w : World) (h : (bys t).length ≤ 4096 ∧ DigB (bys t)) : Calls Tryz.prog 121 #[.string t] w fun e w' => e = .returned (.bool true) ∧ Below w.heap.size w w' :=
  areShown_t t w (by have := h.1; rwa [bys_len] at this) (trim_digB.2 h.2)
theorem areShown_F (t : ByteArray) (w : World) (h : ¬ ((bys t).length ≤ 4096 ∧ DigB (bys t))) : Calls Tryz.prog 121 #[.string t] w fun e w' => e = .returned (.bool false) ∧ Below w.heap.size w w' := by
  rw [bys_len] at h
  by_cases h1 : t.size ≤ 4096
  · exact areShown_f t w h1 (fun g => h ⟨h1, trim_digB.1 g⟩)
  · exact areShown_long t w (by omega)

set_option maxHeartbeats 1000000 in
theorem mayShown_x (c : Int) (n : Bool) (ti tf : ByteArray) (x : Int) (cm : Bool) (w : World) (h : ¬ (-2001 ≤ x ∧ x ≤ 2001)) : Calls Tryz.prog 61 #[shV c n ti tf x cm] w fun e w' => e = .returned (.bool false) ∧ Below w.heap.size w w' := by
  have C0 := hide (fun W => within_f x (-2001) 2001 W h)
  clear h
  have Bs0 := hide (Blk.newAt w (w.heap.size) (rfl) #[.int .i64 c, .bool n, .string ti, .string tf, .int .i64 x, .bool cm] 36)
  have HB0 : Hid (Below w.heap.size w (w.alloc (.cells #[.int .i64 c, .bool n, .string ti, .string tf, .int .i64 x, .bool cm] 36))) := ((Below.refl _ _).alloc (Nat.le_refl _) _)
  go_enter Tryz.func61, Tryz.ntmps61
  go_wp2_with fail
  refine (C0.out _).mono ?_
  rintro e w1 ⟨rfl, hb⟩
  have Bs1 := Blk.on Bs0 hb
  have HB1 := hide (HB0.out.trans (hb.mono HB0.out.size))
  clear hb Bs0 HB0 
  obtain ⟨ys0, ys1, ys2, ys3, ys4, ys5⟩ := Bs1.out.six
  go_wp2
  go_ret
  exact ⟨rfl, HB1.out⟩

set_option maxHeartbeats 1000000 in
theorem mayShown_0z (n : Bool) (x : Int) (cm : Bool) (w : World) (x1 : -2001 ≤ x) (x2 : x ≤ 2001) : Calls Tryz.prog 61 #[shV 0 n ⟨#[]⟩ ⟨#[]⟩ x cm] w fun e w' => e = .returned (.bool false) ∧ Below w.heap.size w w' := by
  have C0 := hide (fun W => within_t x (-2001) 2001 W x1 x2)
  clear x1 x2
  have Bs0 := hide (Blk.newAt w (w.heap.size) (rfl) #[.int .i64 0, .bool n, .string ⟨#[]⟩, .string ⟨#[]⟩, .int .i64 x, .bool cm] 36)
  have HB0 : Hid (Below w.heap.size w (w.alloc (.cells #[.int .i64 0, .bool n, .string ⟨#[]⟩, .string ⟨#[]⟩, .int .i64 x, .bool cm] 36))) := ((Below.refl _ _).alloc (Nat.le_refl _) _)
  go_enter Tryz.func61, Tryz.ntmps61
  go_wp2_with fail
  refine (C0.out _).mono ?_
  rintro e w1 ⟨rfl, hb⟩
  have Bs1 := Blk.on Bs0 hb
  have HB1 := hide (HB0.out.trans (hb.mono HB0.out.size))
  clear hb Bs0 HB0 
  obtain ⟨ys0, ys1, ys2, ys3, ys4, ys5⟩ := Bs1.out.six
  go_wp2
  go_ret
  exact ⟨rfl, HB1.out⟩

set_option maxHeartbeats 1000000 in
theorem mayShown_0if (n : Bool) (ti tf : ByteArray) (x : Int) (cm : Bool) (w : World) (x1 : -2001 ≤ x) (x2 : x ≤ 2001) (h : ti.size ≠ 0) (g : ¬ ((bys ti).length ≤ 4096 ∧ DigB (bys ti))) : Calls Tryz.prog 61 #[shV 0 n ti tf x cm] w fun e w' => e = .returned (.bool false) ∧ Below w.heap.size w w' := by
  have C0 := hide (fun W => within_t x (-2001) 2001 W x1 x2)
  have C1 := hide (fun W => areShown_F ti W g)
  have hn := toList_ne h
  clear x1 x2 h g
  have Bs0 := hide (Blk.newAt w (w.heap.size) (rfl) #[.int .i64 0, .bool n, .string ti, .string tf, .int .i64 x, .bool cm] 36)
  have HB0 : Hid (Below w.heap.size w (w.alloc (.cells #[.int .i64 0, .bool n, .string ti, .string tf, .int .i64 x, .bool cm] 36))) := ((Below.refl _ _).alloc (Nat.le_refl _) _)
  go_enter Tryz.func61, Tryz.ntmps61
  go_wp2_with fail
  refine (C0.out _).mono ?_
  rintro e w1 ⟨rfl, hb⟩
  have Bs1 := Blk.on Bs0 hb
  have HB1 := hide (HB0.out.trans (hb.mono HB0.out.size))
  clear hb Bs0 HB0 
  obtain ⟨ys0, ys1, ys2, ys3, ys4, ys5⟩ := Bs1.out.six
  go_wp2_with fail
  refine (C1.out _).mono ?_
  rintro e w2 ⟨rfl, hb⟩
  have Bs2 := Blk.on Bs1 hb
  have HB2 := hide (HB1.out.trans (hb.mono HB1.out.size))
  clear hb Bs1 HB1 ys0 ys1 ys2 ys3 ys4 ys5
  obtain ⟨ys0, ys1, ys2, ys3, ys4, ys5⟩ := Bs2.out.six
  go_wp2
  go_ret
  exact ⟨rfl, HB2.out⟩

set_option maxHeartbeats 1000000 in
theorem mayShown_0it (n : Bool) (ti tf : ByteArray) (x : Int) (cm : Bool) (w : World) (x1 : -2001 ≤ x) (x2 : x ≤ 2001) (h : ti.size ≠ 0) (g : (bys ti).length ≤ 4096 ∧ DigB (bys ti)) (b : Bool) (hb : ∀ W, Calls Tryz.prog 121 #[.string tf] W fun e w' => e = .returned (.bool b) ∧ Below W.heap.size W w') : Calls Tryz.prog 61 #[shV 0 n ti tf x cm] w fun e w' => e = .returned (.bool b) ∧ Below w.heap.size w w' := by
  have C0 := hide (fun W => within_t x (-2001) 2001 W x1 x2)
  have C1 := hide (fun W => areShown_T ti W g)
  have C2 := hide (fun W => hb W)
  have hn := toList_ne h
  clear x1 x2 h g hb
  have Bs0 := hide (Blk.newAt w (w.heap.size) (rfl) #[.int .i64 0, .bool n, .string ti, .string tf, .int .i64 x, .bool cm] 36)
  have HB0 : Hid (Below w.heap.size w (w.alloc (.cells #[.int .i64 0, .bool n, .string ti, .string tf, .int .i64 x, .bool cm] 36))) := ((Below.refl _ _).alloc (Nat.le_refl _) _)
  go_enter Tryz.func61, Tryz.ntmps61
  go_wp2_with fail
  refine (C0.out _).mono ?_
  rintro e w1 ⟨rfl, hb⟩
  have Bs1 := Blk.on Bs0 hb
  have HB1 := hide (HB0.out.trans (hb.mono HB0.out.size))
  clear hb Bs0 HB0 
  obtain ⟨ys0, ys1, ys2, ys3, ys4, ys5⟩ := Bs1.out.six
  go_wp2_with fail
  refine (C1.out _).mono ?_
  rintro e w2 ⟨rfl, hb⟩
  have Bs2 := Blk.on Bs1 hb
  have HB2 := hide (HB1.out.trans (hb.mono HB1.out.size))
  clear hb Bs1 HB1 ys0 ys1 ys2 ys3 ys4 ys5
  obtain ⟨ys0, ys1, ys2, ys3, ys4, ys5⟩ := Bs2.out.six
  go_wp2_with fail
  refine (C2.out _).mono ?_
  rintro e w3 ⟨rfl, hb⟩
  have Bs3 := Blk.on Bs2 hb
  have HB3 := hide (HB2.out.trans (hb.mono HB2.out.size))
  clear hb Bs2 HB2 ys0 ys1 ys2 ys3 ys4 ys5
  obtain ⟨ys0, ys1, ys2, ys3, ys4, ys5⟩ := Bs3.out.six
  go_wp2
  go_ret
  exact ⟨rfl, HB3.out⟩

set_option maxHeartbeats 1000000 in
theorem mayShown_0f (n : Bool) (tf : ByteArray) (x : Int) (cm : Bool) (w : World) (x1 : -2001 ≤ x) (x2 : x ≤ 2001) (h : tf.size ≠ 0) (b : Bool) (hb : ∀ W, Calls Tryz.prog 121 #[.string tf] W fun e w' => e = .returned (.bool b) ∧ Below W.heap.size W w') : Calls Tryz.prog 61 #[shV 0 n ⟨#[]⟩ tf x cm] w fun e w' => e = .returned (.bool b) ∧ Below w.heap.size w w' := by
  have C0 := hide (fun W => within_t x (-2001) 2001 W x1 x2)
  have C1 := hide (fun W => areShown_T ⟨#[]⟩ W ⟨by decide, fun k hk => absurd hk (by simp [bys])⟩)
  have C2 := hide (fun W => hb W)
  have hn := toList_ne h
  clear x1 x2 h hb
  have Bs0 := hide (Blk.newAt w (w.heap.size) (rfl) #[.int .i64 0, .bool n, .string ⟨#[]⟩, .string tf, .int .i64 x, .bool cm] 36)
  have HB0 : Hid (Below w.heap.size w (w.alloc (.cells #[.int .i64 0, .bool n, .string ⟨#[]⟩, .string tf, .int .i64 x, .bool cm] 36))) := ((Below.refl _ _).alloc (Nat.le_refl _) _)
  go_enter Tryz.func61, Tryz.ntmps61
  go_wp2_with fail
  refine (C0.out _).mono ?_
  rintro e w1 ⟨rfl, hb⟩
  have Bs1 := Blk.on Bs0 hb
  have HB1 := hide (HB0.out.trans (hb.mono HB0.out.size))
  clear hb Bs0 HB0 
  obtain ⟨ys0, ys1, ys2, ys3, ys4, ys5⟩ := Bs1.out.six
  go_wp2_with fail
  refine (C1.out _).mono ?_
  rintro e w2 ⟨rfl, hb⟩
  have Bs2 := Blk.on Bs1 hb
  have HB2 := hide (HB1.out.trans (hb.mono HB1.out.size))
  clear hb Bs1 HB1 ys0 ys1 ys2 ys3 ys4 ys5
  obtain ⟨ys0, ys1, ys2, ys3, ys4, ys5⟩ := Bs2.out.six
  go_wp2_with fail
  refine (C2.out _).mono ?_
  rintro e w3 ⟨rfl, hb⟩
  have Bs3 := Blk.on Bs2 hb
  have HB3 := hide (HB2.out.trans (hb.mono HB2.out.size))
  clear hb Bs2 HB2 ys0 ys1 ys2 ys3 ys4 ys5
  obtain ⟨ys0, ys1, ys2, ys3, ys4, ys5⟩ := Bs3.out.six
  go_wp2
  go_ret
  exact ⟨rfl, HB3.out⟩

set_option maxHeartbeats 1000000 in
theorem mayShown_1i (n : Bool) (ti tf : ByteArray) (x : Int) (cm : Bool) (w : World) (x1 : -2001 ≤ x) (x2 : x ≤ 2001) (h : ti.size ≠ 0) : Calls Tryz.prog 61 #[shV 1 n ti tf x cm] w fun e w' => e = .returned (.bool false) ∧ Below w.heap.size w w' := by
  have C0 := hide (fun W => within_t x (-2001) 2001 W x1 x2)
  have hn := toList_ne h
  clear x1 x2 h
  have Bs0 := hide (Blk.newAt w (w.heap.size) (rfl) #[.int .i64 1, .bool n, .string ti, .string tf, .int .i64 x, .bool cm] 36)
  have HB0 : Hid (Below w.heap.size w (w.alloc (.cells #[.int .i64 1, .bool n, .string ti, .string tf, .int .i64 x, .bool cm] 36))) := ((Below.refl _ _).alloc (Nat.le_refl _) _)
  go_enter Tryz.func61, Tryz.ntmps61
  go_wp2_with fail
  refine (C0.out _).mono ?_
  rintro e w1 ⟨rfl, hb⟩
  have Bs1 := Blk.on Bs0 hb
  have HB1 := hide (HB0.out.trans (hb.mono HB0.out.size))
  clear hb Bs0 HB0 
  obtain ⟨ys0, ys1, ys2, ys3, ys4, ys5⟩ := Bs1.out.six
  go_wp2
  go_ret
  exact ⟨rfl, HB1.out⟩

set_option maxHeartbeats 1000000 in
theorem mayShown_1f (n : Bool) (tf : ByteArray) (x : Int) (cm : Bool) (w : World) (x1 : -2001 ≤ x) (x2 : x ≤ 2001) (h : tf.size ≠ 0) : Calls Tryz.prog 61 #[shV 1 n ⟨#[]⟩ tf x cm] w fun e w' => e = .returned (.bool false) ∧ Below w.heap.size w w' := by
  have C0 := hide (fun W => within_t x (-2001) 2001 W x1 x2)
  have hn := toList_ne h
  clear x1 x2 h
  have Bs0 := hide (Blk.newAt w (w.heap.size) (rfl) #[.int .i64 1, .bool n, .string ⟨#[]⟩, .string tf, .int .i64 x, .bool cm] 36)
  have HB0 : Hid (Below w.heap.size w (w.alloc (.cells #[.int .i64 1, .bool n, .string ⟨#[]⟩, .string tf, .int .i64 x, .bool cm] 36))) := ((Below.refl _ _).alloc (Nat.le_refl _) _)
  go_enter Tryz.func61, Tryz.ntmps61
  go_wp2_with fail
  refine (C0.out _).mono ?_
  rintro e w1 ⟨rfl, hb⟩
  have Bs1 := Blk.on Bs0 hb
  have HB1 := hide (HB0.out.trans (hb.mono HB0.out.size))
  clear hb Bs0 HB0 
  obtain ⟨ys0, ys1, ys2, ys3, ys4, ys5⟩ := Bs1.out.six
  go_wp2
  go_ret
  exact ⟨rfl, HB1.out⟩

set_option maxHeartbeats 1000000 in
theorem mayShown_2i (n : Bool) (ti tf : ByteArray) (x : Int) (cm : Bool) (w : World) (x1 : -2001 ≤ x) (x2 : x ≤ 2001) (h : ti.size ≠ 0) : Calls Tryz.prog 61 #[shV 2 n ti tf x cm] w fun e w' => e = .returned (.bool false) ∧ Below w.heap.size w w' := by
  have C0 := hide (fun W => within_t x (-2001) 2001 W x1 x2)
  have hn := toList_ne h
  clear x1 x2 h
  have Bs0 := hide (Blk.newAt w (w.heap.size) (rfl) #[.int .i64 2, .bool n, .string ti, .string tf, .int .i64 x, .bool cm] 36)
  have HB0 : Hid (Below w.heap.size w (w.alloc (.cells #[.int .i64 2, .bool n, .string ti, .string tf, .int .i64 x, .bool cm] 36))) := ((Below.refl _ _).alloc (Nat.le_refl _) _)
  go_enter Tryz.func61, Tryz.ntmps61
  go_wp2_with fail
  refine (C0.out _).mono ?_
  rintro e w1 ⟨rfl, hb⟩
  have Bs1 := Blk.on Bs0 hb
  have HB1 := hide (HB0.out.trans (hb.mono HB0.out.size))
  clear hb Bs0 HB0 
  obtain ⟨ys0, ys1, ys2, ys3, ys4, ys5⟩ := Bs1.out.six
  go_wp2
  go_ret
  exact ⟨rfl, HB1.out⟩

set_option maxHeartbeats 1000000 in
theorem mayShown_2f (n : Bool) (tf : ByteArray) (x : Int) (cm : Bool) (w : World) (x1 : -2001 ≤ x) (x2 : x ≤ 2001) (h : tf.size ≠ 0) : Calls Tryz.prog 61 #[shV 2 n ⟨#[]⟩ tf x cm] w fun e w' => e = .returned (.bool false) ∧ Below w.heap.size w w' := by
  have C0 := hide (fun W => within_t x (-2001) 2001 W x1 x2)
  have hn := toList_ne h
  clear x1 x2 h
  have Bs0 := hide (Blk.newAt w (w.heap.size) (rfl) #[.int .i64 2, .bool n, .string ⟨#[]⟩, .string tf, .int .i64 x, .bool cm] 36)
  have HB0 : Hid (Below w.heap.size w (w.alloc (.cells #[.int .i64 2, .bool n, .string ⟨#[]⟩, .string tf, .int .i64 x, .bool cm] 36))) := ((Below.refl _ _).alloc (Nat.le_refl _) _)
  go_enter Tryz.func61, Tryz.ntmps61
  go_wp2_with fail
  refine (C0.out _).mono ?_
  rintro e w1 ⟨rfl, hb⟩
  have Bs1 := Blk.on Bs0 hb
  have HB1 := hide (HB0.out.trans (hb.mono HB0.out.size))
  clear hb Bs0 HB0 
  obtain ⟨ys0, ys1, ys2, ys3, ys4, ys5⟩ := Bs1.out.six
  go_wp2
  go_ret
  exact ⟨rfl, HB1.out⟩

set_option maxHeartbeats 1000000 in
theorem mayShown_1t (n : Bool) (x : Int) (cm : Bool) (w : World) (x1 : -2001 ≤ x) (x2 : x ≤ 2001) : Calls Tryz.prog 61 #[shV 1 n ⟨#[]⟩ ⟨#[]⟩ x cm] w fun e w' => e = .returned (.bool true) ∧ Below w.heap.size w w' := by
  have C0 := hide (fun W => within_t x (-2001) 2001 W x1 x2)
  clear x1 x2
  have Bs0 := hide (Blk.newAt w (w.heap.size) (rfl) #[.int .i64 1, .bool n, .string ⟨#[]⟩, .string ⟨#[]⟩, .int .i64 x, .bool cm] 36)
  have HB0 : Hid (Below w.heap.size w (w.alloc (.cells #[.int .i64 1, .bool n, .string ⟨#[]⟩, .string ⟨#[]⟩, .int .i64 x, .bool cm] 36))) := ((Below.refl _ _).alloc (Nat.le_refl _) _)
  go_enter Tryz.func61, Tryz.ntmps61
  go_wp2_with fail
  refine (C0.out _).mono ?_
  rintro e w1 ⟨rfl, hb⟩
  have Bs1 := Blk.on Bs0 hb
  have HB1 := hide (HB0.out.trans (hb.mono HB0.out.size))
  clear hb Bs0 HB0 
  obtain ⟨ys0, ys1, ys2, ys3, ys4, ys5⟩ := Bs1.out.six
  go_wp2
  go_ret
  exact ⟨rfl, HB1.out⟩

set_option maxHeartbeats 1000000 in
theorem mayShown_2t (x : Int) (cm : Bool) (w : World) (x1 : -2001 ≤ x) (x2 : x ≤ 2001) : Calls Tryz.prog 61 #[shV 2 false ⟨#[]⟩ ⟨#[]⟩ x cm] w fun e w' => e = .returned (.bool true) ∧ Below w.heap.size w w' := by
  have C0 := hide (fun W => within_t x (-2001) 2001 W x1 x2)
  clear x1 x2
  have Bs0 := hide (Blk.newAt w (w.heap.size) (rfl) #[.int .i64 2, .bool false, .string ⟨#[]⟩, .string ⟨#[]⟩, .int .i64 x, .bool cm] 36)
  have HB0 : Hid (Below w.heap.size w (w.alloc (.cells #[.int .i64 2, .bool false, .string ⟨#[]⟩, .string ⟨#[]⟩, .int .i64 x, .bool cm] 36))) := ((Below.refl _ _).alloc (Nat.le_refl _) _)
  go_enter Tryz.func61, Tryz.ntmps61
  go_wp2_with fail
  refine (C0.out _).mono ?_
  rintro e w1 ⟨rfl, hb⟩
  have Bs1 := Blk.on Bs0 hb
  have HB1 := hide (HB0.out.trans (hb.mono HB0.out.size))
  clear hb Bs0 HB0 
  obtain ⟨ys0, ys1, ys2, ys3, ys4, ys5⟩ := Bs1.out.six
  go_wp2
  go_ret
  exact ⟨rfl, HB1.out⟩

set_option maxHeartbeats 1000000 in
theorem mayShown_2n (x : Int) (cm : Bool) (w : World) (x1 : -2001 ≤ x) (x2 : x ≤ 2001) : Calls Tryz.prog 61 #[shV 2 true ⟨#[]⟩ ⟨#[]⟩ x cm] w fun e w' => e = .returned (.bool false) ∧ Below w.heap.size w w' := by
  have C0 := hide (fun W => within_t x (-2001) 2001 W x1 x2)
  clear x1 x2
  have Bs0 := hide (Blk.newAt w (w.heap.size) (rfl) #[.int .i64 2, .bool true, .string ⟨#[]⟩, .string ⟨#[]⟩, .int .i64 x, .bool cm] 36)
  have HB0 : Hid (Below w.heap.size w (w.alloc (.cells #[.int .i64 2, .bool true, .string ⟨#[]⟩, .string ⟨#[]⟩, .int .i64 x, .bool cm] 36))) := ((Below.refl _ _).alloc (Nat.le_refl _) _)
  go_enter Tryz.func61, Tryz.ntmps61
  go_wp2_with fail
  refine (C0.out _).mono ?_
  rintro e w1 ⟨rfl, hb⟩
  have Bs1 := Blk.on Bs0 hb
  have HB1 := hide (HB0.out.trans (hb.mono HB0.out.size))
  clear hb Bs0 HB0 
  obtain ⟨ys0, ys1, ys2, ys3, ys4, ys5⟩ := Bs1.out.six
  go_wp2
  go_ret
  exact ⟨rfl, HB1.out⟩

set_option maxHeartbeats 1000000 in
theorem mayShown_3 (c : Int) (n : Bool) (ti tf : ByteArray) (x : Int) (cm : Bool) (w : World) (x1 : -2001 ≤ x) (x2 : x ≤ 2001) (h0 : ¬ c = 0) (h1 : ¬ c = 1) (h2 : ¬ c = 2) : Calls Tryz.prog 61 #[shV c n ti tf x cm] w fun e w' => e = .returned (.bool false) ∧ Below w.heap.size w w' := by
  have C0 := hide (fun W => within_t x (-2001) 2001 W x1 x2)
  clear x1 x2
  have Bs0 := hide (Blk.newAt w (w.heap.size) (rfl) #[.int .i64 c, .bool n, .string ti, .string tf, .int .i64 x, .bool cm] 36)
  have HB0 : Hid (Below w.heap.size w (w.alloc (.cells #[.int .i64 c, .bool n, .string ti, .string tf, .int .i64 x, .bool cm] 36))) := ((Below.refl _ _).alloc (Nat.le_refl _) _)
  go_enter Tryz.func61, Tryz.ntmps61
  go_wp2_with fail
  refine (C0.out _).mono ?_
  rintro e w1 ⟨rfl, hb⟩
  have Bs1 := Blk.on Bs0 hb
  have HB1 := hide (HB0.out.trans (hb.mono HB0.out.size))
  clear hb Bs0 HB0 
  obtain ⟨ys0, ys1, ys2, ys3, ys4, ys5⟩ := Bs1.out.six
  go_wp2
  go_ret
  exact ⟨rfl, HB1.out⟩

theorem bys_ne {t : ByteArray} (h : bys t ≠ []) : t.size ≠ 0 := fun e => h (bys_nil.2 e)

theorem mayShown_T (c : Int) (n : Bool) (ti tf : ByteArray) (x : Int) (cm : Bool) (w : World) (h : MayS ⟨c, n, bys ti, bys tf, x, cm⟩) : Calls Tryz.prog 61 #[shV c n ti tf x cm] w fun e w' => e = .returned (.bool true) ∧ Below w.heap.size w w' := by
  obtain ⟨⟨x1, x2⟩, h⟩ := h
  simp only at x1 x2
  rcases h with ⟨h1, h2, h3, h4⟩ | ⟨h1, h2, h3⟩ | ⟨h1, h2, h3, h4⟩
  · simp only at h1 h2 h3 h4
    subst h1
    by_cases hi : bys ti = []
    · obtain rfl := nil_bys hi
      have hf : bys tf ≠ [] := h2.resolve_left (fun g => g hi)
      exact mayShown_0f n tf x cm w x1 x2 (bys_ne hf) true (fun W => areShown_T tf W h4)
    · exact mayShown_0it n ti tf x cm w x1 x2 (bys_ne hi) h3 true (fun W => areShown_T tf W h4)
  · simp only at h1 h2 h3
    obtain rfl := nil_bys h2
    obtain rfl := nil_bys h3
    subst h1
    exact mayShown_1t n x cm w x1 x2
  · simp only at h1 h2 h3 h4
    obtain rfl := nil_bys h2
    obtain rfl := nil_bys h3
    subst h1 h4
    exact mayShown_2t x cm w x1 x2

theorem mayShown_F (c : Int) (n : Bool) (ti tf : ByteArray) (x : Int) (cm : Bool) (w : World) (h : ¬ MayS ⟨c, n, bys ti, bys tf, x, cm⟩) : Calls Tryz.prog 61 #[shV c n ti tf x cm] w fun e w' => e = .returned (.bool false) ∧ Below w.heap.size w w' := by
  by_cases hx : -2001 ≤ x ∧ x ≤ 2001
  rotate_left
  · exact mayShown_x c n ti tf x cm w hx
  obtain ⟨x1, x2⟩ := hx
  by_cases h0 : c = 0
  · subst h0
    by_cases hi : bys ti = []
    · obtain rfl := nil_bys hi
      by_cases hf : bys tf = []
      · obtain rfl := nil_bys hf
        exact mayShown_0z n x cm w x1 x2
      · exact mayShown_0f n tf x cm w x1 x2 (bys_ne hf) false (fun W => areShown_F tf W (fun g => h ⟨⟨x1, x2⟩, .inl ⟨rfl, .inr hf, ⟨show (bys ⟨#[]⟩).length ≤ 4096 from by decide, fun k hk => absurd hk (by simp [bys])⟩, g⟩⟩))
    · by_cases g1 : (bys ti).length ≤ 4096 ∧ DigB (bys ti)
      · exact mayShown_0it n ti tf x cm w x1 x2 (bys_ne hi) g1 false (fun W => areShown_F tf W (fun g => h ⟨⟨x1, x2⟩, .inl ⟨rfl, .inl hi, g1, g⟩⟩))
      · exact mayShown_0if n ti tf x cm w x1 x2 (bys_ne hi) g1
  by_cases h1 : c = 1
  · subst h1
    by_cases hi : bys ti = []
    · obtain rfl := nil_bys hi
      by_cases hf : bys tf = []
      · exact absurd ⟨⟨x1, x2⟩, .inr (.inl ⟨rfl, hi, hf⟩)⟩ h
      · exact mayShown_1f n tf x cm w x1 x2 (bys_ne hf)
    · exact mayShown_1i n ti tf x cm w x1 x2 (bys_ne hi)
  by_cases h2 : c = 2
  · subst h2
    by_cases hi : bys ti = []
    · obtain rfl := nil_bys hi
      by_cases hf : bys tf = []
      · obtain rfl := nil_bys hf
        cases n
        · exact absurd ⟨⟨x1, x2⟩, .inr (.inr ⟨rfl, hi, hf, rfl⟩)⟩ h
        · exact mayShown_2n x cm w x1 x2
      · exact mayShown_2f n tf x cm w x1 x2 (bys_ne hf)
    · exact mayShown_2i n ti tf x cm w x1 x2 (bys_ne hi)
  · exact mayShown_3 c n ti tf x cm w x1 x2 h0 h1 h2

set_option maxHeartbeats 1000000 in
theorem value_no (c : Int) (n : Bool) (ti tf : ByteArray) (x : Int) (cm : Bool) (w : World) (h : ¬ MayS ⟨c, n, bys ti, bys tf, x, cm⟩) : Calls Tryz.prog 24 #[shV c n ti tf x cm] w fun e w' => e = .returned (.tuple #[dcV 0 false ⟨#[]⟩ 0, .int .i64 71]) ∧ Below w.heap.size w w' := by
  have MS := hide (fun W => mayShown_F c n ti tf x cm W h)
  clear h
  have Bs0 := hide ((Blk.newAt w (w.heap.size) (rfl) #[.int .i64 c, .bool n, .string ti, .string tf, .int .i64 x, .bool cm] 36).alloc (.cells #[.int .i64 0, .bool false, .string ⟨#[]⟩, .int .i64 0] 23))
  have Br0 := hide (Blk.newAt (w.alloc (.cells #[.int .i64 c, .bool n, .string ti, .string tf, .int .i64 x, .bool cm] 36)) (w.heap.size + 1) (by simp) #[.int .i64 0, .bool false, .string ⟨#[]⟩, .int .i64 0] 23)
  have HB0 : Hid (Below w.heap.size w ((w.alloc (.cells #[.int .i64 c, .bool n, .string ti, .string tf, .int .i64 x, .bool cm] 36)).alloc (.cells #[.int .i64 0, .bool false, .string ⟨#[]⟩, .int .i64 0] 23))) := (((Below.refl _ _).alloc (Nat.le_refl _) _).alloc (by simp <;> omega) _)
  go_enter Tryz.func24, Tryz.ntmps24
  go_wp2_with fail
  refine (MS.out _).mono ?_
  rintro e w1 ⟨rfl, hb⟩
  have Bs1 := Blk.on Bs0 hb
  have Br1 := Blk.on Br0 hb
  have HB1 := hide (HB0.out.trans (hb.mono HB0.out.size))
  clear hb Bs0 Br0 HB0 
  obtain ⟨ys0, ys1, ys2, ys3, ys4, ys5⟩ := Bs1.out.six
  obtain ⟨yr0, yr1, yr2, yr3⟩ := Br1.out.four
  have fr0 := Br1.out.free 0
  have fr1 := Br1.out.free 1
  have fr2 := Br1.out.free 2
  have fr3 := Br1.out.free 3
  go_wp2
  refine bodyPost_ret (results_dec2 rfl _ _ _ _ _ _ _ rfl (Br1.out.put4 _ _ _ _)) rfl ?_
  exact ⟨rfl, below_put4 (HB1.out) (by omega) _ _ _ _⟩

set_option maxHeartbeats 1000000 in
theorem value_cls (c : Int) (n : Bool) (ti tf : ByteArray) (x : Int) (cm : Bool) (w : World) (h : MayS ⟨c, n, bys ti, bys tf, x, cm⟩) (h0 : ¬ c = 0) : Calls Tryz.prog 24 #[shV c n ti tf x cm] w fun e w' => e = .returned (.tuple #[dcV c n ⟨#[]⟩ 0, .int .i64 0]) ∧ Below w.heap.size w w' := by
  have MS := hide (fun W => mayShown_T c n ti tf x cm W h)
  clear h
  have Bs0 := hide ((Blk.newAt w (w.heap.size) (rfl) #[.int .i64 c, .bool n, .string ti, .string tf, .int .i64 x, .bool cm] 36).alloc (.cells #[.int .i64 0, .bool false, .string ⟨#[]⟩, .int .i64 0] 23))
  have Br0 := hide (Blk.newAt (w.alloc (.cells #[.int .i64 c, .bool n, .string ti, .string tf, .int .i64 x, .bool cm] 36)) (w.heap.size + 1) (by simp) #[.int .i64 0, .bool false, .string ⟨#[]⟩, .int .i64 0] 23)
  have HB0 : Hid (Below w.heap.size w ((w.alloc (.cells #[.int .i64 c, .bool n, .string ti, .string tf, .int .i64 x, .bool cm] 36)).alloc (.cells #[.int .i64 0, .bool false, .string ⟨#[]⟩, .int .i64 0] 23))) := (((Below.refl _ _).alloc (Nat.le_refl _) _).alloc (by simp <;> omega) _)
  go_enter Tryz.func24, Tryz.ntmps24
  go_wp2_with fail
  refine (MS.out _).mono ?_
  rintro e w1 ⟨rfl, hb⟩
  have Bs1 := Blk.on Bs0 hb
  have Br1 := Blk.on Br0 hb
  have HB1 := hide (HB0.out.trans (hb.mono HB0.out.size))
  clear hb Bs0 Br0 HB0 
  obtain ⟨ys0, ys1, ys2, ys3, ys4, ys5⟩ := Bs1.out.six
  obtain ⟨yr0, yr1, yr2, yr3⟩ := Br1.out.four
  have fr0 := Br1.out.free 0
  have fr1 := Br1.out.free 1
  have fr2 := Br1.out.free 2
  have fr3 := Br1.out.free 3
  go_wp2
  refine bodyPost_ret (results_dec2 rfl _ _ _ _ _ _ _ rfl (Br1.out.put4 _ _ _ _)) rfl ?_
  exact ⟨rfl, below_put4 (HB1.out) (by omega) _ _ _ _⟩

set_option maxHeartbeats 2000000 in
theorem value_true (ti tf : ByteArray) (x : Int) (cm : Bool) (J : ByteArray) (cx : Int) (nx : Bool) (tx : ByteArray) (ex rx : Int) (w : World) (htab : Tab w) (h : MayS ⟨0, true, bys ti, bys tf, x, cm⟩) (hJ : ∀ W, Tab W → Calls Tryz.prog 62 #[.int .i64 x] W fun e w' => e = .returned (.string J) ∧ Below W.heap.size W w') (hP : ∀ W, Calls Tryz.prog 13 #[.string (⟨#[45]⟩ ++ (ti ++ ⟨#[46]⟩ ++ tf ++ ⟨#[101]⟩ ++ J))] W fun e w' => e = .returned (.tuple #[.agg #[.int .i64 cx, .bool nx, .string tx, .int .i64 ex], .int .i64 rx]) ∧ Below W.heap.size W w') (z1 : ti.size ≤ 4096) (z2 : tf.size ≤ 4096) (z3 : J.size ≤ 10) : Calls Tryz.prog 24 #[shV 0 true ti tf x cm] w fun e w' => e = .returned (.tuple #[.agg #[.int .i64 cx, .bool nx, .string tx, .int .i64 ex], .int .i64 rx]) ∧ Below w.heap.size w w' := by
  have MS := hide (fun W => mayShown_T 0 true ti tf x cm W h)
  have IT := hide hJ
  have PA := hide hP
  have HT := hide htab
  have s1 : ¬ 9223372036854775807 < ti.size + 1 := by omega
  have s2 : ¬ 9223372036854775807 < ti.size + 1 + tf.size := by omega
  have s3 : ¬ 9223372036854775807 < ti.size + 1 + tf.size + 1 := by omega
  have s4 : ¬ 9223372036854775807 < ti.size + 1 + tf.size + 1 + J.size := by omega
  have s5 : ¬ 9223372036854775807 < 1 + (ti.size + 1 + tf.size + 1 + J.size) := by omega
  have e1 : (ti ++ ⟨#[46]⟩ : ByteArray).size = ti.size + 1 := by rw [ByteArray.size_append]; rfl
  have e2 : (ti ++ ⟨#[46]⟩ ++ tf : ByteArray).size = ti.size + 1 + tf.size := by rw [ByteArray.size_append, e1]
  have e3 : (ti ++ ⟨#[46]⟩ ++ tf ++ ⟨#[101]⟩ : ByteArray).size = ti.size + 1 + tf.size + 1 := by rw [ByteArray.size_append, e2]; rfl
  have e4 : (ti ++ ⟨#[46]⟩ ++ tf ++ ⟨#[101]⟩ ++ J : ByteArray).size = ti.size + 1 + tf.size + 1 + J.size := by rw [ByteArray.size_append, e3]
  clear h hJ hP htab z1 z2 z3
  have Bs0 := hide ((Blk.newAt w (w.heap.size) (rfl) #[.int .i64 0, .bool true, .string ti, .string tf, .int .i64 x, .bool cm] 36).alloc (.cells #[.int .i64 0, .bool false, .string ⟨#[]⟩, .int .i64 0] 23))
  have Br0 := hide (Blk.newAt (w.alloc (.cells #[.int .i64 0, .bool true, .string ti, .string tf, .int .i64 x, .bool cm] 36)) (w.heap.size + 1) (by simp) #[.int .i64 0, .bool false, .string ⟨#[]⟩, .int .i64 0] 23)
  have HB0 : Hid (Below w.heap.size w ((w.alloc (.cells #[.int .i64 0, .bool true, .string ti, .string tf, .int .i64 x, .bool cm] 36)).alloc (.cells #[.int .i64 0, .bool false, .string ⟨#[]⟩, .int .i64 0] 23))) := (((Below.refl _ _).alloc (Nat.le_refl _) _).alloc (by simp <;> omega) _)
  go_enter Tryz.func24, Tryz.ntmps24
  go_wp2_with fail
  refine (MS.out _).mono ?_
  rintro e w1 ⟨rfl, hb⟩
  have Bs1 := Blk.on Bs0 hb
  have Br1 := Blk.on Br0 hb
  have HB1 := hide (HB0.out.trans (hb.mono HB0.out.size))
  clear hb Bs0 Br0 HB0 
  obtain ⟨ys0, ys1, ys2, ys3, ys4, ys5⟩ := Bs1.out.six
  obtain ⟨yr0, yr1, yr2, yr3⟩ := Br1.out.four
  have HTW := hide (HT.out.below HB1.out)
  have b0 : Hid (Below w1.heap.size w1 w1.drew) := bdrewD w1
  have C0 : Hid (∀ X, Hid (Below w1.heap.size w1 X) → Calls Tryz.prog 62 #[.int .i64 x] X fun e w' => e = .returned (.string J) ∧ Hid (Below w1.heap.size w1 w') ∧ w'.cell? ⟨w.heap.size, 2, none⟩ = some (.string ti) ∧ w'.cell? ⟨w.heap.size, 3, none⟩ = some (.string tf) ∧ w'.cell? ⟨w.heap.size, 4, none⟩ = some (.int .i64 x)) := by
    intro X bX
    refine (IT.out X (HTW.out.below bX.out)).mono ?_
    rintro e w' ⟨rfl, hb⟩
    have bb := bX.out.trans (hb.mono bX.out.size)
    have Bsq := Bs1.out.below bb Bs1.out.lt
    exact ⟨rfl, bb, Bsq.cell 2, Bsq.cell 3, Bsq.cell 4⟩
  go_wp2_with fail
  have mk0 : True := trivial
  go_region_held3 (fun w' => w'.cell? ⟨w.heap.size, 2, none⟩ = some (.string ti) ∧ w'.cell? ⟨w.heap.size, 3, none⟩ = some (.string tf) ∧ w'.cell? ⟨w.heap.size, 4, none⟩ = some (.int .i64 x)) (go_keep) (first
    | (clear mk0; go_at_call 62; refine (C0.out _ b0).mono ?_; rintro e w2 ⟨rfl, b1, q0_0, q0_1, q0_2⟩; have mk1 : True := trivial))
  have Bs2 := hide (Bs1.out.below b1.out Bs1.out.lt)
  have Br2 := hide (Br1.out.below b1.out Br1.out.lt)
  have HB2 := hide (HB1.out.trans (b1.out.mono HB1.out.size))
  clear mk1 b0 b1 C0 q0_0 q0_1 q0_2 Bs1 Br1 HB1 ys0 ys1 ys2 ys3 ys4 ys5 yr0 yr1 yr2 yr3
  obtain ⟨ys0, ys1, ys2, ys3, ys4, ys5⟩ := Bs2.out.six
  obtain ⟨yr0, yr1, yr2, yr3⟩ := Br2.out.four
  go_wp2_with fail
  refine (PA.out _).mono ?_
  rintro e w3 ⟨rfl, hb⟩
  have Bs3 := Blk.on Bs2 hb
  have Br3 := Blk.on Br2 hb
  have HB3 := hide (HB2.out.trans (hb.mono HB2.out.size))
  clear hb Bs2 Br2 HB2 ys0 ys1 ys2 ys3 ys4 ys5 yr0 yr1 yr2 yr3
  obtain ⟨ys0, ys1, ys2, ys3, ys4, ys5⟩ := Bs3.out.six
  obtain ⟨yr0, yr1, yr2, yr3⟩ := Br3.out.four
  have fr0 := Br3.out.free 0
  have fr1 := Br3.out.free 1
  have fr2 := Br3.out.free 2
  have fr3 := Br3.out.free 3
  go_wp2
  refine bodyPost_ret (results_dec2 rfl _ _ _ _ _ _ _ rfl (Br3.out.put4 _ _ _ _)) rfl ?_
  exact ⟨rfl, below_put4 (HB3.out) (by omega) _ _ _ _⟩

set_option maxHeartbeats 2000000 in
theorem value_false (ti tf : ByteArray) (x : Int) (cm : Bool) (J : ByteArray) (cx : Int) (nx : Bool) (tx : ByteArray) (ex rx : Int) (w : World) (htab : Tab w) (h : MayS ⟨0, false, bys ti, bys tf, x, cm⟩) (hJ : ∀ W, Tab W → Calls Tryz.prog 62 #[.int .i64 x] W fun e w' => e = .returned (.string J) ∧ Below W.heap.size W w') (hP : ∀ W, Calls Tryz.prog 13 #[.string (ti ++ ⟨#[46]⟩ ++ tf ++ ⟨#[101]⟩ ++ J)] W fun e w' => e = .returned (.tuple #[.agg #[.int .i64 cx, .bool nx, .string tx, .int .i64 ex], .int .i64 rx]) ∧ Below W.heap.size W w') (z1 : ti.size ≤ 4096) (z2 : tf.size ≤ 4096) (z3 : J.size ≤ 10) : Calls Tryz.prog 24 #[shV 0 false ti tf x cm] w fun e w' => e = .returned (.tuple #[.agg #[.int .i64 cx, .bool nx, .string tx, .int .i64 ex], .int .i64 rx]) ∧ Below w.heap.size w w' := by
  have MS := hide (fun W => mayShown_T 0 false ti tf x cm W h)
  have IT := hide hJ
  have PA := hide hP
  have HT := hide htab
  have s1 : ¬ 9223372036854775807 < ti.size + 1 := by omega
  have s2 : ¬ 9223372036854775807 < ti.size + 1 + tf.size := by omega
  have s3 : ¬ 9223372036854775807 < ti.size + 1 + tf.size + 1 := by omega
  have s4 : ¬ 9223372036854775807 < ti.size + 1 + tf.size + 1 + J.size := by omega
  have s5 : ¬ 9223372036854775807 < 1 + (ti.size + 1 + tf.size + 1 + J.size) := by omega
  have e1 : (ti ++ ⟨#[46]⟩ : ByteArray).size = ti.size + 1 := by rw [ByteArray.size_append]; rfl
  have e2 : (ti ++ ⟨#[46]⟩ ++ tf : ByteArray).size = ti.size + 1 + tf.size := by rw [ByteArray.size_append, e1]
  have e3 : (ti ++ ⟨#[46]⟩ ++ tf ++ ⟨#[101]⟩ : ByteArray).size = ti.size + 1 + tf.size + 1 := by rw [ByteArray.size_append, e2]; rfl
  have e4 : (ti ++ ⟨#[46]⟩ ++ tf ++ ⟨#[101]⟩ ++ J : ByteArray).size = ti.size + 1 + tf.size + 1 + J.size := by rw [ByteArray.size_append, e3]
  clear h hJ hP htab z1 z2 z3
  have Bs0 := hide ((Blk.newAt w (w.heap.size) (rfl) #[.int .i64 0, .bool false, .string ti, .string tf, .int .i64 x, .bool cm] 36).alloc (.cells #[.int .i64 0, .bool false, .string ⟨#[]⟩, .int .i64 0] 23))
  have Br0 := hide (Blk.newAt (w.alloc (.cells #[.int .i64 0, .bool false, .string ti, .string tf, .int .i64 x, .bool cm] 36)) (w.heap.size + 1) (by simp) #[.int .i64 0, .bool false, .string ⟨#[]⟩, .int .i64 0] 23)
  have HB0 : Hid (Below w.heap.size w ((w.alloc (.cells #[.int .i64 0, .bool false, .string ti, .string tf, .int .i64 x, .bool cm] 36)).alloc (.cells #[.int .i64 0, .bool false, .string ⟨#[]⟩, .int .i64 0] 23))) := (((Below.refl _ _).alloc (Nat.le_refl _) _).alloc (by simp <;> omega) _)
  go_enter Tryz.func24, Tryz.ntmps24
  go_wp2_with fail
  refine (MS.out _).mono ?_
  rintro e w1 ⟨rfl, hb⟩
  have Bs1 := Blk.on Bs0 hb
  have Br1 := Blk.on Br0 hb
  have HB1 := hide (HB0.out.trans (hb.mono HB0.out.size))
  clear hb Bs0 Br0 HB0 
  obtain ⟨ys0, ys1, ys2, ys3, ys4, ys5⟩ := Bs1.out.six
  obtain ⟨yr0, yr1, yr2, yr3⟩ := Br1.out.four
  have HTW := hide (HT.out.below HB1.out)
  have b0 : Hid (Below w1.heap.size w1 w1.drew) := bdrewD w1
  have C0 : Hid (∀ X, Hid (Below w1.heap.size w1 X) → Calls Tryz.prog 62 #[.int .i64 x] X fun e w' => e = .returned (.string J) ∧ Hid (Below w1.heap.size w1 w') ∧ w'.cell? ⟨w.heap.size, 2, none⟩ = some (.string ti) ∧ w'.cell? ⟨w.heap.size, 3, none⟩ = some (.string tf) ∧ w'.cell? ⟨w.heap.size, 4, none⟩ = some (.int .i64 x)) := by
    intro X bX
    refine (IT.out X (HTW.out.below bX.out)).mono ?_
    rintro e w' ⟨rfl, hb⟩
    have bb := bX.out.trans (hb.mono bX.out.size)
    have Bsq := Bs1.out.below bb Bs1.out.lt
    exact ⟨rfl, bb, Bsq.cell 2, Bsq.cell 3, Bsq.cell 4⟩
  go_wp2_with fail
  have mk0 : True := trivial
  go_region_held3 (fun w' => w'.cell? ⟨w.heap.size, 2, none⟩ = some (.string ti) ∧ w'.cell? ⟨w.heap.size, 3, none⟩ = some (.string tf) ∧ w'.cell? ⟨w.heap.size, 4, none⟩ = some (.int .i64 x)) (go_keep) (first
    | (clear mk0; go_at_call 62; refine (C0.out _ b0).mono ?_; rintro e w2 ⟨rfl, b1, q0_0, q0_1, q0_2⟩; have mk1 : True := trivial))
  have Bs2 := hide (Bs1.out.below b1.out Bs1.out.lt)
  have Br2 := hide (Br1.out.below b1.out Br1.out.lt)
  have HB2 := hide (HB1.out.trans (b1.out.mono HB1.out.size))
  clear mk1 b0 b1 C0 q0_0 q0_1 q0_2 Bs1 Br1 HB1 ys0 ys1 ys2 ys3 ys4 ys5 yr0 yr1 yr2 yr3
  obtain ⟨ys0, ys1, ys2, ys3, ys4, ys5⟩ := Bs2.out.six
  obtain ⟨yr0, yr1, yr2, yr3⟩ := Br2.out.four
  go_wp2_with fail
  refine (PA.out _).mono ?_
  rintro e w3 ⟨rfl, hb⟩
  have Bs3 := Blk.on Bs2 hb
  have Br3 := Blk.on Br2 hb
  have HB3 := hide (HB2.out.trans (hb.mono HB2.out.size))
  clear hb Bs2 Br2 HB2 ys0 ys1 ys2 ys3 ys4 ys5 yr0 yr1 yr2 yr3
  obtain ⟨ys0, ys1, ys2, ys3, ys4, ys5⟩ := Bs3.out.six
  obtain ⟨yr0, yr1, yr2, yr3⟩ := Br3.out.four
  have fr0 := Br3.out.free 0
  have fr1 := Br3.out.free 1
  have fr2 := Br3.out.free 2
  have fr3 := Br3.out.free 3
  go_wp2
  refine bodyPost_ret (results_dec2 rfl _ _ _ _ _ _ _ rfl (Br3.out.put4 _ _ _ _)) rfl ?_
  exact ⟨rfl, below_put4 (HB3.out) (by omega) _ _ _ _⟩

theorem Value_any (c : Int) (n : Bool) (ti tf : ByteArray) (x : Int) (cm : Bool) (w : World) (htab : Tab w) : Calls Tryz.prog 24 #[shV c n ti tf x cm] w fun e w' => e = .returned (decErr (valueS ⟨c, n, bys ti, bys tf, x, cm⟩)) ∧ Below w.heap.size w w' := by
  unfold valueS
  by_cases h : MayS ⟨c, n, bys ti, bys tf, x, cm⟩
  · rw [if_neg (fun g => g h)]
    by_cases h0 : c = 0
    · subst h0
      rw [if_neg (fun g => g rfl)]
      obtain ⟨⟨x1, x2⟩, h2⟩ := id h
      simp only at x1 x2
      rcases h2 with ⟨_, h2, ⟨h3, h4⟩, ⟨h5, h6⟩⟩ | ⟨h1, _⟩ | ⟨h1, _⟩
      · simp only at h2 h3 h4 h5 h6
        have P := parse_shown n h4 h6 (fun g => h2.elim (fun q => q g.1) (fun q => q g.2)) (show -10000 ≤ x by omega) (by omega)
        rw [bys_len] at h3 h5
        have il := itoa_len (e := x) (by omega) (by omega)
        have T1 : bys (ti ++ ⟨#[46]⟩ ++ tf ++ ⟨#[101]⟩ ++ ⟨(Lib.itoa x).toArray⟩) = shownT false (bys ti) (bys tf) x := by
          rw [bys_append, bys_append, bys_append, bys_append, bys_mk (Lib.itoa x)]
          unfold shownT
          simp only [Bool.false_eq_true, if_false, List.nil_append, List.append_assoc]
          rfl
        have Z1 : ((ti ++ ⟨#[46]⟩ ++ tf ++ ⟨#[101]⟩ ++ ⟨(Lib.itoa x).toArray⟩)).size ≤ 100000 := by
          rw [← bys_len, T1]
          unfold shownT
          simp only [Bool.false_eq_true, if_false, List.nil_append, List.length_append, List.length_cons, bys_len]
          omega
        rw [← P]
        cases n
        · have PS := fun W => Parse_any (ti ++ ⟨#[46]⟩ ++ tf ++ ⟨#[101]⟩ ++ ⟨(Lib.itoa x).toArray⟩) W (by omega)
          rw [T1] at PS
          exact value_false ti tf x cm ⟨(Lib.itoa x).toArray⟩ _ _ _ _ _ w htab h (fun W hW => itoa_any x W (by omega) (by omega) hW) PS h3 h5 (by rw [size_mk0]; omega)
        · have T2 : bys (⟨#[45]⟩ ++ (ti ++ ⟨#[46]⟩ ++ tf ++ ⟨#[101]⟩ ++ ⟨(Lib.itoa x).toArray⟩)) = shownT true (bys ti) (bys tf) x := by rw [bys_append, T1]; rfl
          have PS := fun W => Parse_any (⟨#[45]⟩ ++ (ti ++ ⟨#[46]⟩ ++ tf ++ ⟨#[101]⟩ ++ ⟨(Lib.itoa x).toArray⟩)) W (by rw [ByteArray.size_append]; have : (⟨#[45]⟩ : ByteArray).size = 1 := rfl; omega)
          rw [T2] at PS
          exact value_true ti tf x cm ⟨(Lib.itoa x).toArray⟩ _ _ _ _ _ w htab h (fun W hW => itoa_any x W (by omega) (by omega) hW) PS h3 h5 (by rw [size_mk0]; omega)
      · exact absurd (show (0 : Int) = 1 from h1) (by decide)
      · exact absurd (show (0 : Int) = 2 from h1) (by decide)
    · rw [if_pos h0]
      have hc : c = ((c.toNat : Nat) : Int) := by
        obtain ⟨_, h2⟩ := h
        rcases h2 with ⟨h1, _⟩ | ⟨h1, _⟩ | ⟨h1, _⟩ <;> simp only at h1 <;> omega
      have g := value_cls c n ti tf x cm w h h0
      unfold decErr decVal
      simp only
      rw [← hc]
      exact g
  · rw [if_pos h]
    exact value_no c n ti tf x cm w h

end Go.Proofs.YtckijnlolmbdiaaGreatDoor

namespace Go.Proofs.YtckijnlolmbdiaaGreatDoor
open Go.RowKit

theorem digB_ok {l : List UInt8} (h : l.all (fun b => decide (48 ≤ b.toNat) && decide (b.toNat ≤ 57)) = true) : DigB l := by
  intro k hk
  unfold byt
  rw [List.getElem?_eq_getElem hk]
  have := List.all_eq_true.1 h _ (List.getElem_mem hk)
  simpa using this

theorem tellR_of {neg : Bool} {l : List UInt8} {e : Int} {N : Nat} {d : DecT} (hd : DigB l) (hN : N = decV l) (h : ofD neg l e = d) (hm : May d) : tellF neg N e = (d, 0) := by
  have e1 : finD neg N e = d := by rw [hN, ← ofD_fin neg l e hd]; exact h
  rw [tellF_yes (by rw [e1]; exact hm), e1]

theorem w3 : Fin ⟨0, false, [51], 0⟩ := ⟨rfl, by decide, by decide, by decide, by decide, by decide, by decide, digB_ok rfl⟩
theorem w1 : Fin ⟨0, false, [49], 0⟩ := ⟨rfl, by decide, by decide, by decide, by decide, by decide, by decide, digB_ok rfl⟩

end Go.Proofs.YtckijnlolmbdiaaGreatDoor

namespace Go.Proofs.YtckijnlolmbdiaaGreatDoor
open Go.RowKit

theorem x1005 : Fin ⟨0, false, [49, 48, 48, 53], -3⟩ := ⟨rfl, by decide, by decide, by decide, by decide, by decide, by decide, digB_ok rfl⟩
theorem xone : Fin ⟨0, false, [49], 0⟩ := ⟨rfl, by decide, by decide, by decide, by decide, by decide, by decide, digB_ok rfl⟩
theorem x125 : Fin ⟨0, false, [49, 50, 53], 2⟩ := ⟨rfl, by decide, by decide, by decide, by decide, by decide, by decide, digB_ok rfl⟩
theorem xp1 : MayP ⟨1, 2, 2, 0, 0, false, 0, false, [], 0, 4, false, 0, 0⟩ := ⟨⟨by decide, by decide⟩, ⟨⟨by decide, by decide⟩, .inl rfl⟩, .inr (.inl ⟨rfl, ⟨⟨by decide, by decide⟩, by decide⟩, ⟨rfl, rfl⟩, rfl, rfl, rfl, rfl, rfl⟩)⟩
theorem xp2 : ¬ MayP ⟨1, 3, 2, 0, 0, false, 0, false, [], 0, 4, false, 0, 0⟩ := fun h => by
  have := (mayP_1 h rfl).1.1.2
  exact absurd (show (3 : Int) ≤ 2 from this) (by decide)
theorem xp0 : MayP ⟨0, 0, 0, 0, 0, false, 0, false, [], 0, 0, false, 0, 0⟩ := ⟨⟨by decide, by decide⟩, ⟨⟨by decide, by decide⟩, .inl rfl⟩, .inl ⟨rfl, ⟨rfl, rfl⟩, ⟨rfl, rfl⟩, rfl, rfl, rfl, rfl, rfl⟩⟩

theorem xs1 : showP 0 false [49, 48, 48, 53] (-3) ⟨1, 2, 2, 0, 0, false, 0, false, [], 0, 4, false, 0, 0⟩ = (⟨0, false, [49], [48, 48], 0, false⟩, 0) := by
  have hr : roundP ⟨1, 2, 2, 0, 0, false, 0, false, [], 0, 4, false, 0, 0⟩ 0 false [49, 48, 48, 53] (-3) = (⟨0, false, [49], 0⟩, 0) := by
    rw [roundP_1 rfl]
    unfold atR
    rw [if_neg (fun g => g x1005.may), if_neg (by decide), if_neg (by decide)]
    unfold rndD
    rw [if_neg (by decide)]
    exact tellR_of (l := [49, 48, 48]) (digB_ok rfl) rfl rfl xone.may
  rw [showP_in (c := 0) (n := false) (l := [49, 48, 48, 53]) (e := -3) x1005.may xp1 (by rw [hr]), hr]
  rfl
theorem xs2 : showP 0 false [] 1 ⟨1, 2, 2, 0, 0, false, 0, false, [], 0, 4, false, 0, 0⟩ = (zeroS, 52) := by
  refine showP_no ?_
  rintro (⟨_, ⟨_, h⟩ | ⟨h, _⟩⟩ | ⟨h, _⟩ | ⟨h, _⟩)
  · cases h
  · exact h rfl
  · cases h
  · cases h
theorem xs3 : showP 0 false [] 0 ⟨1, 3, 2, 0, 0, false, 0, false, [], 0, 4, false, 0, 0⟩ = (zeroS, 70) := showP_bad (may_zero false) xp2
theorem xv1 : valueS ⟨0, false, [48, 48, 49, 50], [53, 48], 3, false⟩ = (⟨0, false, [49, 50, 53], 2⟩, 0) := by
  unfold valueS
  rw [if_neg (fun g => g ⟨⟨by decide, by decide⟩, .inl ⟨rfl, .inl (by decide), ⟨by decide, digB_ok rfl⟩, ⟨by decide, digB_ok rfl⟩⟩⟩), if_neg (fun g => g rfl)]
  exact tellR_of (l := [48, 48, 49, 50, 53, 48]) (digB_ok rfl) rfl rfl x125.may
theorem xv2 : valueS ⟨0, false, [], [], 0, false⟩ = (zeroD, 71) := by
  unfold valueS
  rw [if_pos]
  rintro ⟨_, ⟨_, h, _⟩ | ⟨h, _⟩ | ⟨h, _⟩⟩
  · exact h.elim (fun g => g rfl) (fun g => g rfl)
  · exact absurd (show (0 : Int) = 1 from h) (by decide)
  · exact absurd (show (0 : Int) = 2 from h) (by decide)

theorem xc1 (w : World) (h : Tab w) : Calls Tryz.prog 22 #[dcV 0 false ⟨#[49, 48, 48, 53]⟩ (-3), prV 1 2 2 0 0 false 0 false ⟨#[]⟩ 0 4 false 0 0] w fun e w' => e = .returned (.tuple #[.agg #[.int .i64 0, .bool false, .string ⟨#[49]⟩, .string ⟨#[48, 48]⟩, .int .i64 0, .bool false], .int .i64 0]) ∧ Below w.heap.size w w' := by
  have g := Show_any 0 false ⟨#[49, 48, 48, 53]⟩ (-3) 1 2 2 0 0 false 0 false ⟨#[]⟩ 0 4 false 0 0 w h
  rw [show bys ⟨#[49, 48, 48, 53]⟩ = [49, 48, 48, 53] from rfl, show bys ⟨#[]⟩ = [] from rfl, xs1] at g
  exact g

theorem xc2 (w : World) (h : Tab w) : Calls Tryz.prog 22 #[dcV 0 false ⟨#[]⟩ 1, prV 1 2 2 0 0 false 0 false ⟨#[]⟩ 0 4 false 0 0] w fun e w' => e = .returned (.tuple #[.agg #[.int .i64 0, .bool false, .string ⟨#[]⟩, .string ⟨#[]⟩, .int .i64 0, .bool false], .int .i64 52]) ∧ Below w.heap.size w w' := by
  have g := Show_any 0 false ⟨#[]⟩ 1 1 2 2 0 0 false 0 false ⟨#[]⟩ 0 4 false 0 0 w h
  rw [show bys ⟨#[]⟩ = [] from rfl, xs2] at g
  exact g

theorem xc3 (w : World) (h : Tab w) : Calls Tryz.prog 22 #[dcV 0 false ⟨#[]⟩ 0, prV 1 3 2 0 0 false 0 false ⟨#[]⟩ 0 4 false 0 0] w fun e w' => e = .returned (.tuple #[.agg #[.int .i64 0, .bool false, .string ⟨#[]⟩, .string ⟨#[]⟩, .int .i64 0, .bool false], .int .i64 70]) ∧ Below w.heap.size w w' := by
  have g := Show_any 0 false ⟨#[]⟩ 0 1 3 2 0 0 false 0 false ⟨#[]⟩ 0 4 false 0 0 w h
  rw [show bys ⟨#[]⟩ = [] from rfl, xs3] at g
  exact g

theorem xc4 (w : World) (h : Tab w) : Calls Tryz.prog 24 #[shV 0 false ⟨#[48, 48, 49, 50]⟩ ⟨#[53, 48]⟩ 3 false] w fun e w' => e = .returned (.tuple #[.agg #[.int .i64 0, .bool false, .string ⟨#[49, 50, 53]⟩, .int .i64 2], .int .i64 0]) ∧ Below w.heap.size w w' := by
  have g := Value_any 0 false ⟨#[48, 48, 49, 50]⟩ ⟨#[53, 48]⟩ 3 false w h
  rw [show bys ⟨#[48, 48, 49, 50]⟩ = [48, 48, 49, 50] from rfl, show bys ⟨#[53, 48]⟩ = [53, 48] from rfl, xv1] at g
  exact g

theorem xc5 (w : World) (h : Tab w) : Calls Tryz.prog 24 #[shV 0 false ⟨#[]⟩ ⟨#[]⟩ 0 false] w fun e w' => e = .returned (.tuple #[.agg #[.int .i64 0, .bool false, .string ⟨#[]⟩, .int .i64 0], .int .i64 71]) ∧ Below w.heap.size w w' := by
  have g := Value_any 0 false ⟨#[]⟩ ⟨#[]⟩ 0 false w h
  rw [show bys ⟨#[]⟩ = [] from rfl, xv2] at g
  exact g

theorem xc6 (w : World) (h : Tab w) : Calls Tryz.prog 20 #[prV 1 3 2 0 0 false 0 false ⟨#[]⟩ 0 4 false 0 0] w fun e w' => e = .returned (.int .i64 70) ∧ Below w.heap.size w w' := by
  exact check_fP 1 3 2 0 0 false 0 false ⟨#[]⟩ 0 4 false 0 0 w h xp2

theorem xc7 (w : World) (h : Tab w) : Calls Tryz.prog 20 #[prV 0 0 0 0 0 false 0 false ⟨#[]⟩ 0 0 false 0 0] w fun e w' => e = .returned (.int .i64 0) ∧ Below w.heap.size w w' := by
  exact check_tP 0 0 0 0 0 false 0 false ⟨#[]⟩ 0 0 false 0 0 w h xp0

theorem Blk.fset1 {w : World} {b : Nat} {t : TypeId} {x0 x1 x2 x3 x4 x5 x6 x7 x8 x9 x10 x11 x12 x13 : Value} (h : Blk w b #[x0, x1, x2, x3, x4, x5, x6, x7, x8, x9, x10, x11, x12, x13] t) (y : Value) : Blk (w.setCell ⟨b, 1, none⟩ y) b #[x0, y, x2, x3, x4, x5, x6, x7, x8, x9, x10, x11, x12, x13] t := by
  unfold Blk at *
  simp only [World.setCell, Array.getElem?_modify, if_true, h, Option.map_some]
  rfl

set_option maxRecDepth 100000 in
set_option maxHeartbeats 4000000 in
theorem xawake_any (w : World) (htab : Tab w) : Calls Tryz.prog 19 #[] w fun e w' => e = .returned (.bool true) ∧ Below w.heap.size w w' := by
  have HT := hide htab
  clear htab
  have HB0 : Hid (Below w.heap.size w w) := Below.refl _ _
  go_enter Tryz.func19, Tryz.ntmps19
  have Bp1 := hide ((Blk.newAt w (w.heap.size) (rfl) #[.int .i64 1, .int .i64 2, .int .i64 2, .int .i64 0, .int .i64 0, .bool false, .int .i64 0, .bool false, .string ⟨#[]⟩, .int .i64 0, .int .i64 4, .bool false, .int .i64 0, .int .i64 0] 32))
  have HB1 : Hid (Below w.heap.size w (w.alloc (.cells #[.int .i64 1, .int .i64 2, .int .i64 2, .int .i64 0, .int .i64 0, .bool false, .int .i64 0, .bool false, .string ⟨#[]⟩, .int .i64 0, .int .i64 4, .bool false, .int .i64 0, .int .i64 0] 32))) := (HB0.out.alloc HB0.out.size _)
  clear  HB0 
  obtain ⟨yp0, yp1, yp2, yp3, yp4, yp5, yp6, yp7, yp8, yp9, yp10, yp11, yp12, yp13⟩ := Bp1.out.fourteen
  go_wp2_with fail
  refine (xc1 _ (HT.out.below HB1.out)).mono ?_
  rintro e w2 ⟨rfl, hb⟩
  have Bp2 := Blk.on Bp1 hb
  have HB2 := hide (HB1.out.trans (hb.mono HB1.out.size))
  clear hb Bp1 HB1 yp0 yp1 yp2 yp3 yp4 yp5 yp6 yp7 yp8 yp9 yp10 yp11 yp12 yp13
  have L1 := hide Bp2.out.lt
  obtain ⟨yp0, yp1, yp2, yp3, yp4, yp5, yp6, yp7, yp8, yp9, yp10, yp11, yp12, yp13⟩ := Bp2.out.fourteen
  have Bp3 := Blk.up Bp2 (.cells #[.int .i64 0, .bool false, .string ⟨#[49]⟩, .string ⟨#[48, 48]⟩, .int .i64 0, .bool false] 36)
  have Bs3 := hide ((Blk.newAt w2 (w2.heap.size) (rfl) #[.int .i64 0, .bool false, .string ⟨#[49]⟩, .string ⟨#[48, 48]⟩, .int .i64 0, .bool false] 36))
  have HB3 : Hid (Below w.heap.size w (w2.alloc (.cells #[.int .i64 0, .bool false, .string ⟨#[49]⟩, .string ⟨#[48, 48]⟩, .int .i64 0, .bool false] 36))) := (HB2.out.alloc HB2.out.size _)
  clear Bp2 HB2 yp0 yp1 yp2 yp3 yp4 yp5 yp6 yp7 yp8 yp9 yp10 yp11 yp12 yp13
  obtain ⟨yp0, yp1, yp2, yp3, yp4, yp5, yp6, yp7, yp8, yp9, yp10, yp11, yp12, yp13⟩ := Bp3.out.fourteen
  obtain ⟨ys0, ys1, ys2, ys3, ys4, ys5⟩ := Bs3.out.six
  go_wp2_with fail
  refine (xc2 _ (HT.out.below HB3.out)).mono ?_
  rintro e w4 ⟨rfl, hb⟩
  have Bp4 := Blk.on Bp3 hb
  have Bs4 := Blk.on Bs3 hb
  have HB4 := hide (HB3.out.trans (hb.mono HB3.out.size))
  clear hb Bp3 Bs3 HB3 yp0 yp1 yp2 yp3 yp4 yp5 yp6 yp7 yp8 yp9 yp10 yp11 yp12 yp13 ys0 ys1 ys2 ys3 ys4 ys5
  have L2 := hide Bp4.out.lt
  have L3 := hide Bs4.out.lt
  obtain ⟨yp0, yp1, yp2, yp3, yp4, yp5, yp6, yp7, yp8, yp9, yp10, yp11, yp12, yp13⟩ := Bp4.out.fourteen
  obtain ⟨ys0, ys1, ys2, ys3, ys4, ys5⟩ := Bs4.out.six
  have Bp5 := Blk.up Bp4 (.cells #[.int .i64 0, .bool false, .string ⟨#[]⟩, .string ⟨#[]⟩, .int .i64 0, .bool false] 36)
  have Bs5 := Blk.up Bs4 (.cells #[.int .i64 0, .bool false, .string ⟨#[]⟩, .string ⟨#[]⟩, .int .i64 0, .bool false] 36)
  have Bu5 := hide ((Blk.newAt w4 (w4.heap.size) (rfl) #[.int .i64 0, .bool false, .string ⟨#[]⟩, .string ⟨#[]⟩, .int .i64 0, .bool false] 36))
  have HB5 : Hid (Below w.heap.size w (w4.alloc (.cells #[.int .i64 0, .bool false, .string ⟨#[]⟩, .string ⟨#[]⟩, .int .i64 0, .bool false] 36))) := (HB4.out.alloc HB4.out.size _)
  clear Bp4 Bs4 HB4 yp0 yp1 yp2 yp3 yp4 yp5 yp6 yp7 yp8 yp9 yp10 yp11 yp12 yp13 ys0 ys1 ys2 ys3 ys4 ys5
  have ns : ¬ (⟨w.heap.size, 1, none⟩ : Addr).block = w2.heap.size := by have := L1.out; have := L2.out; simp only; omega
  have nu : ¬ (⟨w.heap.size, 1, none⟩ : Addr).block = w4.heap.size := by have := L1.out; have := L2.out; simp only; omega
  have fp1 := Bp5.out.free 1
  have yp1 := Bp5.out.cell 1
  simp at yp1
  have Bp6 := hide (Bp5.out.fset1 (.int .i64 3))
  have Bs6 := hide (Bs5.out.other ns (.int .i64 3))
  have Bu6 := hide (Bu5.out.other nu (.int .i64 3))
  have HB6 : Hid (Below w.heap.size w ((w4.alloc (.cells #[.int .i64 0, .bool false, .string ⟨#[]⟩, .string ⟨#[]⟩, .int .i64 0, .bool false] 36)).setCell ⟨w.heap.size, 1, none⟩ (.int .i64 3))) := HB5.out.setCell (Nat.le_refl _) _
  clear Bp5 Bs5 Bu5 HB5 ns nu L1 L2 L3
  obtain ⟨zp0, zp1, zp2, zp3, zp4, zp5, zp6, zp7, zp8, zp9, zp10, zp11, zp12, zp13⟩ := Bp6.out.fourteen
  go_wp2_with fail
  refine (xc3 _ (HT.out.below HB6.out)).mono ?_
  rintro e w7 ⟨rfl, hb⟩
  have Bp7 := Blk.on Bp6 hb
  have Bs7 := Blk.on Bs6 hb
  have Bu7 := Blk.on Bu6 hb
  have HB7 := hide (HB6.out.trans (hb.mono HB6.out.size))
  clear hb Bp6 Bs6 Bu6 HB6 zp0 zp1 zp2 zp3 zp4 zp5 zp6 zp7 zp8 zp9 zp10 zp11 zp12 zp13 yp1 fp1
  obtain ⟨yp0, yp1, yp2, yp3, yp4, yp5, yp6, yp7, yp8, yp9, yp10, yp11, yp12, yp13⟩ := Bp7.out.fourteen
  obtain ⟨ys0, ys1, ys2, ys3, ys4, ys5⟩ := Bs7.out.six
  obtain ⟨yu0, yu1, yu2, yu3, yu4, yu5⟩ := Bu7.out.six
  have Bp8 := Blk.up Bp7 (.cells #[.int .i64 0, .bool false, .string ⟨#[]⟩, .string ⟨#[]⟩, .int .i64 0, .bool false] 36)
  have Bs8 := Blk.up Bs7 (.cells #[.int .i64 0, .bool false, .string ⟨#[]⟩, .string ⟨#[]⟩, .int .i64 0, .bool false] 36)
  have Bu8 := Blk.up Bu7 (.cells #[.int .i64 0, .bool false, .string ⟨#[]⟩, .string ⟨#[]⟩, .int .i64 0, .bool false] 36)
  have Bq8 := hide ((Blk.newAt w7 (w7.heap.size) (rfl) #[.int .i64 0, .bool false, .string ⟨#[]⟩, .string ⟨#[]⟩, .int .i64 0, .bool false] 36))
  have HB8 : Hid (Below w.heap.size w (w7.alloc (.cells #[.int .i64 0, .bool false, .string ⟨#[]⟩, .string ⟨#[]⟩, .int .i64 0, .bool false] 36))) := (HB7.out.alloc HB7.out.size _)
  clear Bp7 Bs7 Bu7 HB7 yp0 yp1 yp2 yp3 yp4 yp5 yp6 yp7 yp8 yp9 yp10 yp11 yp12 yp13 ys0 ys1 ys2 ys3 ys4 ys5 yu0 yu1 yu2 yu3 yu4 yu5
  obtain ⟨yp0, yp1, yp2, yp3, yp4, yp5, yp6, yp7, yp8, yp9, yp10, yp11, yp12, yp13⟩ := Bp8.out.fourteen
  obtain ⟨ys0, ys1, ys2, ys3, ys4, ys5⟩ := Bs8.out.six
  obtain ⟨yu0, yu1, yu2, yu3, yu4, yu5⟩ := Bu8.out.six
  obtain ⟨yq0, yq1, yq2, yq3, yq4, yq5⟩ := Bq8.out.six
  go_wp2_with fail
  refine (xc4 _ (HT.out.below HB8.out)).mono ?_
  rintro e w9 ⟨rfl, hb⟩
  have Bp9 := Blk.on Bp8 hb
  have Bs9 := Blk.on Bs8 hb
  have Bu9 := Blk.on Bu8 hb
  have Bq9 := Blk.on Bq8 hb
  have HB9 := hide (HB8.out.trans (hb.mono HB8.out.size))
  clear hb Bp8 Bs8 Bu8 Bq8 HB8 yp0 yp1 yp2 yp3 yp4 yp5 yp6 yp7 yp8 yp9 yp10 yp11 yp12 yp13 ys0 ys1 ys2 ys3 ys4 ys5 yu0 yu1 yu2 yu3 yu4 yu5 yq0 yq1 yq2 yq3 yq4 yq5
  obtain ⟨yp0, yp1, yp2, yp3, yp4, yp5, yp6, yp7, yp8, yp9, yp10, yp11, yp12, yp13⟩ := Bp9.out.fourteen
  obtain ⟨ys0, ys1, ys2, ys3, ys4, ys5⟩ := Bs9.out.six
  obtain ⟨yu0, yu1, yu2, yu3, yu4, yu5⟩ := Bu9.out.six
  obtain ⟨yq0, yq1, yq2, yq3, yq4, yq5⟩ := Bq9.out.six
  have Bp10 := Blk.up Bp9 (.cells #[.int .i64 0, .bool false, .string ⟨#[49, 50, 53]⟩, .int .i64 2] 23)
  have Bs10 := Blk.up Bs9 (.cells #[.int .i64 0, .bool false, .string ⟨#[49, 50, 53]⟩, .int .i64 2] 23)
  have Bu10 := Blk.up Bu9 (.cells #[.int .i64 0, .bool false, .string ⟨#[49, 50, 53]⟩, .int .i64 2] 23)
  have Bq10 := Blk.up Bq9 (.cells #[.int .i64 0, .bool false, .string ⟨#[49, 50, 53]⟩, .int .i64 2] 23)
  have Bv10 := hide ((Blk.newAt w9 (w9.heap.size) (rfl) #[.int .i64 0, .bool false, .string ⟨#[49, 50, 53]⟩, .int .i64 2] 23))
  have HB10 : Hid (Below w.heap.size w (w9.alloc (.cells #[.int .i64 0, .bool false, .string ⟨#[49, 50, 53]⟩, .int .i64 2] 23))) := (HB9.out.alloc HB9.out.size _)
  clear Bp9 Bs9 Bu9 Bq9 HB9 yp0 yp1 yp2 yp3 yp4 yp5 yp6 yp7 yp8 yp9 yp10 yp11 yp12 yp13 ys0 ys1 ys2 ys3 ys4 ys5 yu0 yu1 yu2 yu3 yu4 yu5 yq0 yq1 yq2 yq3 yq4 yq5
  obtain ⟨yp0, yp1, yp2, yp3, yp4, yp5, yp6, yp7, yp8, yp9, yp10, yp11, yp12, yp13⟩ := Bp10.out.fourteen
  obtain ⟨ys0, ys1, ys2, ys3, ys4, ys5⟩ := Bs10.out.six
  obtain ⟨yu0, yu1, yu2, yu3, yu4, yu5⟩ := Bu10.out.six
  obtain ⟨yq0, yq1, yq2, yq3, yq4, yq5⟩ := Bq10.out.six
  obtain ⟨yv0, yv1, yv2, yv3⟩ := Bv10.out.four
  go_wp2_with fail
  refine (xc5 _ (HT.out.below HB10.out)).mono ?_
  rintro e w11 ⟨rfl, hb⟩
  have Bp11 := Blk.on Bp10 hb
  have Bs11 := Blk.on Bs10 hb
  have Bu11 := Blk.on Bu10 hb
  have Bq11 := Blk.on Bq10 hb
  have Bv11 := Blk.on Bv10 hb
  have HB11 := hide (HB10.out.trans (hb.mono HB10.out.size))
  clear hb Bp10 Bs10 Bu10 Bq10 Bv10 HB10 yp0 yp1 yp2 yp3 yp4 yp5 yp6 yp7 yp8 yp9 yp10 yp11 yp12 yp13 ys0 ys1 ys2 ys3 ys4 ys5 yu0 yu1 yu2 yu3 yu4 yu5 yq0 yq1 yq2 yq3 yq4 yq5 yv0 yv1 yv2 yv3
  obtain ⟨yp0, yp1, yp2, yp3, yp4, yp5, yp6, yp7, yp8, yp9, yp10, yp11, yp12, yp13⟩ := Bp11.out.fourteen
  obtain ⟨ys0, ys1, ys2, ys3, ys4, ys5⟩ := Bs11.out.six
  obtain ⟨yu0, yu1, yu2, yu3, yu4, yu5⟩ := Bu11.out.six
  obtain ⟨yq0, yq1, yq2, yq3, yq4, yq5⟩ := Bq11.out.six
  obtain ⟨yv0, yv1, yv2, yv3⟩ := Bv11.out.four
  have Bp12 := Blk.up Bp11 (.cells #[.int .i64 0, .bool false, .string ⟨#[]⟩, .int .i64 0] 23)
  have Bs12 := Blk.up Bs11 (.cells #[.int .i64 0, .bool false, .string ⟨#[]⟩, .int .i64 0] 23)
  have Bu12 := Blk.up Bu11 (.cells #[.int .i64 0, .bool false, .string ⟨#[]⟩, .int .i64 0] 23)
  have Bq12 := Blk.up Bq11 (.cells #[.int .i64 0, .bool false, .string ⟨#[]⟩, .int .i64 0] 23)
  have Bv12 := Blk.up Bv11 (.cells #[.int .i64 0, .bool false, .string ⟨#[]⟩, .int .i64 0] 23)
  have Bz12 := hide ((Blk.newAt w11 (w11.heap.size) (rfl) #[.int .i64 0, .bool false, .string ⟨#[]⟩, .int .i64 0] 23))
  have HB12 : Hid (Below w.heap.size w (w11.alloc (.cells #[.int .i64 0, .bool false, .string ⟨#[]⟩, .int .i64 0] 23))) := (HB11.out.alloc HB11.out.size _)
  clear Bp11 Bs11 Bu11 Bq11 Bv11 HB11 yp0 yp1 yp2 yp3 yp4 yp5 yp6 yp7 yp8 yp9 yp10 yp11 yp12 yp13 ys0 ys1 ys2 ys3 ys4 ys5 yu0 yu1 yu2 yu3 yu4 yu5 yq0 yq1 yq2 yq3 yq4 yq5 yv0 yv1 yv2 yv3
  obtain ⟨yp0, yp1, yp2, yp3, yp4, yp5, yp6, yp7, yp8, yp9, yp10, yp11, yp12, yp13⟩ := Bp12.out.fourteen
  obtain ⟨ys0, ys1, ys2, ys3, ys4, ys5⟩ := Bs12.out.six
  obtain ⟨yu0, yu1, yu2, yu3, yu4, yu5⟩ := Bu12.out.six
  obtain ⟨yq0, yq1, yq2, yq3, yq4, yq5⟩ := Bq12.out.six
  obtain ⟨yv0, yv1, yv2, yv3⟩ := Bv12.out.four
  obtain ⟨yz0, yz1, yz2, yz3⟩ := Bz12.out.four
  go_wp2_with fail
  refine (xc6 _ (HT.out.below HB12.out)).mono ?_
  rintro e w13 ⟨rfl, hb⟩
  have Bp13 := Blk.on Bp12 hb
  have Bs13 := Blk.on Bs12 hb
  have Bu13 := Blk.on Bu12 hb
  have Bq13 := Blk.on Bq12 hb
  have Bv13 := Blk.on Bv12 hb
  have Bz13 := Blk.on Bz12 hb
  have HB13 := hide (HB12.out.trans (hb.mono HB12.out.size))
  clear hb Bp12 Bs12 Bu12 Bq12 Bv12 Bz12 HB12 yp0 yp1 yp2 yp3 yp4 yp5 yp6 yp7 yp8 yp9 yp10 yp11 yp12 yp13 ys0 ys1 ys2 ys3 ys4 ys5 yu0 yu1 yu2 yu3 yu4 yu5 yq0 yq1 yq2 yq3 yq4 yq5 yv0 yv1 yv2 yv3 yz0 yz1 yz2 yz3
  obtain ⟨yp0, yp1, yp2, yp3, yp4, yp5, yp6, yp7, yp8, yp9, yp10, yp11, yp12, yp13⟩ := Bp13.out.fourteen
  obtain ⟨ys0, ys1, ys2, ys3, ys4, ys5⟩ := Bs13.out.six
  obtain ⟨yu0, yu1, yu2, yu3, yu4, yu5⟩ := Bu13.out.six
  obtain ⟨yq0, yq1, yq2, yq3, yq4, yq5⟩ := Bq13.out.six
  obtain ⟨yv0, yv1, yv2, yv3⟩ := Bv13.out.four
  obtain ⟨yz0, yz1, yz2, yz3⟩ := Bz13.out.four
  go_wp2_with fail
  refine (xc7 _ (HT.out.below HB13.out)).mono ?_
  rintro e w14 ⟨rfl, hb⟩
  have Bp14 := Blk.on Bp13 hb
  have Bs14 := Blk.on Bs13 hb
  have Bu14 := Blk.on Bu13 hb
  have Bq14 := Blk.on Bq13 hb
  have Bv14 := Blk.on Bv13 hb
  have Bz14 := Blk.on Bz13 hb
  have HB14 := hide (HB13.out.trans (hb.mono HB13.out.size))
  clear hb Bp13 Bs13 Bu13 Bq13 Bv13 Bz13 HB13 yp0 yp1 yp2 yp3 yp4 yp5 yp6 yp7 yp8 yp9 yp10 yp11 yp12 yp13 ys0 ys1 ys2 ys3 ys4 ys5 yu0 yu1 yu2 yu3 yu4 yu5 yq0 yq1 yq2 yq3 yq4 yq5 yv0 yv1 yv2 yv3 yz0 yz1 yz2 yz3
  obtain ⟨yp0, yp1, yp2, yp3, yp4, yp5, yp6, yp7, yp8, yp9, yp10, yp11, yp12, yp13⟩ := Bp14.out.fourteen
  obtain ⟨ys0, ys1, ys2, ys3, ys4, ys5⟩ := Bs14.out.six
  obtain ⟨yu0, yu1, yu2, yu3, yu4, yu5⟩ := Bu14.out.six
  obtain ⟨yq0, yq1, yq2, yq3, yq4, yq5⟩ := Bq14.out.six
  obtain ⟨yv0, yv1, yv2, yv3⟩ := Bv14.out.four
  obtain ⟨yz0, yz1, yz2, yz3⟩ := Bz14.out.four
  go_wp2
  go_ret
  exact ⟨rfl, HB14.out⟩

end Go.Proofs.YtckijnlolmbdiaaGreatDoor

namespace Go.Proofs.YtckijnlolmbdiaaGreatDoor
open Go.RowKit

set_option maxRecDepth 100000 in
set_option maxHeartbeats 1000000 in
theorem rmay_1_yes (neg : Bool) (w : World) : Calls Tryz.prog 27 #[dcV 1 neg ⟨#[]⟩ 0] w fun e w' => e = .returned (.bool true) ∧ Below w.heap.size w w' := by
  go_enter Tryz.func27, Tryz.ntmps27
  go_wp2
  go_ret
  exact ⟨rfl, (Below.refl _ _).alloc (Nat.le_refl _) _⟩

set_option maxRecDepth 100000 in
set_option maxHeartbeats 1000000 in
theorem rmay_1_dig (neg : Bool) (t : ByteArray) (ex : Int) (w : World) (h : t.size ≠ 0) : Calls Tryz.prog 27 #[dcV 1 neg t ex] w fun e w' => e = .returned (.bool false) ∧ Below w.heap.size w w' := by
  have e0 : ((t.size : Int) == 0) = false := by
    have : ¬ (t.size : Int) = 0 := by omega
    simpa using this
  go_enter Tryz.func27, Tryz.ntmps27
  go_wp2
  go_ret
  exact ⟨rfl, (Below.refl _ _).alloc (Nat.le_refl _) _⟩

set_option maxRecDepth 100000 in
set_option maxHeartbeats 1000000 in
theorem rmay_1_exp (neg : Bool) (ex : Int) (w : World) (h : ¬ ex = 0) : Calls Tryz.prog 27 #[dcV 1 neg ⟨#[]⟩ ex] w fun e w' => e = .returned (.bool false) ∧ Below w.heap.size w w' := by
  have e1 : (ex == 0) = false := by simpa using h
  go_enter Tryz.func27, Tryz.ntmps27
  go_wp2
  go_ret
  exact ⟨rfl, (Below.refl _ _).alloc (Nat.le_refl _) _⟩

set_option maxRecDepth 100000 in
set_option maxHeartbeats 1000000 in
theorem rmay_2_yes (w : World) : Calls Tryz.prog 27 #[dcV 2 false ⟨#[]⟩ 0] w fun e w' => e = .returned (.bool true) ∧ Below w.heap.size w w' := by
  go_enter Tryz.func27, Tryz.ntmps27
  go_wp2
  go_ret
  exact ⟨rfl, (Below.refl _ _).alloc (Nat.le_refl _) _⟩

set_option maxRecDepth 100000 in
set_option maxHeartbeats 1000000 in
theorem rmay_2_neg (t : ByteArray) (ex : Int) (w : World) : Calls Tryz.prog 27 #[dcV 2 true t ex] w fun e w' => e = .returned (.bool false) ∧ Below w.heap.size w w' := by
  go_enter Tryz.func27, Tryz.ntmps27
  go_wp2
  go_ret
  exact ⟨rfl, (Below.refl _ _).alloc (Nat.le_refl _) _⟩

set_option maxRecDepth 100000 in
set_option maxHeartbeats 1000000 in
theorem rmay_2_dig (t : ByteArray) (ex : Int) (w : World) (h : t.size ≠ 0) : Calls Tryz.prog 27 #[dcV 2 false t ex] w fun e w' => e = .returned (.bool false) ∧ Below w.heap.size w w' := by
  have e0 : ((t.size : Int) == 0) = false := by
    have : ¬ (t.size : Int) = 0 := by omega
    simpa using this
  go_enter Tryz.func27, Tryz.ntmps27
  go_wp2
  go_ret
  exact ⟨rfl, (Below.refl _ _).alloc (Nat.le_refl _) _⟩

set_option maxRecDepth 100000 in
set_option maxHeartbeats 1000000 in
theorem rmay_2_exp (ex : Int) (w : World) (h : ¬ ex = 0) : Calls Tryz.prog 27 #[dcV 2 false ⟨#[]⟩ ex] w fun e w' => e = .returned (.bool false) ∧ Below w.heap.size w w' := by
  have e1 : (ex == 0) = false := by simpa using h
  go_enter Tryz.func27, Tryz.ntmps27
  go_wp2
  go_ret
  exact ⟨rfl, (Below.refl _ _).alloc (Nat.le_refl _) _⟩

set_option maxRecDepth 100000 in
set_option maxHeartbeats 1000000 in
theorem rmay_9 (c : Int) (neg : Bool) (t : ByteArray) (ex : Int) (w : World) (h0 : ¬ c = 0) (h1 : ¬ c = 1) (h2 : ¬ c = 2) : Calls Tryz.prog 27 #[dcV c neg t ex] w fun e w' => e = .returned (.bool false) ∧ Below w.heap.size w w' := by
  have c0 : (c != 0) = true := by simpa using h0
  have c1 : (c == 1) = false := by simpa using h1
  have c2 : (c == 2) = false := by simpa using h2
  go_enter Tryz.func27, Tryz.ntmps27
  go_wp2
  go_ret
  exact ⟨rfl, (Below.refl _ _).alloc (Nat.le_refl _) _⟩

set_option maxRecDepth 100000 in
set_option maxHeartbeats 1000000 in
theorem rmay_0_nil (neg : Bool) (w : World) : Calls Tryz.prog 27 #[dcV 0 neg ⟨#[]⟩ 0] w fun e w' => e = .returned (.bool true) ∧ Below w.heap.size w w' := by
  go_enter Tryz.func27, Tryz.ntmps27
  go_wp2
  go_ret
  exact ⟨rfl, (Below.refl _ _).alloc (Nat.le_refl _) _⟩

set_option maxRecDepth 100000 in
set_option maxHeartbeats 1000000 in
theorem rmay_0_nilexp (neg : Bool) (ex : Int) (w : World) (h : ¬ ex = 0) : Calls Tryz.prog 27 #[dcV 0 neg ⟨#[]⟩ ex] w fun e w' => e = .returned (.bool false) ∧ Below w.heap.size w w' := by
  have e1 : (ex == 0) = false := by simpa using h
  go_enter Tryz.func27, Tryz.ntmps27
  go_wp2
  go_ret
  exact ⟨rfl, (Below.refl _ _).alloc (Nat.le_refl _) _⟩

set_option maxRecDepth 100000 in
set_option maxHeartbeats 1000000 in
theorem rmay_0_long (neg : Bool) (t : ByteArray) (ex : Int) (w : World) (h : 1000 < t.size) : Calls Tryz.prog 27 #[dcV 0 neg t ex] w fun e w' => e = .returned (.bool false) ∧ Below w.heap.size w w' := by
  have e0 : ((t.size : Int) == 0) = false := by
    have : ¬ (t.size : Int) = 0 := by omega
    simpa using this
  have e1 : decide ((1000 : Int) < (t.size : Int)) = true := decide_eq_true (by omega)
  go_enter Tryz.func27, Tryz.ntmps27
  go_wp2
  go_ret
  exact ⟨rfl, (Below.refl _ _).alloc (Nat.le_refl _) _⟩

set_option maxRecDepth 100000 in
set_option maxHeartbeats 1000000 in
theorem rmay_0_elow (neg : Bool) (t : ByteArray) (ex : Int) (w : World) (j : Nat) (hj : t.size = j + 1) (h : j + 1 ≤ 1000) (he : ex < -4000) : Calls Tryz.prog 27 #[dcV 0 neg t ex] w fun e w' => e = .returned (.bool false) ∧ Below w.heap.size w w' := by
  have e0 : ((j : Int) + 1 == 0) = false := by
    have : ¬ (j : Int) + 1 = 0 := by omega
    simpa using this
  have e1 : decide ((1000 : Int) < (j : Int) + 1) = false := decide_eq_false (by omega)
  have e2 : decide (ex < -4000) = true := decide_eq_true (by omega)
  go_enter Tryz.func27, Tryz.ntmps27
  go_wp2
  go_ret
  exact ⟨rfl, (Below.refl _ _).alloc (Nat.le_refl _) _⟩

set_option maxRecDepth 100000 in
set_option maxHeartbeats 1000000 in
theorem rmay_0_ehigh (neg : Bool) (t : ByteArray) (ex : Int) (w : World) (j : Nat) (hj : t.size = j + 1) (h : j + 1 ≤ 1000) (he : 4000 < ex) : Calls Tryz.prog 27 #[dcV 0 neg t ex] w fun e w' => e = .returned (.bool false) ∧ Below w.heap.size w w' := by
  have e0 : ((j : Int) + 1 == 0) = false := by
    have : ¬ (j : Int) + 1 = 0 := by omega
    simpa using this
  have e1 : decide ((1000 : Int) < (j : Int) + 1) = false := decide_eq_false (by omega)
  have e2 : decide (ex < -4000) = false := decide_eq_false (by omega)
  have e3 : decide ((4000 : Int) < ex) = true := decide_eq_true (by omega)
  go_enter Tryz.func27, Tryz.ntmps27
  go_wp2
  go_ret
  exact ⟨rfl, (Below.refl _ _).alloc (Nat.le_refl _) _⟩

set_option maxRecDepth 100000 in
set_option maxHeartbeats 1000000 in
theorem rmay_0_low (neg : Bool) (t : ByteArray) (ex : Int) (w : World) (j : Nat) (hj : t.size = j + 1) (h : j + 1 ≤ 1000) (h2 : -4000 ≤ ex) (h3 : ex ≤ 4000) (he : (j : Int) + 1 + ex < -2000) : Calls Tryz.prog 27 #[dcV 0 neg t ex] w fun e w' => e = .returned (.bool false) ∧ Below w.heap.size w w' := by
  have e0 : ((j : Int) + 1 == 0) = false := by
    have : ¬ (j : Int) + 1 = 0 := by omega
    simpa using this
  have e1 : decide ((1000 : Int) < (j : Int) + 1) = false := decide_eq_false (by omega)
  have e2 : decide (ex < -4000) = false := decide_eq_false (by omega)
  have e3 : decide ((4000 : Int) < ex) = false := decide_eq_false (by omega)
  have e4 : decide ((j : Int) + 1 + ex < -2000) = true := decide_eq_true (by omega)
  go_enter Tryz.func27, Tryz.ntmps27
  go_wp2
  go_ret
  exact ⟨rfl, (Below.refl _ _).alloc (Nat.le_refl _) _⟩

set_option maxRecDepth 100000 in
set_option maxHeartbeats 1000000 in
theorem rmay_0_high (neg : Bool) (t : ByteArray) (ex : Int) (w : World) (j : Nat) (hj : t.size = j + 1) (h : j + 1 ≤ 1000) (h2 : -4000 ≤ ex) (h3 : ex ≤ 4000) (he : 2000 < (j : Int) + 1 + ex) : Calls Tryz.prog 27 #[dcV 0 neg t ex] w fun e w' => e = .returned (.bool false) ∧ Below w.heap.size w w' := by
  have e0 : ((j : Int) + 1 == 0) = false := by
    have : ¬ (j : Int) + 1 = 0 := by omega
    simpa using this
  have e1 : decide ((1000 : Int) < (j : Int) + 1) = false := decide_eq_false (by omega)
  have e2 : decide (ex < -4000) = false := decide_eq_false (by omega)
  have e3 : decide ((4000 : Int) < ex) = false := decide_eq_false (by omega)
  have e4 : decide ((j : Int) + 1 + ex < -2000) = false := decide_eq_false (by omega)
  have e5 : decide ((2000 : Int) < (j : Int) + 1 + ex) = true := decide_eq_true (by omega)
  go_enter Tryz.func27, Tryz.ntmps27
  go_wp2
  go_ret
  exact ⟨rfl, (Below.refl _ _).alloc (Nat.le_refl _) _⟩

set_option maxRecDepth 100000 in
set_option maxHeartbeats 1000000 in
theorem rmay_0_bad (neg : Bool) (t : ByteArray) (ex : Int) (w : World) (j : Nat) (hj : t.size = j + 1) (h : j + 1 ≤ 1000) (h2 : -4000 ≤ ex) (h3 : ex ≤ 4000) (h4 : -2000 ≤ (j : Int) + 1 + ex) (h5 : (j : Int) + 1 + ex ≤ 2000) (b : Nat) (hb : b < j + 1) (hd : ¬ (48 ≤ byt (bys t) b ∧ byt (bys t) b ≤ 57)) : Calls Tryz.prog 27 #[dcV 0 neg t ex] w fun e w' => e = .returned (.bool false) ∧ Below w.heap.size w w' := by
  have e0 : ((j : Int) + 1 == 0) = false := by
    have : ¬ (j : Int) + 1 = 0 := by omega
    simpa using this
  have e1 : decide ((1000 : Int) < (j : Int) + 1) = false := decide_eq_false (by omega)
  have e2 : decide (ex < -4000) = false := decide_eq_false (by omega)
  have e3 : decide ((4000 : Int) < ex) = false := decide_eq_false (by omega)
  have e4 : decide ((j : Int) + 1 + ex < -2000) = false := decide_eq_false (by omega)
  have e5 : decide ((2000 : Int) < (j : Int) + 1 + ex) = false := decide_eq_false (by omega)
  have HD := hide hd
  clear hd
  have HB : Hid (Below w.heap.size w (w.alloc (.cells #[.int .i64 0, .bool neg, .string t, .int .i64 ex] 23))) := (Below.refl _ _).alloc (Nat.le_refl _) _
  have blk := Blk.new w #[.int .i64 0, .bool neg, .string t, .int .i64 ex] 23
  obtain ⟨W, hW⟩ : ∃ W, W = w.alloc (.cells #[.int .i64 0, .bool neg, .string t, .int .i64 ex] 23) := ⟨_, rfl⟩
  rw [← hW] at blk HB
  have k2 : W.cell? ⟨w.heap.size, 2, none⟩ = some (.string t) := blk.cell 2
  have k3 : W.cell? ⟨w.heap.size, 3, none⟩ = some (.int .i64 ex) := blk.cell 3
  have HW := hide hW
  clear blk hW
  go_enter Tryz.func27, Tryz.ntmps27
  go_wp2
  simp only [← HW.out]
  go_loopw [4] (fun i wr => ∃ k : Nat, k ≤ b ∧ i = .int .i64 (k : Int) ∧ wr = W) (fun i _ => j + 1 - (intOf i).toNat)
  case atStart => exact ⟨0, Nat.zero_le _, rfl, rfl⟩
  case round =>
    obtain ⟨k, hk, rfl, rfl⟩ := hrel
    have hlt' : (k : Int) < (j : Int) + 1 := by omega
    have hks : k < t.size := by omega
    have hks' : (k : Int) < (t.size : Int) := by omega
    have hg : ∀ h : k < t.size, t[k].toNat = byt (bys t) k := fun h => byt_get t k h
    obtain ⟨v, hv⟩ : ∃ v, v = byt (bys t) k := ⟨_, rfl⟩
    rw [← hv] at hg
    have HV := hide hv
    clear hv
    by_cases g1 : v < 48
    · have g1' : (v : Int) < 48 := by omega
      go_wp2
      go_ret
      exact ⟨rfl, HB.out⟩
    · have g1' : ¬ (v : Int) < 48 := by omega
      by_cases g2 : 57 < v
      · have g2' : (57 : Int) < (v : Int) := by omega
        go_wp2
        go_ret
        exact ⟨rfl, HB.out⟩
      · have g2' : ¬ (57 : Int) < (v : Int) := by omega
        have hne : k ≠ b := fun e => HD.out (by rw [← e, ← HV.out]; omega)
        go_wp2
        exact ⟨⟨k + 1, by omega, by go_num, trivial⟩, by simp [intOf]; omega⟩

set_option maxRecDepth 100000 in
set_option maxHeartbeats 1000000 in
theorem rmay_0_yes (neg : Bool) (t : ByteArray) (ex : Int) (w : World) (j : Nat) (hj : t.size = j + 1) (h : j + 1 ≤ 1000) (h2 : -4000 ≤ ex) (h3 : ex ≤ 4000) (h4 : -2000 ≤ (j : Int) + 1 + ex) (h5 : (j : Int) + 1 + ex ≤ 2000) (hf : byt (bys t) 0 ≠ 48) (hla : byt (bys t) j ≠ 48) (hd : DigB (bys t)) : Calls Tryz.prog 27 #[dcV 0 neg t ex] w fun e w' => e = .returned (.bool true) ∧ Below w.heap.size w w' := by
  have e0 : ((j : Int) + 1 == 0) = false := by
    have : ¬ (j : Int) + 1 = 0 := by omega
    simpa using this
  have e1 : decide ((1000 : Int) < (j : Int) + 1) = false := decide_eq_false (by omega)
  have e2 : decide (ex < -4000) = false := decide_eq_false (by omega)
  have e3 : decide ((4000 : Int) < ex) = false := decide_eq_false (by omega)
  have e4 : decide ((j : Int) + 1 + ex < -2000) = false := decide_eq_false (by omega)
  have e5 : decide ((2000 : Int) < (j : Int) + 1 + ex) = false := decide_eq_false (by omega)
  have HD := hide hd
  have hg0 : ∀ h : 0 < t.size, t[0].toNat = byt (bys t) 0 := fun h => byt_get t 0 h
  have hgz : ∀ h : j < t.size, t[j].toNat = byt (bys t) j := fun h => byt_get t j h
  have hp0 : 0 < t.size := by omega
  have hp1 : j < t.size := by omega
  have hp1' : (j : Int) < (t.size : Int) := by omega
  obtain ⟨a, ha⟩ : ∃ b, b = byt (bys t) 0 := ⟨_, rfl⟩
  obtain ⟨z, hz⟩ : ∃ b, b = byt (bys t) j := ⟨_, rfl⟩
  rw [← ha] at hg0 hf
  rw [← hz] at hgz hla
  have ca : ((a : Int) != 48) = true := by
    have : ¬ (a : Int) = 48 := by omega
    simpa using this
  have cz : ((z : Int) != 48) = true := by
    have : ¬ (z : Int) = 48 := by omega
    simpa using this
  clear hd ha hz hf hla
  have HB : Hid (Below w.heap.size w (w.alloc (.cells #[.int .i64 0, .bool neg, .string t, .int .i64 ex] 23))) := (Below.refl _ _).alloc (Nat.le_refl _) _
  have blk := Blk.new w #[.int .i64 0, .bool neg, .string t, .int .i64 ex] 23
  obtain ⟨W, hW⟩ : ∃ W, W = w.alloc (.cells #[.int .i64 0, .bool neg, .string t, .int .i64 ex] 23) := ⟨_, rfl⟩
  rw [← hW] at blk HB
  have k2 : W.cell? ⟨w.heap.size, 2, none⟩ = some (.string t) := blk.cell 2
  have k3 : W.cell? ⟨w.heap.size, 3, none⟩ = some (.int .i64 ex) := blk.cell 3
  have HW := hide hW
  clear blk hW
  go_enter Tryz.func27, Tryz.ntmps27
  go_wp2
  simp only [← HW.out]
  go_loopw [4] (fun i wr => ∃ k : Nat, k ≤ j + 1 ∧ i = .int .i64 (k : Int) ∧ wr = W) (fun i _ => j + 1 - (intOf i).toNat)
  case atStart => exact ⟨0, Nat.zero_le _, rfl, rfl⟩
  case round =>
    obtain ⟨k, hk, rfl, rfl⟩ := hrel
    by_cases hlt : k < j + 1
    · have hlt' : (k : Int) < (j : Int) + 1 := by omega
      have hks : k < t.size := by omega
      have hks' : (k : Int) < (t.size : Int) := by omega
      have hg : ∀ h : k < t.size, t[k].toNat = byt (bys t) k := fun h => byt_get t k h
      have hb := HD.out k (by rw [bys_len, hj]; exact hlt)
      obtain ⟨v, hv⟩ : ∃ v, v = byt (bys t) k := ⟨_, rfl⟩
      rw [← hv] at hg hb
      have g1' : ¬ (v : Int) < 48 := by omega
      have g2' : ¬ (57 : Int) < (v : Int) := by omega
      clear hv hg0 hgz ca cz
      go_wp2
      exact ⟨⟨k + 1, by omega, by go_num, trivial⟩, by simp [intOf]; omega⟩
    · have hlt' : ¬ (k : Int) < (j : Int) + 1 := by omega
      go_wp2
      go_ret
      exact ⟨rfl, HB.out⟩

set_option maxRecDepth 100000 in
set_option maxHeartbeats 1000000 in
theorem rmay_0_last (neg : Bool) (t : ByteArray) (ex : Int) (w : World) (j : Nat) (hj : t.size = j + 1) (h : j + 1 ≤ 1000) (h2 : -4000 ≤ ex) (h3 : ex ≤ 4000) (h4 : -2000 ≤ (j : Int) + 1 + ex) (h5 : (j : Int) + 1 + ex ≤ 2000) (hf : byt (bys t) 0 ≠ 48) (hla : byt (bys t) j = 48) (hd : DigB (bys t)) : Calls Tryz.prog 27 #[dcV 0 neg t ex] w fun e w' => e = .returned (.bool false) ∧ Below w.heap.size w w' := by
  have e0 : ((j : Int) + 1 == 0) = false := by
    have : ¬ (j : Int) + 1 = 0 := by omega
    simpa using this
  have e1 : decide ((1000 : Int) < (j : Int) + 1) = false := decide_eq_false (by omega)
  have e2 : decide (ex < -4000) = false := decide_eq_false (by omega)
  have e3 : decide ((4000 : Int) < ex) = false := decide_eq_false (by omega)
  have e4 : decide ((j : Int) + 1 + ex < -2000) = false := decide_eq_false (by omega)
  have e5 : decide ((2000 : Int) < (j : Int) + 1 + ex) = false := decide_eq_false (by omega)
  have HD := hide hd
  have hg0 : ∀ h : 0 < t.size, t[0].toNat = byt (bys t) 0 := fun h => byt_get t 0 h
  have hgz : ∀ h : j < t.size, t[j].toNat = byt (bys t) j := fun h => byt_get t j h
  have hp0 : 0 < t.size := by omega
  have hp1 : j < t.size := by omega
  have hp1' : (j : Int) < (t.size : Int) := by omega
  obtain ⟨a, ha⟩ : ∃ b, b = byt (bys t) 0 := ⟨_, rfl⟩
  obtain ⟨z, hz⟩ : ∃ b, b = byt (bys t) j := ⟨_, rfl⟩
  rw [← ha] at hg0 hf
  rw [← hz] at hgz hla
  have ca : ((a : Int) != 48) = true := by
    have : ¬ (a : Int) = 48 := by omega
    simpa using this
  have cz : ((z : Int) != 48) = false := by
    have : (z : Int) = 48 := by omega
    rw [this]; rfl
  clear hd ha hz hf hla
  have HB : Hid (Below w.heap.size w (w.alloc (.cells #[.int .i64 0, .bool neg, .string t, .int .i64 ex] 23))) := (Below.refl _ _).alloc (Nat.le_refl _) _
  have blk := Blk.new w #[.int .i64 0, .bool neg, .string t, .int .i64 ex] 23
  obtain ⟨W, hW⟩ : ∃ W, W = w.alloc (.cells #[.int .i64 0, .bool neg, .string t, .int .i64 ex] 23) := ⟨_, rfl⟩
  rw [← hW] at blk HB
  have k2 : W.cell? ⟨w.heap.size, 2, none⟩ = some (.string t) := blk.cell 2
  have k3 : W.cell? ⟨w.heap.size, 3, none⟩ = some (.int .i64 ex) := blk.cell 3
  have HW := hide hW
  clear blk hW
  go_enter Tryz.func27, Tryz.ntmps27
  go_wp2
  simp only [← HW.out]
  go_loopw [4] (fun i wr => ∃ k : Nat, k ≤ j + 1 ∧ i = .int .i64 (k : Int) ∧ wr = W) (fun i _ => j + 1 - (intOf i).toNat)
  case atStart => exact ⟨0, Nat.zero_le _, rfl, rfl⟩
  case round =>
    obtain ⟨k, hk, rfl, rfl⟩ := hrel
    by_cases hlt : k < j + 1
    · have hlt' : (k : Int) < (j : Int) + 1 := by omega
      have hks : k < t.size := by omega
      have hks' : (k : Int) < (t.size : Int) := by omega
      have hg : ∀ h : k < t.size, t[k].toNat = byt (bys t) k := fun h => byt_get t k h
      have hb := HD.out k (by rw [bys_len, hj]; exact hlt)
      obtain ⟨v, hv⟩ : ∃ v, v = byt (bys t) k := ⟨_, rfl⟩
      rw [← hv] at hg hb
      have g1' : ¬ (v : Int) < 48 := by omega
      have g2' : ¬ (57 : Int) < (v : Int) := by omega
      clear hv hg0 hgz ca cz
      go_wp2
      exact ⟨⟨k + 1, by omega, by go_num, trivial⟩, by simp [intOf]; omega⟩
    · have hlt' : ¬ (k : Int) < (j : Int) + 1 := by omega
      go_wp2
      go_ret
      exact ⟨rfl, HB.out⟩

set_option maxRecDepth 100000 in
set_option maxHeartbeats 1000000 in
theorem rmay_0_first (neg : Bool) (t : ByteArray) (ex : Int) (w : World) (j : Nat) (hj : t.size = j + 1) (h : j + 1 ≤ 1000) (h2 : -4000 ≤ ex) (h3 : ex ≤ 4000) (h4 : -2000 ≤ (j : Int) + 1 + ex) (h5 : (j : Int) + 1 + ex ≤ 2000) (hf : byt (bys t) 0 = 48) (hd : DigB (bys t)) : Calls Tryz.prog 27 #[dcV 0 neg t ex] w fun e w' => e = .returned (.bool false) ∧ Below w.heap.size w w' := by
  have e0 : ((j : Int) + 1 == 0) = false := by
    have : ¬ (j : Int) + 1 = 0 := by omega
    simpa using this
  have e1 : decide ((1000 : Int) < (j : Int) + 1) = false := decide_eq_false (by omega)
  have e2 : decide (ex < -4000) = false := decide_eq_false (by omega)
  have e3 : decide ((4000 : Int) < ex) = false := decide_eq_false (by omega)
  have e4 : decide ((j : Int) + 1 + ex < -2000) = false := decide_eq_false (by omega)
  have e5 : decide ((2000 : Int) < (j : Int) + 1 + ex) = false := decide_eq_false (by omega)
  have HD := hide hd
  have hg0 : ∀ h : 0 < t.size, t[0].toNat = byt (bys t) 0 := fun h => byt_get t 0 h
  have hgz : ∀ h : j < t.size, t[j].toNat = byt (bys t) j := fun h => byt_get t j h
  have hp0 : 0 < t.size := by omega
  have hp1 : j < t.size := by omega
  have hp1' : (j : Int) < (t.size : Int) := by omega
  obtain ⟨a, ha⟩ : ∃ b, b = byt (bys t) 0 := ⟨_, rfl⟩
  obtain ⟨z, hz⟩ : ∃ b, b = byt (bys t) j := ⟨_, rfl⟩
  rw [← ha] at hg0 hf
  rw [← hz] at hgz
  have ca : ((a : Int) != 48) = false := by
    have : (a : Int) = 48 := by omega
    rw [this]; rfl
  have cz : True := trivial
  clear hd ha hz hf
  have HB : Hid (Below w.heap.size w (w.alloc (.cells #[.int .i64 0, .bool neg, .string t, .int .i64 ex] 23))) := (Below.refl _ _).alloc (Nat.le_refl _) _
  have blk := Blk.new w #[.int .i64 0, .bool neg, .string t, .int .i64 ex] 23
  obtain ⟨W, hW⟩ : ∃ W, W = w.alloc (.cells #[.int .i64 0, .bool neg, .string t, .int .i64 ex] 23) := ⟨_, rfl⟩
  rw [← hW] at blk HB
  have k2 : W.cell? ⟨w.heap.size, 2, none⟩ = some (.string t) := blk.cell 2
  have k3 : W.cell? ⟨w.heap.size, 3, none⟩ = some (.int .i64 ex) := blk.cell 3
  have HW := hide hW
  clear blk hW
  go_enter Tryz.func27, Tryz.ntmps27
  go_wp2
  simp only [← HW.out]
  go_loopw [4] (fun i wr => ∃ k : Nat, k ≤ j + 1 ∧ i = .int .i64 (k : Int) ∧ wr = W) (fun i _ => j + 1 - (intOf i).toNat)
  case atStart => exact ⟨0, Nat.zero_le _, rfl, rfl⟩
  case round =>
    obtain ⟨k, hk, rfl, rfl⟩ := hrel
    by_cases hlt : k < j + 1
    · have hlt' : (k : Int) < (j : Int) + 1 := by omega
      have hks : k < t.size := by omega
      have hks' : (k : Int) < (t.size : Int) := by omega
      have hg : ∀ h : k < t.size, t[k].toNat = byt (bys t) k := fun h => byt_get t k h
      have hb := HD.out k (by rw [bys_len, hj]; exact hlt)
      obtain ⟨v, hv⟩ : ∃ v, v = byt (bys t) k := ⟨_, rfl⟩
      rw [← hv] at hg hb
      have g1' : ¬ (v : Int) < 48 := by omega
      have g2' : ¬ (57 : Int) < (v : Int) := by omega
      clear hv hg0 hgz ca cz
      go_wp2
      exact ⟨⟨k + 1, by omega, by go_num, trivial⟩, by simp [intOf]; omega⟩
    · have hlt' : ¬ (k : Int) < (j : Int) + 1 := by omega
      go_wp2
      go_ret
      exact ⟨rfl, HB.out⟩

theorem rmay_yes (c : Int) (neg : Bool) (t : ByteArray) (ex : Int) (w : World) (h : MayD c neg (bys t) ex) : Calls Tryz.prog 27 #[dcV c neg t ex] w fun e w' => e = .returned (.bool true) ∧ Below w.heap.size w w' := by
  have h' := h
  rcases h with ⟨rfl, _⟩ | ⟨rfl, h1, rfl⟩ | ⟨rfl, rfl, h1, rfl⟩
  · rcases (mayD_0 neg t ex).1 h' with h1 | h1
    · obtain ⟨h1, rfl⟩ := h1
      rw [size_nil h1]; exact rmay_0_nil neg w
    · obtain ⟨h0, h1, h2, h3, h4, h5, h6⟩ := h1
      rw [bys_len] at h1 h2 h3 h5
      have hn0 : t.size ≠ 0 := fun e => h0 (bys_nil.2 e)
      obtain ⟨j, hj⟩ : ∃ j, t.size = j + 1 := ⟨t.size - 1, by omega⟩
      rw [show t.size - 1 = j by omega] at h5
      exact rmay_0_yes neg t ex w j hj (by omega) (by omega) (by omega) (by omega) (by omega) h4 h5 h6
  · rw [size_nil (bys_nil.1 h1)]; exact rmay_1_yes neg w
  · rw [size_nil (bys_nil.1 h1)]; exact rmay_2_yes w

theorem rmay_no (c : Int) (neg : Bool) (t : ByteArray) (ex : Int) (w : World) (h : ¬ MayD c neg (bys t) ex) : Calls Tryz.prog 27 #[dcV c neg t ex] w fun e w' => e = .returned (.bool false) ∧ Below w.heap.size w w' := by
  by_cases h0 : c = 0
  · subst h0
    rw [mayD_0] at h
    by_cases hz : t.size = 0
    · rw [size_nil hz]; exact rmay_0_nilexp neg ex w (fun e => h (.inl ⟨hz, e⟩))
    · obtain ⟨j, hj⟩ : ∃ j, t.size = j + 1 := ⟨t.size - 1, by omega⟩
      rcases Nat.lt_or_ge 1000 t.size with h1 | h1
      · exact rmay_0_long neg t ex w h1
      · by_cases h2 : ex < -4000
        · exact rmay_0_elow neg t ex w j hj (by omega) h2
        · by_cases h3 : 4000 < ex
          · exact rmay_0_ehigh neg t ex w j hj (by omega) h3
          · by_cases h4 : (j : Int) + 1 + ex < -2000
            · exact rmay_0_low neg t ex w j hj (by omega) (by omega) (by omega) h4
            · by_cases h5 : 2000 < (j : Int) + 1 + ex
              · exact rmay_0_high neg t ex w j hj (by omega) (by omega) (by omega) h5
              · by_cases hd : DigB (bys t)
                · by_cases h6 : byt (bys t) 0 = 48
                  · exact rmay_0_first neg t ex w j hj (by omega) (by omega) (by omega) (by omega) (by omega) h6 hd
                  · by_cases h7 : byt (bys t) j = 48
                    · exact rmay_0_last neg t ex w j hj (by omega) (by omega) (by omega) (by omega) (by omega) h6 h7 hd
                    · exfalso
                      apply h
                      refine .inr ?_
                      unfold DigD
                      rw [bys_len, hj]
                      exact ⟨fun e => hz (bys_nil.1 e), by omega, by omega, by omega, h6, by rw [Nat.add_sub_cancel]; exact h7, hd⟩
                · obtain ⟨k, hk⟩ := Classical.not_forall.1 hd
                  obtain ⟨hk1, hk2⟩ := Classical.not_imp.1 hk
                  rw [bys_len, hj] at hk1
                  exact rmay_0_bad neg t ex w j hj (by omega) (by omega) (by omega) (by omega) (by omega) k hk1 hk2
  · by_cases h1 : c = 1
    · subst h1
      by_cases hz : t.size = 0
      · rw [size_nil hz]
        exact rmay_1_exp neg ex w (fun e => h (.inr (.inl ⟨rfl, bys_nil.2 hz, e⟩)))
      · exact rmay_1_dig neg t ex w hz
    · by_cases h2 : c = 2
      · subst h2
        cases neg with
        | true => exact rmay_2_neg t ex w
        | false =>
          by_cases hz : t.size = 0
          · rw [size_nil hz]
            exact rmay_2_exp ex w (fun e => h (.inr (.inr ⟨rfl, rfl, bys_nil.2 hz, e⟩)))
          · exact rmay_2_dig t ex w hz
      · exact rmay_9 c neg t ex w h0 h1 h2

end Go.Proofs.YtckijnlolmbdiaaGreatDoor
