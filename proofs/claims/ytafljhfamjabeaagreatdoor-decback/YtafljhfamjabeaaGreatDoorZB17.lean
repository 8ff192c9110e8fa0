/-
  Plain mathematics: what is printed of a number is read as that number.
  The walk of DecBack.
-/
import Derived.Test.YtafljhfamjabeaaGreatDoorZB7
import Derived.Test.YtafljhfamjabeaaGreatDoorZB4
namespace Go.Proofs.YtafljhfamjabeaaGreatDoor

theorem p1_neg (l : List UInt8) : Lib.hasPrefix (45 :: l) [45] = true ∧ p1 (45 :: l) = l := by
  have h : Lib.hasPrefix (45 :: l) [45] = true := by rw [hp_one]; simp
  refine ⟨h, ?_⟩
  unfold p1 Lib.trimPrefix
  rw [if_pos h]; rfl

theorem p1_pos {s : List UInt8} (h : s.head? ≠ some 45) : Lib.hasPrefix s [45] = false ∧ p1 s = s := by
  have h1 : Lib.hasPrefix s [45] = false := by rw [hp_one]; simpa using h
  refine ⟨h1, ?_⟩
  unfold p1 Lib.trimPrefix
  rw [h1]; rfl

theorem dd_head (u : Nat) : ∃ b t, Lib.decDigits u = b :: t ∧ 48 ≤ b.toNat ∧ b.toNat ≤ 57 := by
  rcases h : Lib.decDigits u with _ | ⟨b, t⟩
  · exact absurd h (dd_ne u)
  · have := (dd_okT u).2.2
    rw [h] at this
    exact ⟨b, t, rfl, this.head⟩

theorem itoa_back (e : Int) : unsg (Lib.itoa e) = Lib.decDigits e.natAbs ∧ powV (Lib.itoa e) = e := by
  unfold Lib.itoa
  by_cases h : e < 0
  · rw [if_pos h]
    have e1 : unsg (45 :: Lib.decDigits e.natAbs) = Lib.decDigits e.natAbs := rfl
    refine ⟨e1, ?_⟩
    unfold powV
    rw [e1, dd_val]
    simp only [List.head?_cons, if_true]
    omega
  · rw [if_neg h]
    obtain ⟨b, t, hb, h1, h2⟩ := dd_head e.toNat
    have n1 : ¬ (Lib.decDigits e.toNat).head? = some 45 := by
      rw [hb]; simp only [List.head?_cons, Option.some.injEq]
      intro e; rw [e] at h1; exact absurd h1 (by decide)
    have n2 : ¬ (Lib.decDigits e.toNat).head? = some 43 := by
      rw [hb]; simp only [List.head?_cons, Option.some.injEq]
      intro e; rw [e] at h1; exact absurd h1 (by decide)
    have e0 : e.toNat = e.natAbs := by omega
    have e1 : unsg (Lib.decDigits e.toNat) = Lib.decDigits e.natAbs := by rw [unsg_same n1 n2, e0]
    refine ⟨e1, ?_⟩
    unfold powV
    rw [e1, if_neg n1, dd_val]
    omega

theorem parse_core {s dig : List UInt8} {neg : Bool} {e : Int} (hneg : Lib.hasPrefix s [45] = neg) (hp : p1 s = dig ++ 101 :: Lib.itoa e) (hd : DigB dig) (hne : dig ≠ []) (h1 : -10000 ≤ e) (h2 : e ≤ 10000) : parseT s = some ⟨neg, dig, [], e⟩ := by
  have nd : ¬ (48 ≤ byt (101 :: Lib.itoa e) 0 ∧ byt (101 :: Lib.itoa e) 0 ≤ 57) := by rw [byt_cons0]; decide
  have ea : pAhead s = dig := by unfold pAhead; rw [hp]; exact (dgs_append hd (.inr nd)).1
  have e2 : p2 s = 101 :: Lib.itoa e := by unfold p2; rw [hp]; exact (dgs_append hd (.inr nd)).2
  have ed : pDot s = false := by unfold pDot; rw [e2, hp_one]; simp
  have eb : pBehind s = [] := by unfold pBehind; rw [ed]; rfl
  have e3 : p3 s = 101 :: Lib.itoa e := by unfold p3; rw [ed]; exact e2
  have e4 : p4 s = Lib.itoa e := by unfold p4; rw [e3]; rfl
  obtain ⟨u1, u2⟩ := itoa_back e
  obtain ⟨g1, g2⟩ := dgs_all (dd_okT e.natAbs).2.2
  have gl : (Lib.decDigits e.natAbs).length ≤ 5 := sizeN_le (Nat.lt_of_le_of_lt (show e.natAbs ≤ 10000 by omega) (by decide)) (by omega)
  unfold parseT
  rw [if_neg (fun h => hne (ea ▸ h.1)), e3, if_neg (by simp), if_neg (by rw [byt_cons0]; decide), e4, u1, g1, g2, if_neg (by
    rintro (h | h | h)
    · exact dd_ne _ h
    · omega
    · exact h rfl), hneg, ea, eb, u2]

theorem printT_parse (d : DecT) (h : May d) : parseD (printT d) = (d, 0) := by
  rcases may_cases h with ⟨n, rfl⟩ | f | ⟨n, rfl⟩ | rfl
  · cases n
    · have hp : parseT [48] = some ⟨false, [48], [], 0⟩ := rfl
      show parseD [48] = _
      unfold parseD
      rw [if_neg (by decide), if_neg (by decide), if_neg (by decide), hp]
      show tellF false (decV [48]) 0 = _
      have e : finD false (decV [48]) 0 = ⟨0, false, [], 0⟩ := rfl
      rw [tellF_yes (by rw [e]; exact may_zero false), e]
    · have hp : parseT [45, 48] = some ⟨true, [48], [], 0⟩ := rfl
      show parseD [45, 48] = _
      unfold parseD
      rw [if_neg (by decide), if_neg (by decide), if_neg (by decide), hp]
      show tellF true (decV [48]) 0 = _
      have e : finD true (decV [48]) 0 = ⟨0, true, [], 0⟩ := rfl
      rw [tellF_yes (by rw [e]; exact may_zero true), e]
  · have b1 := f.len
    have b2 := f.lo
    have b3 := f.hi
    have bp := List.length_pos_iff.2 f.ne
    have ha : amtT d.cls d.dig d.exp = d.dig ++ 101 :: Lib.itoa d.exp := by
      unfold amtT
      rw [f.cls, if_neg (by omega), if_neg (by omega), if_neg f.ne]
      simp
    obtain ⟨x, t, hx⟩ : ∃ x t, d.dig = x :: t := by
      rcases hd : d.dig with _ | ⟨x, t⟩
      · exact absurd hd f.ne
      · exact ⟨x, t, rfl⟩
    have hxd : 48 ≤ x.toNat ∧ x.toNat ≤ 57 := by have := f.dig; rw [hx] at this; exact this.head
    have x45 : x ≠ 45 := fun e => absurd hxd.1 (by rw [e]; decide)
    have x110 : x ≠ 110 := fun e => absurd hxd.2 (by rw [e]; decide)
    have x105 : x ≠ 105 := fun e => absurd hxd.2 (by rw [e]; decide)
    have fin : tellF d.neg (decV d.dig) d.exp = (d, 0) := by rw [tellF_yes (by rw [f.fin]; exact f.may), f.fin]
    cases hn : d.neg
    · have hs : printT d = d.dig ++ 101 :: Lib.itoa d.exp := by unfold printT; rw [hn]; exact ha
      have hh : (printT d).head? = some x := by rw [hs, hx]; rfl
      obtain ⟨q1, q2⟩ := p1_pos (s := printT d) (by rw [hh]; simpa using x45)
      have pt := parse_core q1 (q2.trans hs) f.dig f.ne (by omega) (by omega)
      unfold parseD
      rw [if_neg (fun e => by rw [e] at hh; exact x110 (by simpa [tNan] using hh.symm)), if_neg (fun e => by rw [e] at hh; exact x105 (by simpa [tInf] using hh.symm)), if_neg (fun e => by rw [e] at hh; exact x45 (by simpa [tNeg] using hh.symm)), pt]
      show tellF false (decV (d.dig ++ [])) (d.exp - 0) = _
      rw [List.append_nil, Int.sub_zero, ← hn]
      exact fin
    · have hs : printT d = 45 :: (d.dig ++ 101 :: Lib.itoa d.exp) := by unfold printT; rw [hn, ha]; rfl
      have hh : (printT d).drop 1 = x :: (t ++ 101 :: Lib.itoa d.exp) := by rw [hs, hx]; rfl
      obtain ⟨q1, q2⟩ := p1_neg (d.dig ++ 101 :: Lib.itoa d.exp)
      rw [← hs] at q1 q2
      have pt := parse_core q1 q2 f.dig f.ne (by omega) (by omega)
      unfold parseD
      rw [if_neg (fun e => by rw [hs] at e; simp [tNan] at e), if_neg (fun e => by rw [hs] at e; simp [tInf] at e), if_neg (fun e => by rw [e] at hh; simp [tNeg] at hh; exact x105 hh.1.symm), pt]
      show tellF true (decV (d.dig ++ [])) (d.exp - 0) = _
      rw [List.append_nil, Int.sub_zero, ← hn]
      exact fin
  · cases n
    · show parseD tInf = _
      unfold parseD
      rw [if_neg (by decide), if_pos rfl]
    · show parseD tNeg = _
      unfold parseD
      rw [if_neg (by decide), if_neg (by decide), if_pos rfl]
  · show parseD tNan = _
    unfold parseD
    rw [if_pos rfl]

theorem parseD_may (l : List UInt8) : (parseD l).2 = 0 ∧ May (parseD l).1 ∨ ((parseD l).2 = 50 ∨ (parseD l).2 = 51) ∧ (parseD l).1 = ⟨0, false, [], 0⟩ := by
  unfold parseD
  by_cases h1 : l = tNan
  · rw [if_pos h1]; exact .inl ⟨rfl, .inr (.inr ⟨rfl, rfl, rfl, rfl⟩)⟩
  · rw [if_neg h1]
    by_cases h2 : l = tInf
    · rw [if_pos h2]; exact .inl ⟨rfl, .inr (.inl ⟨rfl, rfl, rfl⟩)⟩
    · rw [if_neg h2]
      by_cases h3 : l = tNeg
      · rw [if_pos h3]; exact .inl ⟨rfl, .inr (.inl ⟨rfl, rfl, rfl⟩)⟩
      · rw [if_neg h3]
        rcases hp : parseT l with _ | p
        · exact .inr ⟨.inl rfl, rfl⟩
        · show (tellF _ _ _).2 = 0 ∧ May (tellF _ _ _).1 ∨ _
          by_cases hm : May (finD p.neg (decV (p.ahead ++ p.behind)) (p.pow - p.behind.length))
          · exact .inl ⟨by rw [tellF_yes hm], by rw [tellF_yes hm]; exact hm⟩
          · refine .inr ⟨.inr ?_, ?_⟩
            · show (tellF _ _ _).2 = 51
              rw [tellF_no hm]
            · show (tellF _ _ _).1 = _
              rw [tellF_no hm]

theorem printT_len (d : DecT) (h : May d) : (printT d).length ≤ 10000 := by
  have ha : (amtT d.cls d.dig d.exp).length ≤ 9000 := by
    rcases may_cases h with ⟨n, rfl⟩ | f | ⟨n, rfl⟩ | rfl
    · simp [amtT]
    · have b1 := f.len
      have b2 := f.lo
      have b3 := f.hi
      have bp := List.length_pos_iff.2 f.ne
      have bi := itoa_len (e := d.exp) (by omega) (by omega)
      unfold amtT
      rw [f.cls, if_neg (by omega), if_neg (by omega), if_neg f.ne]
      simp only [List.length_append, List.length_singleton]
      omega
    · simp [amtT]
    · simp [amtT]
  unfold printT
  split
  · simp only [List.length_cons]; omega
  · omega

end Go.Proofs.YtafljhfamjabeaaGreatDoor

namespace Go.Proofs.YtafljhfamjabeaaGreatDoor
open Go.RowKit

set_option maxRecDepth 100000 in
set_option maxHeartbeats 4000000 in
theorem back_yy (ca : Int) (na : Bool) (ta : ByteArray) (ea : Int) (s : ByteArray) (T : ByteArray) (cy : Int) (ny : Bool) (ty : ByteArray) (ey : Int) (U : ByteArray) (w : World) (htab : Tab w) (h1 : ∀ W, Tab W → Calls Tryz.prog 20 #[dcV ca na ta ea] W fun e w' => e = .returned (.tuple #[.string T, .int .i64 0]) ∧ Below W.heap.size W w') (h2 : ∀ W, Calls Tryz.prog 14 #[dcV ca na ta ea] W fun e w' => e = .returned (.bool true) ∧ Below W.heap.size W w') (h3 : ∀ W, Calls Tryz.prog 18 #[.string T] W fun e w' => e = .returned (.tuple #[.agg #[.int .i64 ca, .bool na, .string ta, .int .i64 ea], .int .i64 0]) ∧ Below W.heap.size W w') (h4 : ∀ W, Calls Tryz.prog 18 #[.string s] W fun e w' => e = .returned (.tuple #[.agg #[.int .i64 cy, .bool ny, .string ty, .int .i64 ey], .int .i64 0]) ∧ Below W.heap.size W w') (h5 : ∀ W, Tab W → Calls Tryz.prog 20 #[.agg #[.int .i64 cy, .bool ny, .string ty, .int .i64 ey]] W fun e w' => e = .returned (.tuple #[.string U, .int .i64 0]) ∧ Below W.heap.size W w') (h6 : ∀ W, Calls Tryz.prog 18 #[.string U] W fun e w' => e = .returned (.tuple #[.agg #[.int .i64 cy, .bool ny, .string ty, .int .i64 ey], .int .i64 0]) ∧ Below W.heap.size W w') (h7 : ∀ W, Calls Tryz.prog 14 #[.agg #[.int .i64 cy, .bool ny, .string ty, .int .i64 ey]] W fun e w' => e = .returned (.bool true) ∧ Below W.heap.size W w') : Calls Tryz.prog 9 #[dcV ca na ta ea, .string s] w fun e w' => e = .returned (.bool true) ∧ Below w.heap.size w w' := by
  have H1 := hide h1
  have H2 := hide h2
  have H3 := hide h3
  have H4 := hide h4
  have H5 := hide h5
  have H6 := hide h6
  have H7 := hide h7
  have HT := hide htab
  clear htab h1 h2 h3 h4 h5 h6 h7
  have Ba0 := hide (Blk.newAt w (w.heap.size) (rfl) #[.int .i64 ca, .bool na, .string ta, .int .i64 ea] 23)
  have HB0 : Hid (Below w.heap.size w (w.alloc (.cells #[.int .i64 ca, .bool na, .string ta, .int .i64 ea] 23))) := ((Below.refl _ _).alloc (Nat.le_refl _) _)
  go_enter Tryz.func9, Tryz.ntmps9
  go_wp2_with fail
  refine (H1.out _ (HT.out.below HB0.out)).mono ?_
  rintro e w1 ⟨rfl, hb⟩
  have Ba1 := hide (Ba0.out.below hb Ba0.out.lt)
  have HB1 := hide (HB0.out.trans (hb.mono HB0.out.size))
  clear hb Ba0 HB0 
  have ya0 : w1.cell? ⟨w.heap.size, 0, none⟩ = some (.int .i64 ca) := Ba1.out.cell 0
  have ya1 : w1.cell? ⟨w.heap.size, 1, none⟩ = some (.bool na) := Ba1.out.cell 1
  have ya2 : w1.cell? ⟨w.heap.size, 2, none⟩ = some (.string ta) := Ba1.out.cell 2
  have ya3 : w1.cell? ⟨w.heap.size, 3, none⟩ = some (.int .i64 ea) := Ba1.out.cell 3
  go_wp2_with fail
  refine (dawake_any _ (HT.out.below HB1.out)).mono ?_
  rintro e w2 ⟨rfl, hb⟩
  have Ba2 := hide (Ba1.out.below hb Ba1.out.lt)
  have HB2 := hide (HB1.out.trans (hb.mono HB1.out.size))
  clear hb Ba1 HB1 ya0 ya1 ya2 ya3
  have ya0 : w2.cell? ⟨w.heap.size, 0, none⟩ = some (.int .i64 ca) := Ba2.out.cell 0
  have ya1 : w2.cell? ⟨w.heap.size, 1, none⟩ = some (.bool na) := Ba2.out.cell 1
  have ya2 : w2.cell? ⟨w.heap.size, 2, none⟩ = some (.string ta) := Ba2.out.cell 2
  have ya3 : w2.cell? ⟨w.heap.size, 3, none⟩ = some (.int .i64 ea) := Ba2.out.cell 3
  go_wp2_with fail
  refine (H2.out _).mono ?_
  rintro e w3 ⟨rfl, hb⟩
  have Ba3 := hide (Ba2.out.below hb Ba2.out.lt)
  have HB3 := hide (HB2.out.trans (hb.mono HB2.out.size))
  clear hb Ba2 HB2 ya0 ya1 ya2 ya3
  have ya0 : w3.cell? ⟨w.heap.size, 0, none⟩ = some (.int .i64 ca) := Ba3.out.cell 0
  have ya1 : w3.cell? ⟨w.heap.size, 1, none⟩ = some (.bool na) := Ba3.out.cell 1
  have ya2 : w3.cell? ⟨w.heap.size, 2, none⟩ = some (.string ta) := Ba3.out.cell 2
  have ya3 : w3.cell? ⟨w.heap.size, 3, none⟩ = some (.int .i64 ea) := Ba3.out.cell 3
  go_wp2_with fail
  refine (H3.out _).mono ?_
  rintro e w4 ⟨rfl, hb⟩
  have Ba4 := hide (Ba3.out.below hb Ba3.out.lt)
  have HB4 := hide (HB3.out.trans (hb.mono HB3.out.size))
  clear hb Ba3 HB3 ya0 ya1 ya2 ya3
  have ya0 : w4.cell? ⟨w.heap.size, 0, none⟩ = some (.int .i64 ca) := Ba4.out.cell 0
  have ya1 : w4.cell? ⟨w.heap.size, 1, none⟩ = some (.bool na) := Ba4.out.cell 1
  have ya2 : w4.cell? ⟨w.heap.size, 2, none⟩ = some (.string ta) := Ba4.out.cell 2
  have ya3 : w4.cell? ⟨w.heap.size, 3, none⟩ = some (.int .i64 ea) := Ba4.out.cell 3
  have Ba5 := hide ((Ba4.out.alloc (.cells #[.int .i64 ca, .bool na, .string ta, .int .i64 ea] 23)))
  have Bx5 := hide ((Blk.newAt w4 (w4.heap.size) (rfl) #[.int .i64 ca, .bool na, .string ta, .int .i64 ea] 23))
  have HB5 : Hid (Below w.heap.size w (w4.alloc (.cells #[.int .i64 ca, .bool na, .string ta, .int .i64 ea] 23))) := (HB4.out.alloc HB4.out.size _)
  clear Ba4 HB4 ya0 ya1 ya2 ya3
  have ya0 : (w4.alloc (.cells #[.int .i64 ca, .bool na, .string ta, .int .i64 ea] 23)).cell? ⟨w.heap.size, 0, none⟩ = some (.int .i64 ca) := Ba5.out.cell 0
  have ya1 : (w4.alloc (.cells #[.int .i64 ca, .bool na, .string ta, .int .i64 ea] 23)).cell? ⟨w.heap.size, 1, none⟩ = some (.bool na) := Ba5.out.cell 1
  have ya2 : (w4.alloc (.cells #[.int .i64 ca, .bool na, .string ta, .int .i64 ea] 23)).cell? ⟨w.heap.size, 2, none⟩ = some (.string ta) := Ba5.out.cell 2
  have ya3 : (w4.alloc (.cells #[.int .i64 ca, .bool na, .string ta, .int .i64 ea] 23)).cell? ⟨w.heap.size, 3, none⟩ = some (.int .i64 ea) := Ba5.out.cell 3
  have yx0 : (w4.alloc (.cells #[.int .i64 ca, .bool na, .string ta, .int .i64 ea] 23)).cell? ⟨w4.heap.size, 0, none⟩ = some (.int .i64 ca) := Bx5.out.cell 0
  have yx1 : (w4.alloc (.cells #[.int .i64 ca, .bool na, .string ta, .int .i64 ea] 23)).cell? ⟨w4.heap.size, 1, none⟩ = some (.bool na) := Bx5.out.cell 1
  have yx2 : (w4.alloc (.cells #[.int .i64 ca, .bool na, .string ta, .int .i64 ea] 23)).cell? ⟨w4.heap.size, 2, none⟩ = some (.string ta) := Bx5.out.cell 2
  have yx3 : (w4.alloc (.cells #[.int .i64 ca, .bool na, .string ta, .int .i64 ea] 23)).cell? ⟨w4.heap.size, 3, none⟩ = some (.int .i64 ea) := Bx5.out.cell 3
  go_wp2_with fail
  refine (H4.out _).mono ?_
  rintro e w6 ⟨rfl, hb⟩
  have Ba6 := hide (Ba5.out.below hb Ba5.out.lt)
  have Bx6 := hide (Bx5.out.below hb Bx5.out.lt)
  have HB6 := hide (HB5.out.trans (hb.mono HB5.out.size))
  clear hb Ba5 Bx5 HB5 ya0 ya1 ya2 ya3 yx0 yx1 yx2 yx3
  have ya0 : w6.cell? ⟨w.heap.size, 0, none⟩ = some (.int .i64 ca) := Ba6.out.cell 0
  have ya1 : w6.cell? ⟨w.heap.size, 1, none⟩ = some (.bool na) := Ba6.out.cell 1
  have ya2 : w6.cell? ⟨w.heap.size, 2, none⟩ = some (.string ta) := Ba6.out.cell 2
  have ya3 : w6.cell? ⟨w.heap.size, 3, none⟩ = some (.int .i64 ea) := Ba6.out.cell 3
  have yx0 : w6.cell? ⟨w4.heap.size, 0, none⟩ = some (.int .i64 ca) := Bx6.out.cell 0
  have yx1 : w6.cell? ⟨w4.heap.size, 1, none⟩ = some (.bool na) := Bx6.out.cell 1
  have yx2 : w6.cell? ⟨w4.heap.size, 2, none⟩ = some (.string ta) := Bx6.out.cell 2
  have yx3 : w6.cell? ⟨w4.heap.size, 3, none⟩ = some (.int .i64 ea) := Bx6.out.cell 3
  have Ba7 := hide ((Ba6.out.alloc (.cells #[.int .i64 cy, .bool ny, .string ty, .int .i64 ey] 23)))
  have Bx7 := hide ((Bx6.out.alloc (.cells #[.int .i64 cy, .bool ny, .string ty, .int .i64 ey] 23)))
  have By7 := hide ((Blk.newAt w6 (w6.heap.size) (rfl) #[.int .i64 cy, .bool ny, .string ty, .int .i64 ey] 23))
  have HB7 : Hid (Below w.heap.size w (w6.alloc (.cells #[.int .i64 cy, .bool ny, .string ty, .int .i64 ey] 23))) := (HB6.out.alloc HB6.out.size _)
  clear Ba6 Bx6 HB6 ya0 ya1 ya2 ya3 yx0 yx1 yx2 yx3
  have ya0 : (w6.alloc (.cells #[.int .i64 cy, .bool ny, .string ty, .int .i64 ey] 23)).cell? ⟨w.heap.size, 0, none⟩ = some (.int .i64 ca) := Ba7.out.cell 0
  have ya1 : (w6.alloc (.cells #[.int .i64 cy, .bool ny, .string ty, .int .i64 ey] 23)).cell? ⟨w.heap.size, 1, none⟩ = some (.bool na) := Ba7.out.cell 1
  have ya2 : (w6.alloc (.cells #[.int .i64 cy, .bool ny, .string ty, .int .i64 ey] 23)).cell? ⟨w.heap.size, 2, none⟩ = some (.string ta) := Ba7.out.cell 2
  have ya3 : (w6.alloc (.cells #[.int .i64 cy, .bool ny, .string ty, .int .i64 ey] 23)).cell? ⟨w.heap.size, 3, none⟩ = some (.int .i64 ea) := Ba7.out.cell 3
  have yx0 : (w6.alloc (.cells #[.int .i64 cy, .bool ny, .string ty, .int .i64 ey] 23)).cell? ⟨w4.heap.size, 0, none⟩ = some (.int .i64 ca) := Bx7.out.cell 0
  have yx1 : (w6.alloc (.cells #[.int .i64 cy, .bool ny, .string ty, .int .i64 ey] 23)).cell? ⟨w4.heap.size, 1, none⟩ = some (.bool na) := Bx7.out.cell 1
  have yx2 : (w6.alloc (.cells #[.int .i64 cy, .bool ny, .string ty, .int .i64 ey] 23)).cell? ⟨w4.heap.size, 2, none⟩ = some (.string ta) := Bx7.out.cell 2
  have yx3 : (w6.alloc (.cells #[.int .i64 cy, .bool ny, .string ty, .int .i64 ey] 23)).cell? ⟨w4.heap.size, 3, none⟩ = some (.int .i64 ea) := Bx7.out.cell 3
  have yy0 : (w6.alloc (.cells #[.int .i64 cy, .bool ny, .string ty, .int .i64 ey] 23)).cell? ⟨w6.heap.size, 0, none⟩ = some (.int .i64 cy) := By7.out.cell 0
  have yy1 : (w6.alloc (.cells #[.int .i64 cy, .bool ny, .string ty, .int .i64 ey] 23)).cell? ⟨w6.heap.size, 1, none⟩ = some (.bool ny) := By7.out.cell 1
  have yy2 : (w6.alloc (.cells #[.int .i64 cy, .bool ny, .string ty, .int .i64 ey] 23)).cell? ⟨w6.heap.size, 2, none⟩ = some (.string ty) := By7.out.cell 2
  have yy3 : (w6.alloc (.cells #[.int .i64 cy, .bool ny, .string ty, .int .i64 ey] 23)).cell? ⟨w6.heap.size, 3, none⟩ = some (.int .i64 ey) := By7.out.cell 3
  go_wp2_with fail
  refine (H5.out _ (HT.out.below HB7.out)).mono ?_
  rintro e w8 ⟨rfl, hb⟩
  have Ba8 := hide (Ba7.out.below hb Ba7.out.lt)
  have Bx8 := hide (Bx7.out.below hb Bx7.out.lt)
  have By8 := hide (By7.out.below hb By7.out.lt)
  have HB8 := hide (HB7.out.trans (hb.mono HB7.out.size))
  clear hb Ba7 Bx7 By7 HB7 ya0 ya1 ya2 ya3 yx0 yx1 yx2 yx3 yy0 yy1 yy2 yy3
  have ya0 : w8.cell? ⟨w.heap.size, 0, none⟩ = some (.int .i64 ca) := Ba8.out.cell 0
  have ya1 : w8.cell? ⟨w.heap.size, 1, none⟩ = some (.bool na) := Ba8.out.cell 1
  have ya2 : w8.cell? ⟨w.heap.size, 2, none⟩ = some (.string ta) := Ba8.out.cell 2
  have ya3 : w8.cell? ⟨w.heap.size, 3, none⟩ = some (.int .i64 ea) := Ba8.out.cell 3
  have yx0 : w8.cell? ⟨w4.heap.size, 0, none⟩ = some (.int .i64 ca) := Bx8.out.cell 0
  have yx1 : w8.cell? ⟨w4.heap.size, 1, none⟩ = some (.bool na) := Bx8.out.cell 1
  have yx2 : w8.cell? ⟨w4.heap.size, 2, none⟩ = some (.string ta) := Bx8.out.cell 2
  have yx3 : w8.cell? ⟨w4.heap.size, 3, none⟩ = some (.int .i64 ea) := Bx8.out.cell 3
  have yy0 : w8.cell? ⟨w6.heap.size, 0, none⟩ = some (.int .i64 cy) := By8.out.cell 0
  have yy1 : w8.cell? ⟨w6.heap.size, 1, none⟩ = some (.bool ny) := By8.out.cell 1
  have yy2 : w8.cell? ⟨w6.heap.size, 2, none⟩ = some (.string ty) := By8.out.cell 2
  have yy3 : w8.cell? ⟨w6.heap.size, 3, none⟩ = some (.int .i64 ey) := By8.out.cell 3
  go_wp2_with fail
  refine (H6.out _).mono ?_
  rintro e w9 ⟨rfl, hb⟩
  have Ba9 := hide (Ba8.out.below hb Ba8.out.lt)
  have Bx9 := hide (Bx8.out.below hb Bx8.out.lt)
  have By9 := hide (By8.out.below hb By8.out.lt)
  have HB9 := hide (HB8.out.trans (hb.mono HB8.out.size))
  clear hb Ba8 Bx8 By8 HB8 ya0 ya1 ya2 ya3 yx0 yx1 yx2 yx3 yy0 yy1 yy2 yy3
  have ya0 : w9.cell? ⟨w.heap.size, 0, none⟩ = some (.int .i64 ca) := Ba9.out.cell 0
  have ya1 : w9.cell? ⟨w.heap.size, 1, none⟩ = some (.bool na) := Ba9.out.cell 1
  have ya2 : w9.cell? ⟨w.heap.size, 2, none⟩ = some (.string ta) := Ba9.out.cell 2
  have ya3 : w9.cell? ⟨w.heap.size, 3, none⟩ = some (.int .i64 ea) := Ba9.out.cell 3
  have yx0 : w9.cell? ⟨w4.heap.size, 0, none⟩ = some (.int .i64 ca) := Bx9.out.cell 0
  have yx1 : w9.cell? ⟨w4.heap.size, 1, none⟩ = some (.bool na) := Bx9.out.cell 1
  have yx2 : w9.cell? ⟨w4.heap.size, 2, none⟩ = some (.string ta) := Bx9.out.cell 2
  have yx3 : w9.cell? ⟨w4.heap.size, 3, none⟩ = some (.int .i64 ea) := Bx9.out.cell 3
  have yy0 : w9.cell? ⟨w6.heap.size, 0, none⟩ = some (.int .i64 cy) := By9.out.cell 0
  have yy1 : w9.cell? ⟨w6.heap.size, 1, none⟩ = some (.bool ny) := By9.out.cell 1
  have yy2 : w9.cell? ⟨w6.heap.size, 2, none⟩ = some (.string ty) := By9.out.cell 2
  have yy3 : w9.cell? ⟨w6.heap.size, 3, none⟩ = some (.int .i64 ey) := By9.out.cell 3
  have Ba10 := hide ((Ba9.out.alloc (.cells #[.int .i64 cy, .bool ny, .string ty, .int .i64 ey] 23)))
  have Bx10 := hide ((Bx9.out.alloc (.cells #[.int .i64 cy, .bool ny, .string ty, .int .i64 ey] 23)))
  have By10 := hide ((By9.out.alloc (.cells #[.int .i64 cy, .bool ny, .string ty, .int .i64 ey] 23)))
  have Bz10 := hide ((Blk.newAt w9 (w9.heap.size) (rfl) #[.int .i64 cy, .bool ny, .string ty, .int .i64 ey] 23))
  have HB10 : Hid (Below w.heap.size w (w9.alloc (.cells #[.int .i64 cy, .bool ny, .string ty, .int .i64 ey] 23))) := (HB9.out.alloc HB9.out.size _)
  clear Ba9 Bx9 By9 HB9 ya0 ya1 ya2 ya3 yx0 yx1 yx2 yx3 yy0 yy1 yy2 yy3
  have ya0 : (w9.alloc (.cells #[.int .i64 cy, .bool ny, .string ty, .int .i64 ey] 23)).cell? ⟨w.heap.size, 0, none⟩ = some (.int .i64 ca) := Ba10.out.cell 0
  have ya1 : (w9.alloc (.cells #[.int .i64 cy, .bool ny, .string ty, .int .i64 ey] 23)).cell? ⟨w.heap.size, 1, none⟩ = some (.bool na) := Ba10.out.cell 1
  have ya2 : (w9.alloc (.cells #[.int .i64 cy, .bool ny, .string ty, .int .i64 ey] 23)).cell? ⟨w.heap.size, 2, none⟩ = some (.string ta) := Ba10.out.cell 2
  have ya3 : (w9.alloc (.cells #[.int .i64 cy, .bool ny, .string ty, .int .i64 ey] 23)).cell? ⟨w.heap.size, 3, none⟩ = some (.int .i64 ea) := Ba10.out.cell 3
  have yx0 : (w9.alloc (.cells #[.int .i64 cy, .bool ny, .string ty, .int .i64 ey] 23)).cell? ⟨w4.heap.size, 0, none⟩ = some (.int .i64 ca) := Bx10.out.cell 0
  have yx1 : (w9.alloc (.cells #[.int .i64 cy, .bool ny, .string ty, .int .i64 ey] 23)).cell? ⟨w4.heap.size, 1, none⟩ = some (.bool na) := Bx10.out.cell 1
  have yx2 : (w9.alloc (.cells #[.int .i64 cy, .bool ny, .string ty, .int .i64 ey] 23)).cell? ⟨w4.heap.size, 2, none⟩ = some (.string ta) := Bx10.out.cell 2
  have yx3 : (w9.alloc (.cells #[.int .i64 cy, .bool ny, .string ty, .int .i64 ey] 23)).cell? ⟨w4.heap.size, 3, none⟩ = some (.int .i64 ea) := Bx10.out.cell 3
  have yy0 : (w9.alloc (.cells #[.int .i64 cy, .bool ny, .string ty, .int .i64 ey] 23)).cell? ⟨w6.heap.size, 0, none⟩ = some (.int .i64 cy) := By10.out.cell 0
  have yy1 : (w9.alloc (.cells #[.int .i64 cy, .bool ny, .string ty, .int .i64 ey] 23)).cell? ⟨w6.heap.size, 1, none⟩ = some (.bool ny) := By10.out.cell 1
  have yy2 : (w9.alloc (.cells #[.int .i64 cy, .bool ny, .string ty, .int .i64 ey] 23)).cell? ⟨w6.heap.size, 2, none⟩ = some (.string ty) := By10.out.cell 2
  have yy3 : (w9.alloc (.cells #[.int .i64 cy, .bool ny, .string ty, .int .i64 ey] 23)).cell? ⟨w6.heap.size, 3, none⟩ = some (.int .i64 ey) := By10.out.cell 3
  have yz0 : (w9.alloc (.cells #[.int .i64 cy, .bool ny, .string ty, .int .i64 ey] 23)).cell? ⟨w9.heap.size, 0, none⟩ = some (.int .i64 cy) := Bz10.out.cell 0
  have yz1 : (w9.alloc (.cells #[.int .i64 cy, .bool ny, .string ty, .int .i64 ey] 23)).cell? ⟨w9.heap.size, 1, none⟩ = some (.bool ny) := Bz10.out.cell 1
  have yz2 : (w9.alloc (.cells #[.int .i64 cy, .bool ny, .string ty, .int .i64 ey] 23)).cell? ⟨w9.heap.size, 2, none⟩ = some (.string ty) := Bz10.out.cell 2
  have yz3 : (w9.alloc (.cells #[.int .i64 cy, .bool ny, .string ty, .int .i64 ey] 23)).cell? ⟨w9.heap.size, 3, none⟩ = some (.int .i64 ey) := Bz10.out.cell 3
  go_wp2_with fail
  refine (H7.out _).mono ?_
  rintro e w11 ⟨rfl, hb⟩
  have Ba11 := hide (Ba10.out.below hb Ba10.out.lt)
  have Bx11 := hide (Bx10.out.below hb Bx10.out.lt)
  have By11 := hide (By10.out.below hb By10.out.lt)
  have Bz11 := hide (Bz10.out.below hb Bz10.out.lt)
  have HB11 := hide (HB10.out.trans (hb.mono HB10.out.size))
  clear hb Ba10 Bx10 By10 Bz10 HB10 ya0 ya1 ya2 ya3 yx0 yx1 yx2 yx3 yy0 yy1 yy2 yy3 yz0 yz1 yz2 yz3
  have ya0 : w11.cell? ⟨w.heap.size, 0, none⟩ = some (.int .i64 ca) := Ba11.out.cell 0
  have ya1 : w11.cell? ⟨w.heap.size, 1, none⟩ = some (.bool na) := Ba11.out.cell 1
  have ya2 : w11.cell? ⟨w.heap.size, 2, none⟩ = some (.string ta) := Ba11.out.cell 2
  have ya3 : w11.cell? ⟨w.heap.size, 3, none⟩ = some (.int .i64 ea) := Ba11.out.cell 3
  have yx0 : w11.cell? ⟨w4.heap.size, 0, none⟩ = some (.int .i64 ca) := Bx11.out.cell 0
  have yx1 : w11.cell? ⟨w4.heap.size, 1, none⟩ = some (.bool na) := Bx11.out.cell 1
  have yx2 : w11.cell? ⟨w4.heap.size, 2, none⟩ = some (.string ta) := Bx11.out.cell 2
  have yx3 : w11.cell? ⟨w4.heap.size, 3, none⟩ = some (.int .i64 ea) := Bx11.out.cell 3
  have yy0 : w11.cell? ⟨w6.heap.size, 0, none⟩ = some (.int .i64 cy) := By11.out.cell 0
  have yy1 : w11.cell? ⟨w6.heap.size, 1, none⟩ = some (.bool ny) := By11.out.cell 1
  have yy2 : w11.cell? ⟨w6.heap.size, 2, none⟩ = some (.string ty) := By11.out.cell 2
  have yy3 : w11.cell? ⟨w6.heap.size, 3, none⟩ = some (.int .i64 ey) := By11.out.cell 3
  have yz0 : w11.cell? ⟨w9.heap.size, 0, none⟩ = some (.int .i64 cy) := Bz11.out.cell 0
  have yz1 : w11.cell? ⟨w9.heap.size, 1, none⟩ = some (.bool ny) := Bz11.out.cell 1
  have yz2 : w11.cell? ⟨w9.heap.size, 2, none⟩ = some (.string ty) := Bz11.out.cell 2
  have yz3 : w11.cell? ⟨w9.heap.size, 3, none⟩ = some (.int .i64 ey) := Bz11.out.cell 3
  go_wp2
  go_ret
  exact ⟨rfl, HB11.out⟩

set_option maxRecDepth 100000 in
set_option maxHeartbeats 4000000 in
theorem back_yn (ca : Int) (na : Bool) (ta : ByteArray) (ea : Int) (s : ByteArray) (T : ByteArray) (g : Int) (hg : g ≠ 0) (w : World) (htab : Tab w) (h1 : ∀ W, Tab W → Calls Tryz.prog 20 #[dcV ca na ta ea] W fun e w' => e = .returned (.tuple #[.string T, .int .i64 0]) ∧ Below W.heap.size W w') (h2 : ∀ W, Calls Tryz.prog 14 #[dcV ca na ta ea] W fun e w' => e = .returned (.bool true) ∧ Below W.heap.size W w') (h3 : ∀ W, Calls Tryz.prog 18 #[.string T] W fun e w' => e = .returned (.tuple #[.agg #[.int .i64 ca, .bool na, .string ta, .int .i64 ea], .int .i64 0]) ∧ Below W.heap.size W w') (h4 : ∀ W, Calls Tryz.prog 18 #[.string s] W fun e w' => e = .returned (.tuple #[.agg #[.int .i64 0, .bool false, .string ⟨#[]⟩, .int .i64 0], .int .i64 g]) ∧ Below W.heap.size W w') : Calls Tryz.prog 9 #[dcV ca na ta ea, .string s] w fun e w' => e = .returned (.bool true) ∧ Below w.heap.size w w' := by
  have H1 := hide h1
  have H2 := hide h2
  have H3 := hide h3
  have H4 := hide h4
  have hg' : (g != 0) = true := by simpa using hg
  clear hg
  have HT := hide htab
  clear htab h1 h2 h3 h4
  have Ba0 := hide (Blk.newAt w (w.heap.size) (rfl) #[.int .i64 ca, .bool na, .string ta, .int .i64 ea] 23)
  have HB0 : Hid (Below w.heap.size w (w.alloc (.cells #[.int .i64 ca, .bool na, .string ta, .int .i64 ea] 23))) := ((Below.refl _ _).alloc (Nat.le_refl _) _)
  go_enter Tryz.func9, Tryz.ntmps9
  go_wp2_with fail
  refine (H1.out _ (HT.out.below HB0.out)).mono ?_
  rintro e w1 ⟨rfl, hb⟩
  have Ba1 := hide (Ba0.out.below hb Ba0.out.lt)
  have HB1 := hide (HB0.out.trans (hb.mono HB0.out.size))
  clear hb Ba0 HB0 
  have ya0 : w1.cell? ⟨w.heap.size, 0, none⟩ = some (.int .i64 ca) := Ba1.out.cell 0
  have ya1 : w1.cell? ⟨w.heap.size, 1, none⟩ = some (.bool na) := Ba1.out.cell 1
  have ya2 : w1.cell? ⟨w.heap.size, 2, none⟩ = some (.string ta) := Ba1.out.cell 2
  have ya3 : w1.cell? ⟨w.heap.size, 3, none⟩ = some (.int .i64 ea) := Ba1.out.cell 3
  go_wp2_with fail
  refine (dawake_any _ (HT.out.below HB1.out)).mono ?_
  rintro e w2 ⟨rfl, hb⟩
  have Ba2 := hide (Ba1.out.below hb Ba1.out.lt)
  have HB2 := hide (HB1.out.trans (hb.mono HB1.out.size))
  clear hb Ba1 HB1 ya0 ya1 ya2 ya3
  have ya0 : w2.cell? ⟨w.heap.size, 0, none⟩ = some (.int .i64 ca) := Ba2.out.cell 0
  have ya1 : w2.cell? ⟨w.heap.size, 1, none⟩ = some (.bool na) := Ba2.out.cell 1
  have ya2 : w2.cell? ⟨w.heap.size, 2, none⟩ = some (.string ta) := Ba2.out.cell 2
  have ya3 : w2.cell? ⟨w.heap.size, 3, none⟩ = some (.int .i64 ea) := Ba2.out.cell 3
  go_wp2_with fail
  refine (H2.out _).mono ?_
  rintro e w3 ⟨rfl, hb⟩
  have Ba3 := hide (Ba2.out.below hb Ba2.out.lt)
  have HB3 := hide (HB2.out.trans (hb.mono HB2.out.size))
  clear hb Ba2 HB2 ya0 ya1 ya2 ya3
  have ya0 : w3.cell? ⟨w.heap.size, 0, none⟩ = some (.int .i64 ca) := Ba3.out.cell 0
  have ya1 : w3.cell? ⟨w.heap.size, 1, none⟩ = some (.bool na) := Ba3.out.cell 1
  have ya2 : w3.cell? ⟨w.heap.size, 2, none⟩ = some (.string ta) := Ba3.out.cell 2
  have ya3 : w3.cell? ⟨w.heap.size, 3, none⟩ = some (.int .i64 ea) := Ba3.out.cell 3
  go_wp2_with fail
  refine (H3.out _).mono ?_
  rintro e w4 ⟨rfl, hb⟩
  have Ba4 := hide (Ba3.out.below hb Ba3.out.lt)
  have HB4 := hide (HB3.out.trans (hb.mono HB3.out.size))
  clear hb Ba3 HB3 ya0 ya1 ya2 ya3
  have ya0 : w4.cell? ⟨w.heap.size, 0, none⟩ = some (.int .i64 ca) := Ba4.out.cell 0
  have ya1 : w4.cell? ⟨w.heap.size, 1, none⟩ = some (.bool na) := Ba4.out.cell 1
  have ya2 : w4.cell? ⟨w.heap.size, 2, none⟩ = some (.string ta) := Ba4.out.cell 2
  have ya3 : w4.cell? ⟨w.heap.size, 3, none⟩ = some (.int .i64 ea) := Ba4.out.cell 3
  have Ba5 := hide ((Ba4.out.alloc (.cells #[.int .i64 ca, .bool na, .string ta, .int .i64 ea] 23)))
  have Bx5 := hide ((Blk.newAt w4 (w4.heap.size) (rfl) #[.int .i64 ca, .bool na, .string ta, .int .i64 ea] 23))
  have HB5 : Hid (Below w.heap.size w (w4.alloc (.cells #[.int .i64 ca, .bool na, .string ta, .int .i64 ea] 23))) := (HB4.out.alloc HB4.out.size _)
  clear Ba4 HB4 ya0 ya1 ya2 ya3
  have ya0 : (w4.alloc (.cells #[.int .i64 ca, .bool na, .string ta, .int .i64 ea] 23)).cell? ⟨w.heap.size, 0, none⟩ = some (.int .i64 ca) := Ba5.out.cell 0
  have ya1 : (w4.alloc (.cells #[.int .i64 ca, .bool na, .string ta, .int .i64 ea] 23)).cell? ⟨w.heap.size, 1, none⟩ = some (.bool na) := Ba5.out.cell 1
  have ya2 : (w4.alloc (.cells #[.int .i64 ca, .bool na, .string ta, .int .i64 ea] 23)).cell? ⟨w.heap.size, 2, none⟩ = some (.string ta) := Ba5.out.cell 2
  have ya3 : (w4.alloc (.cells #[.int .i64 ca, .bool na, .string ta, .int .i64 ea] 23)).cell? ⟨w.heap.size, 3, none⟩ = some (.int .i64 ea) := Ba5.out.cell 3
  have yx0 : (w4.alloc (.cells #[.int .i64 ca, .bool na, .string ta, .int .i64 ea] 23)).cell? ⟨w4.heap.size, 0, none⟩ = some (.int .i64 ca) := Bx5.out.cell 0
  have yx1 : (w4.alloc (.cells #[.int .i64 ca, .bool na, .string ta, .int .i64 ea] 23)).cell? ⟨w4.heap.size, 1, none⟩ = some (.bool na) := Bx5.out.cell 1
  have yx2 : (w4.alloc (.cells #[.int .i64 ca, .bool na, .string ta, .int .i64 ea] 23)).cell? ⟨w4.heap.size, 2, none⟩ = some (.string ta) := Bx5.out.cell 2
  have yx3 : (w4.alloc (.cells #[.int .i64 ca, .bool na, .string ta, .int .i64 ea] 23)).cell? ⟨w4.heap.size, 3, none⟩ = some (.int .i64 ea) := Bx5.out.cell 3
  go_wp2_with fail
  refine (H4.out _).mono ?_
  rintro e w6 ⟨rfl, hb⟩
  have Ba6 := hide (Ba5.out.below hb Ba5.out.lt)
  have Bx6 := hide (Bx5.out.below hb Bx5.out.lt)
  have HB6 := hide (HB5.out.trans (hb.mono HB5.out.size))
  clear hb Ba5 Bx5 HB5 ya0 ya1 ya2 ya3 yx0 yx1 yx2 yx3
  have ya0 : w6.cell? ⟨w.heap.size, 0, none⟩ = some (.int .i64 ca) := Ba6.out.cell 0
  have ya1 : w6.cell? ⟨w.heap.size, 1, none⟩ = some (.bool na) := Ba6.out.cell 1
  have ya2 : w6.cell? ⟨w.heap.size, 2, none⟩ = some (.string ta) := Ba6.out.cell 2
  have ya3 : w6.cell? ⟨w.heap.size, 3, none⟩ = some (.int .i64 ea) := Ba6.out.cell 3
  have yx0 : w6.cell? ⟨w4.heap.size, 0, none⟩ = some (.int .i64 ca) := Bx6.out.cell 0
  have yx1 : w6.cell? ⟨w4.heap.size, 1, none⟩ = some (.bool na) := Bx6.out.cell 1
  have yx2 : w6.cell? ⟨w4.heap.size, 2, none⟩ = some (.string ta) := Bx6.out.cell 2
  have yx3 : w6.cell? ⟨w4.heap.size, 3, none⟩ = some (.int .i64 ea) := Bx6.out.cell 3
  have Ba7 := hide ((Ba6.out.alloc (.cells #[.int .i64 0, .bool false, .string ⟨#[]⟩, .int .i64 0] 23)))
  have Bx7 := hide ((Bx6.out.alloc (.cells #[.int .i64 0, .bool false, .string ⟨#[]⟩, .int .i64 0] 23)))
  have By7 := hide ((Blk.newAt w6 (w6.heap.size) (rfl) #[.int .i64 0, .bool false, .string ⟨#[]⟩, .int .i64 0] 23))
  have HB7 : Hid (Below w.heap.size w (w6.alloc (.cells #[.int .i64 0, .bool false, .string ⟨#[]⟩, .int .i64 0] 23))) := (HB6.out.alloc HB6.out.size _)
  clear Ba6 Bx6 HB6 ya0 ya1 ya2 ya3 yx0 yx1 yx2 yx3
  have ya0 : (w6.alloc (.cells #[.int .i64 0, .bool false, .string ⟨#[]⟩, .int .i64 0] 23)).cell? ⟨w.heap.size, 0, none⟩ = some (.int .i64 ca) := Ba7.out.cell 0
  have ya1 : (w6.alloc (.cells #[.int .i64 0, .bool false, .string ⟨#[]⟩, .int .i64 0] 23)).cell? ⟨w.heap.size, 1, none⟩ = some (.bool na) := Ba7.out.cell 1
  have ya2 : (w6.alloc (.cells #[.int .i64 0, .bool false, .string ⟨#[]⟩, .int .i64 0] 23)).cell? ⟨w.heap.size, 2, none⟩ = some (.string ta) := Ba7.out.cell 2
  have ya3 : (w6.alloc (.cells #[.int .i64 0, .bool false, .string ⟨#[]⟩, .int .i64 0] 23)).cell? ⟨w.heap.size, 3, none⟩ = some (.int .i64 ea) := Ba7.out.cell 3
  have yx0 : (w6.alloc (.cells #[.int .i64 0, .bool false, .string ⟨#[]⟩, .int .i64 0] 23)).cell? ⟨w4.heap.size, 0, none⟩ = some (.int .i64 ca) := Bx7.out.cell 0
  have yx1 : (w6.alloc (.cells #[.int .i64 0, .bool false, .string ⟨#[]⟩, .int .i64 0] 23)).cell? ⟨w4.heap.size, 1, none⟩ = some (.bool na) := Bx7.out.cell 1
  have yx2 : (w6.alloc (.cells #[.int .i64 0, .bool false, .string ⟨#[]⟩, .int .i64 0] 23)).cell? ⟨w4.heap.size, 2, none⟩ = some (.string ta) := Bx7.out.cell 2
  have yx3 : (w6.alloc (.cells #[.int .i64 0, .bool false, .string ⟨#[]⟩, .int .i64 0] 23)).cell? ⟨w4.heap.size, 3, none⟩ = some (.int .i64 ea) := Bx7.out.cell 3
  have yy0 : (w6.alloc (.cells #[.int .i64 0, .bool false, .string ⟨#[]⟩, .int .i64 0] 23)).cell? ⟨w6.heap.size, 0, none⟩ = some (.int .i64 0) := By7.out.cell 0
  have yy1 : (w6.alloc (.cells #[.int .i64 0, .bool false, .string ⟨#[]⟩, .int .i64 0] 23)).cell? ⟨w6.heap.size, 1, none⟩ = some (.bool false) := By7.out.cell 1
  have yy2 : (w6.alloc (.cells #[.int .i64 0, .bool false, .string ⟨#[]⟩, .int .i64 0] 23)).cell? ⟨w6.heap.size, 2, none⟩ = some (.string ⟨#[]⟩) := By7.out.cell 2
  have yy3 : (w6.alloc (.cells #[.int .i64 0, .bool false, .string ⟨#[]⟩, .int .i64 0] 23)).cell? ⟨w6.heap.size, 3, none⟩ = some (.int .i64 0) := By7.out.cell 3
  go_wp2
  go_ret
  exact ⟨rfl, HB7.out⟩

set_option maxRecDepth 100000 in
set_option maxHeartbeats 4000000 in
theorem back_ny (ca : Int) (na : Bool) (ta : ByteArray) (ea : Int) (s : ByteArray) (cy : Int) (ny : Bool) (ty : ByteArray) (ey : Int) (U : ByteArray) (w : World) (htab : Tab w) (h1 : ∀ W, Tab W → Calls Tryz.prog 20 #[dcV ca na ta ea] W fun e w' => e = .returned (.tuple #[.string ⟨#[]⟩, .int .i64 52]) ∧ Below W.heap.size W w') (h2 : ∀ W, Calls Tryz.prog 14 #[dcV ca na ta ea] W fun e w' => e = .returned (.bool false) ∧ Below W.heap.size W w') (h4 : ∀ W, Calls Tryz.prog 18 #[.string s] W fun e w' => e = .returned (.tuple #[.agg #[.int .i64 cy, .bool ny, .string ty, .int .i64 ey], .int .i64 0]) ∧ Below W.heap.size W w') (h5 : ∀ W, Tab W → Calls Tryz.prog 20 #[.agg #[.int .i64 cy, .bool ny, .string ty, .int .i64 ey]] W fun e w' => e = .returned (.tuple #[.string U, .int .i64 0]) ∧ Below W.heap.size W w') (h6 : ∀ W, Calls Tryz.prog 18 #[.string U] W fun e w' => e = .returned (.tuple #[.agg #[.int .i64 cy, .bool ny, .string ty, .int .i64 ey], .int .i64 0]) ∧ Below W.heap.size W w') (h7 : ∀ W, Calls Tryz.prog 14 #[.agg #[.int .i64 cy, .bool ny, .string ty, .int .i64 ey]] W fun e w' => e = .returned (.bool true) ∧ Below W.heap.size W w') : Calls Tryz.prog 9 #[dcV ca na ta ea, .string s] w fun e w' => e = .returned (.bool true) ∧ Below w.heap.size w w' := by
  have H1 := hide h1
  have H2 := hide h2
  have H4 := hide h4
  have H5 := hide h5
  have H6 := hide h6
  have H7 := hide h7
  have HT := hide htab
  clear htab h1 h2 h4 h5 h6 h7
  have Ba0 := hide (Blk.newAt w (w.heap.size) (rfl) #[.int .i64 ca, .bool na, .string ta, .int .i64 ea] 23)
  have HB0 : Hid (Below w.heap.size w (w.alloc (.cells #[.int .i64 ca, .bool na, .string ta, .int .i64 ea] 23))) := ((Below.refl _ _).alloc (Nat.le_refl _) _)
  go_enter Tryz.func9, Tryz.ntmps9
  go_wp2_with fail
  refine (H1.out _ (HT.out.below HB0.out)).mono ?_
  rintro e w1 ⟨rfl, hb⟩
  have Ba1 := hide (Ba0.out.below hb Ba0.out.lt)
  have HB1 := hide (HB0.out.trans (hb.mono HB0.out.size))
  clear hb Ba0 HB0 
  have ya0 : w1.cell? ⟨w.heap.size, 0, none⟩ = some (.int .i64 ca) := Ba1.out.cell 0
  have ya1 : w1.cell? ⟨w.heap.size, 1, none⟩ = some (.bool na) := Ba1.out.cell 1
  have ya2 : w1.cell? ⟨w.heap.size, 2, none⟩ = some (.string ta) := Ba1.out.cell 2
  have ya3 : w1.cell? ⟨w.heap.size, 3, none⟩ = some (.int .i64 ea) := Ba1.out.cell 3
  go_wp2_with fail
  refine (dawake_any _ (HT.out.below HB1.out)).mono ?_
  rintro e w2 ⟨rfl, hb⟩
  have Ba2 := hide (Ba1.out.below hb Ba1.out.lt)
  have HB2 := hide (HB1.out.trans (hb.mono HB1.out.size))
  clear hb Ba1 HB1 ya0 ya1 ya2 ya3
  have ya0 : w2.cell? ⟨w.heap.size, 0, none⟩ = some (.int .i64 ca) := Ba2.out.cell 0
  have ya1 : w2.cell? ⟨w.heap.size, 1, none⟩ = some (.bool na) := Ba2.out.cell 1
  have ya2 : w2.cell? ⟨w.heap.size, 2, none⟩ = some (.string ta) := Ba2.out.cell 2
  have ya3 : w2.cell? ⟨w.heap.size, 3, none⟩ = some (.int .i64 ea) := Ba2.out.cell 3
  go_wp2_with fail
  refine (H2.out _).mono ?_
  rintro e w3 ⟨rfl, hb⟩
  have Ba3 := hide (Ba2.out.below hb Ba2.out.lt)
  have HB3 := hide (HB2.out.trans (hb.mono HB2.out.size))
  clear hb Ba2 HB2 ya0 ya1 ya2 ya3
  have ya0 : w3.cell? ⟨w.heap.size, 0, none⟩ = some (.int .i64 ca) := Ba3.out.cell 0
  have ya1 : w3.cell? ⟨w.heap.size, 1, none⟩ = some (.bool na) := Ba3.out.cell 1
  have ya2 : w3.cell? ⟨w.heap.size, 2, none⟩ = some (.string ta) := Ba3.out.cell 2
  have ya3 : w3.cell? ⟨w.heap.size, 3, none⟩ = some (.int .i64 ea) := Ba3.out.cell 3
  go_wp2_with fail
  refine (H4.out _).mono ?_
  rintro e w4 ⟨rfl, hb⟩
  have Ba4 := hide (Ba3.out.below hb Ba3.out.lt)
  have HB4 := hide (HB3.out.trans (hb.mono HB3.out.size))
  clear hb Ba3 HB3 ya0 ya1 ya2 ya3
  have ya0 : w4.cell? ⟨w.heap.size, 0, none⟩ = some (.int .i64 ca) := Ba4.out.cell 0
  have ya1 : w4.cell? ⟨w.heap.size, 1, none⟩ = some (.bool na) := Ba4.out.cell 1
  have ya2 : w4.cell? ⟨w.heap.size, 2, none⟩ = some (.string ta) := Ba4.out.cell 2
  have ya3 : w4.cell? ⟨w.heap.size, 3, none⟩ = some (.int .i64 ea) := Ba4.out.cell 3
  have Ba5 := hide ((Ba4.out.alloc (.cells #[.int .i64 cy, .bool ny, .string ty, .int .i64 ey] 23)))
  have By5 := hide ((Blk.newAt w4 (w4.heap.size) (rfl) #[.int .i64 cy, .bool ny, .string ty, .int .i64 ey] 23))
  have HB5 : Hid (Below w.heap.size w (w4.alloc (.cells #[.int .i64 cy, .bool ny, .string ty, .int .i64 ey] 23))) := (HB4.out.alloc HB4.out.size _)
  clear Ba4 HB4 ya0 ya1 ya2 ya3
  have ya0 : (w4.alloc (.cells #[.int .i64 cy, .bool ny, .string ty, .int .i64 ey] 23)).cell? ⟨w.heap.size, 0, none⟩ = some (.int .i64 ca) := Ba5.out.cell 0
  have ya1 : (w4.alloc (.cells #[.int .i64 cy, .bool ny, .string ty, .int .i64 ey] 23)).cell? ⟨w.heap.size, 1, none⟩ = some (.bool na) := Ba5.out.cell 1
  have ya2 : (w4.alloc (.cells #[.int .i64 cy, .bool ny, .string ty, .int .i64 ey] 23)).cell? ⟨w.heap.size, 2, none⟩ = some (.string ta) := Ba5.out.cell 2
  have ya3 : (w4.alloc (.cells #[.int .i64 cy, .bool ny, .string ty, .int .i64 ey] 23)).cell? ⟨w.heap.size, 3, none⟩ = some (.int .i64 ea) := Ba5.out.cell 3
  have yy0 : (w4.alloc (.cells #[.int .i64 cy, .bool ny, .string ty, .int .i64 ey] 23)).cell? ⟨w4.heap.size, 0, none⟩ = some (.int .i64 cy) := By5.out.cell 0
  have yy1 : (w4.alloc (.cells #[.int .i64 cy, .bool ny, .string ty, .int .i64 ey] 23)).cell? ⟨w4.heap.size, 1, none⟩ = some (.bool ny) := By5.out.cell 1
  have yy2 : (w4.alloc (.cells #[.int .i64 cy, .bool ny, .string ty, .int .i64 ey] 23)).cell? ⟨w4.heap.size, 2, none⟩ = some (.string ty) := By5.out.cell 2
  have yy3 : (w4.alloc (.cells #[.int .i64 cy, .bool ny, .string ty, .int .i64 ey] 23)).cell? ⟨w4.heap.size, 3, none⟩ = some (.int .i64 ey) := By5.out.cell 3
  go_wp2_with fail
  refine (H5.out _ (HT.out.below HB5.out)).mono ?_
  rintro e w6 ⟨rfl, hb⟩
  have Ba6 := hide (Ba5.out.below hb Ba5.out.lt)
  have By6 := hide (By5.out.below hb By5.out.lt)
  have HB6 := hide (HB5.out.trans (hb.mono HB5.out.size))
  clear hb Ba5 By5 HB5 ya0 ya1 ya2 ya3 yy0 yy1 yy2 yy3
  have ya0 : w6.cell? ⟨w.heap.size, 0, none⟩ = some (.int .i64 ca) := Ba6.out.cell 0
  have ya1 : w6.cell? ⟨w.heap.size, 1, none⟩ = some (.bool na) := Ba6.out.cell 1
  have ya2 : w6.cell? ⟨w.heap.size, 2, none⟩ = some (.string ta) := Ba6.out.cell 2
  have ya3 : w6.cell? ⟨w.heap.size, 3, none⟩ = some (.int .i64 ea) := Ba6.out.cell 3
  have yy0 : w6.cell? ⟨w4.heap.size, 0, none⟩ = some (.int .i64 cy) := By6.out.cell 0
  have yy1 : w6.cell? ⟨w4.heap.size, 1, none⟩ = some (.bool ny) := By6.out.cell 1
  have yy2 : w6.cell? ⟨w4.heap.size, 2, none⟩ = some (.string ty) := By6.out.cell 2
  have yy3 : w6.cell? ⟨w4.heap.size, 3, none⟩ = some (.int .i64 ey) := By6.out.cell 3
  go_wp2_with fail
  refine (H6.out _).mono ?_
  rintro e w7 ⟨rfl, hb⟩
  have Ba7 := hide (Ba6.out.below hb Ba6.out.lt)
  have By7 := hide (By6.out.below hb By6.out.lt)
  have HB7 := hide (HB6.out.trans (hb.mono HB6.out.size))
  clear hb Ba6 By6 HB6 ya0 ya1 ya2 ya3 yy0 yy1 yy2 yy3
  have ya0 : w7.cell? ⟨w.heap.size, 0, none⟩ = some (.int .i64 ca) := Ba7.out.cell 0
  have ya1 : w7.cell? ⟨w.heap.size, 1, none⟩ = some (.bool na) := Ba7.out.cell 1
  have ya2 : w7.cell? ⟨w.heap.size, 2, none⟩ = some (.string ta) := Ba7.out.cell 2
  have ya3 : w7.cell? ⟨w.heap.size, 3, none⟩ = some (.int .i64 ea) := Ba7.out.cell 3
  have yy0 : w7.cell? ⟨w4.heap.size, 0, none⟩ = some (.int .i64 cy) := By7.out.cell 0
  have yy1 : w7.cell? ⟨w4.heap.size, 1, none⟩ = some (.bool ny) := By7.out.cell 1
  have yy2 : w7.cell? ⟨w4.heap.size, 2, none⟩ = some (.string ty) := By7.out.cell 2
  have yy3 : w7.cell? ⟨w4.heap.size, 3, none⟩ = some (.int .i64 ey) := By7.out.cell 3
  have Ba8 := hide ((Ba7.out.alloc (.cells #[.int .i64 cy, .bool ny, .string ty, .int .i64 ey] 23)))
  have By8 := hide ((By7.out.alloc (.cells #[.int .i64 cy, .bool ny, .string ty, .int .i64 ey] 23)))
  have Bz8 := hide ((Blk.newAt w7 (w7.heap.size) (rfl) #[.int .i64 cy, .bool ny, .string ty, .int .i64 ey] 23))
  have HB8 : Hid (Below w.heap.size w (w7.alloc (.cells #[.int .i64 cy, .bool ny, .string ty, .int .i64 ey] 23))) := (HB7.out.alloc HB7.out.size _)
  clear Ba7 By7 HB7 ya0 ya1 ya2 ya3 yy0 yy1 yy2 yy3
  have ya0 : (w7.alloc (.cells #[.int .i64 cy, .bool ny, .string ty, .int .i64 ey] 23)).cell? ⟨w.heap.size, 0, none⟩ = some (.int .i64 ca) := Ba8.out.cell 0
  have ya1 : (w7.alloc (.cells #[.int .i64 cy, .bool ny, .string ty, .int .i64 ey] 23)).cell? ⟨w.heap.size, 1, none⟩ = some (.bool na) := Ba8.out.cell 1
  have ya2 : (w7.alloc (.cells #[.int .i64 cy, .bool ny, .string ty, .int .i64 ey] 23)).cell? ⟨w.heap.size, 2, none⟩ = some (.string ta) := Ba8.out.cell 2
  have ya3 : (w7.alloc (.cells #[.int .i64 cy, .bool ny, .string ty, .int .i64 ey] 23)).cell? ⟨w.heap.size, 3, none⟩ = some (.int .i64 ea) := Ba8.out.cell 3
  have yy0 : (w7.alloc (.cells #[.int .i64 cy, .bool ny, .string ty, .int .i64 ey] 23)).cell? ⟨w4.heap.size, 0, none⟩ = some (.int .i64 cy) := By8.out.cell 0
  have yy1 : (w7.alloc (.cells #[.int .i64 cy, .bool ny, .string ty, .int .i64 ey] 23)).cell? ⟨w4.heap.size, 1, none⟩ = some (.bool ny) := By8.out.cell 1
  have yy2 : (w7.alloc (.cells #[.int .i64 cy, .bool ny, .string ty, .int .i64 ey] 23)).cell? ⟨w4.heap.size, 2, none⟩ = some (.string ty) := By8.out.cell 2
  have yy3 : (w7.alloc (.cells #[.int .i64 cy, .bool ny, .string ty, .int .i64 ey] 23)).cell? ⟨w4.heap.size, 3, none⟩ = some (.int .i64 ey) := By8.out.cell 3
  have yz0 : (w7.alloc (.cells #[.int .i64 cy, .bool ny, .string ty, .int .i64 ey] 23)).cell? ⟨w7.heap.size, 0, none⟩ = some (.int .i64 cy) := Bz8.out.cell 0
  have yz1 : (w7.alloc (.cells #[.int .i64 cy, .bool ny, .string ty, .int .i64 ey] 23)).cell? ⟨w7.heap.size, 1, none⟩ = some (.bool ny) := Bz8.out.cell 1
  have yz2 : (w7.alloc (.cells #[.int .i64 cy, .bool ny, .string ty, .int .i64 ey] 23)).cell? ⟨w7.heap.size, 2, none⟩ = some (.string ty) := Bz8.out.cell 2
  have yz3 : (w7.alloc (.cells #[.int .i64 cy, .bool ny, .string ty, .int .i64 ey] 23)).cell? ⟨w7.heap.size, 3, none⟩ = some (.int .i64 ey) := Bz8.out.cell 3
  go_wp2_with fail
  refine (H7.out _).mono ?_
  rintro e w9 ⟨rfl, hb⟩
  have Ba9 := hide (Ba8.out.below hb Ba8.out.lt)
  have By9 := hide (By8.out.below hb By8.out.lt)
  have Bz9 := hide (Bz8.out.below hb Bz8.out.lt)
  have HB9 := hide (HB8.out.trans (hb.mono HB8.out.size))
  clear hb Ba8 By8 Bz8 HB8 ya0 ya1 ya2 ya3 yy0 yy1 yy2 yy3 yz0 yz1 yz2 yz3
  have ya0 : w9.cell? ⟨w.heap.size, 0, none⟩ = some (.int .i64 ca) := Ba9.out.cell 0
  have ya1 : w9.cell? ⟨w.heap.size, 1, none⟩ = some (.bool na) := Ba9.out.cell 1
  have ya2 : w9.cell? ⟨w.heap.size, 2, none⟩ = some (.string ta) := Ba9.out.cell 2
  have ya3 : w9.cell? ⟨w.heap.size, 3, none⟩ = some (.int .i64 ea) := Ba9.out.cell 3
  have yy0 : w9.cell? ⟨w4.heap.size, 0, none⟩ = some (.int .i64 cy) := By9.out.cell 0
  have yy1 : w9.cell? ⟨w4.heap.size, 1, none⟩ = some (.bool ny) := By9.out.cell 1
  have yy2 : w9.cell? ⟨w4.heap.size, 2, none⟩ = some (.string ty) := By9.out.cell 2
  have yy3 : w9.cell? ⟨w4.heap.size, 3, none⟩ = some (.int .i64 ey) := By9.out.cell 3
  have yz0 : w9.cell? ⟨w7.heap.size, 0, none⟩ = some (.int .i64 cy) := Bz9.out.cell 0
  have yz1 : w9.cell? ⟨w7.heap.size, 1, none⟩ = some (.bool ny) := Bz9.out.cell 1
  have yz2 : w9.cell? ⟨w7.heap.size, 2, none⟩ = some (.string ty) := Bz9.out.cell 2
  have yz3 : w9.cell? ⟨w7.heap.size, 3, none⟩ = some (.int .i64 ey) := Bz9.out.cell 3
  go_wp2
  go_ret
  exact ⟨rfl, HB9.out⟩

set_option maxRecDepth 100000 in
set_option maxHeartbeats 4000000 in
theorem back_nn (ca : Int) (na : Bool) (ta : ByteArray) (ea : Int) (s : ByteArray) (g : Int) (hg : g ≠ 0) (w : World) (htab : Tab w) (h1 : ∀ W, Tab W → Calls Tryz.prog 20 #[dcV ca na ta ea] W fun e w' => e = .returned (.tuple #[.string ⟨#[]⟩, .int .i64 52]) ∧ Below W.heap.size W w') (h2 : ∀ W, Calls Tryz.prog 14 #[dcV ca na ta ea] W fun e w' => e = .returned (.bool false) ∧ Below W.heap.size W w') (h4 : ∀ W, Calls Tryz.prog 18 #[.string s] W fun e w' => e = .returned (.tuple #[.agg #[.int .i64 0, .bool false, .string ⟨#[]⟩, .int .i64 0], .int .i64 g]) ∧ Below W.heap.size W w') : Calls Tryz.prog 9 #[dcV ca na ta ea, .string s] w fun e w' => e = .returned (.bool true) ∧ Below w.heap.size w w' := by
  have H1 := hide h1
  have H2 := hide h2
  have H4 := hide h4
  have hg' : (g != 0) = true := by simpa using hg
  clear hg
  have HT := hide htab
  clear htab h1 h2 h4
  have Ba0 := hide (Blk.newAt w (w.heap.size) (rfl) #[.int .i64 ca, .bool na, .string ta, .int .i64 ea] 23)
  have HB0 : Hid (Below w.heap.size w (w.alloc (.cells #[.int .i64 ca, .bool na, .string ta, .int .i64 ea] 23))) := ((Below.refl _ _).alloc (Nat.le_refl _) _)
  go_enter Tryz.func9, Tryz.ntmps9
  go_wp2_with fail
  refine (H1.out _ (HT.out.below HB0.out)).mono ?_
  rintro e w1 ⟨rfl, hb⟩
  have Ba1 := hide (Ba0.out.below hb Ba0.out.lt)
  have HB1 := hide (HB0.out.trans (hb.mono HB0.out.size))
  clear hb Ba0 HB0 
  have ya0 : w1.cell? ⟨w.heap.size, 0, none⟩ = some (.int .i64 ca) := Ba1.out.cell 0
  have ya1 : w1.cell? ⟨w.heap.size, 1, none⟩ = some (.bool na) := Ba1.out.cell 1
  have ya2 : w1.cell? ⟨w.heap.size, 2, none⟩ = some (.string ta) := Ba1.out.cell 2
  have ya3 : w1.cell? ⟨w.heap.size, 3, none⟩ = some (.int .i64 ea) := Ba1.out.cell 3
  go_wp2_with fail
  refine (dawake_any _ (HT.out.below HB1.out)).mono ?_
  rintro e w2 ⟨rfl, hb⟩
  have Ba2 := hide (Ba1.out.below hb Ba1.out.lt)
  have HB2 := hide (HB1.out.trans (hb.mono HB1.out.size))
  clear hb Ba1 HB1 ya0 ya1 ya2 ya3
  have ya0 : w2.cell? ⟨w.heap.size, 0, none⟩ = some (.int .i64 ca) := Ba2.out.cell 0
  have ya1 : w2.cell? ⟨w.heap.size, 1, none⟩ = some (.bool na) := Ba2.out.cell 1
  have ya2 : w2.cell? ⟨w.heap.size, 2, none⟩ = some (.string ta) := Ba2.out.cell 2
  have ya3 : w2.cell? ⟨w.heap.size, 3, none⟩ = some (.int .i64 ea) := Ba2.out.cell 3
  go_wp2_with fail
  refine (H2.out _).mono ?_
  rintro e w3 ⟨rfl, hb⟩
  have Ba3 := hide (Ba2.out.below hb Ba2.out.lt)
  have HB3 := hide (HB2.out.trans (hb.mono HB2.out.size))
  clear hb Ba2 HB2 ya0 ya1 ya2 ya3
  have ya0 : w3.cell? ⟨w.heap.size, 0, none⟩ = some (.int .i64 ca) := Ba3.out.cell 0
  have ya1 : w3.cell? ⟨w.heap.size, 1, none⟩ = some (.bool na) := Ba3.out.cell 1
  have ya2 : w3.cell? ⟨w.heap.size, 2, none⟩ = some (.string ta) := Ba3.out.cell 2
  have ya3 : w3.cell? ⟨w.heap.size, 3, none⟩ = some (.int .i64 ea) := Ba3.out.cell 3
  go_wp2_with fail
  refine (H4.out _).mono ?_
  rintro e w4 ⟨rfl, hb⟩
  have Ba4 := hide (Ba3.out.below hb Ba3.out.lt)
  have HB4 := hide (HB3.out.trans (hb.mono HB3.out.size))
  clear hb Ba3 HB3 ya0 ya1 ya2 ya3
  have ya0 : w4.cell? ⟨w.heap.size, 0, none⟩ = some (.int .i64 ca) := Ba4.out.cell 0
  have ya1 : w4.cell? ⟨w.heap.size, 1, none⟩ = some (.bool na) := Ba4.out.cell 1
  have ya2 : w4.cell? ⟨w.heap.size, 2, none⟩ = some (.string ta) := Ba4.out.cell 2
  have ya3 : w4.cell? ⟨w.heap.size, 3, none⟩ = some (.int .i64 ea) := Ba4.out.cell 3
  have Ba5 := hide ((Ba4.out.alloc (.cells #[.int .i64 0, .bool false, .string ⟨#[]⟩, .int .i64 0] 23)))
  have By5 := hide ((Blk.newAt w4 (w4.heap.size) (rfl) #[.int .i64 0, .bool false, .string ⟨#[]⟩, .int .i64 0] 23))
  have HB5 : Hid (Below w.heap.size w (w4.alloc (.cells #[.int .i64 0, .bool false, .string ⟨#[]⟩, .int .i64 0] 23))) := (HB4.out.alloc HB4.out.size _)
  clear Ba4 HB4 ya0 ya1 ya2 ya3
  have ya0 : (w4.alloc (.cells #[.int .i64 0, .bool false, .string ⟨#[]⟩, .int .i64 0] 23)).cell? ⟨w.heap.size, 0, none⟩ = some (.int .i64 ca) := Ba5.out.cell 0
  have ya1 : (w4.alloc (.cells #[.int .i64 0, .bool false, .string ⟨#[]⟩, .int .i64 0] 23)).cell? ⟨w.heap.size, 1, none⟩ = some (.bool na) := Ba5.out.cell 1
  have ya2 : (w4.alloc (.cells #[.int .i64 0, .bool false, .string ⟨#[]⟩, .int .i64 0] 23)).cell? ⟨w.heap.size, 2, none⟩ = some (.string ta) := Ba5.out.cell 2
  have ya3 : (w4.alloc (.cells #[.int .i64 0, .bool false, .string ⟨#[]⟩, .int .i64 0] 23)).cell? ⟨w.heap.size, 3, none⟩ = some (.int .i64 ea) := Ba5.out.cell 3
  have yy0 : (w4.alloc (.cells #[.int .i64 0, .bool false, .string ⟨#[]⟩, .int .i64 0] 23)).cell? ⟨w4.heap.size, 0, none⟩ = some (.int .i64 0) := By5.out.cell 0
  have yy1 : (w4.alloc (.cells #[.int .i64 0, .bool false, .string ⟨#[]⟩, .int .i64 0] 23)).cell? ⟨w4.heap.size, 1, none⟩ = some (.bool false) := By5.out.cell 1
  have yy2 : (w4.alloc (.cells #[.int .i64 0, .bool false, .string ⟨#[]⟩, .int .i64 0] 23)).cell? ⟨w4.heap.size, 2, none⟩ = some (.string ⟨#[]⟩) := By5.out.cell 2
  have yy3 : (w4.alloc (.cells #[.int .i64 0, .bool false, .string ⟨#[]⟩, .int .i64 0] 23)).cell? ⟨w4.heap.size, 3, none⟩ = some (.int .i64 0) := By5.out.cell 3
  go_wp2
  go_ret
  exact ⟨rfl, HB5.out⟩

theorem pars_mk (l : List UInt8) (d : DecT) (g : Int) (h : parseD l = (d, g)) (hl : l.length ≤ 100000) (W : World) : Calls Tryz.prog 18 #[.string ⟨l.toArray⟩] W fun e w' => e = .returned (.tuple #[decVal d, .int .i64 g]) ∧ Below W.heap.size W w' := by
  have q := Parse_any ⟨l.toArray⟩ W (by rw [size_mk0]; omega)
  rw [bys_mk, h] at q
  exact q

theorem dback_walk (w : World) (htab : Tab w) (ca : Int) (na : Bool) (ta : ByteArray) (ea : Int) (s : ByteArray) (hs : s.size ≤ 140737488355328) : Calls Tryz.prog 9 #[dcV ca na ta ea, .string s] w fun e w' => e = .returned (.bool true) ∧ Below w.heap.size w w' := by
  have P4 := fun W => Parse_any s W hs
  rcases hp : parseD (bys s) with ⟨y, g⟩
  have hy := parseD_may (bys s)
  rw [hp] at hy P4
  simp only at hy
  by_cases h : MayD ca na (bys ta) ea
  · obtain ⟨d, hd⟩ : ∃ d : DecT, d = ⟨ca.toNat, na, bys ta, ea⟩ := ⟨_, rfl⟩
    have md : May d := by rw [hd]; exact mayD_d h
    have ed : dcV ca na ta ea = decVal d := by rw [hd]; exact dcV_d ca na ta ea (mayD_nn h)
    have e1 := fun W hW => Print_d d W md hW
    have e2 := fun W => dmay_yes ca na ta ea W h
    have e3 := fun W => pars_mk (printT d) d 0 (printT_parse d md) (by have := printT_len d md; omega) W
    rw [← ed] at e1 e3
    rcases hy with ⟨rfl, my⟩ | ⟨hg, rfl⟩
    · have f5 := fun W hW => Print_d y W my hW
      have f6 := fun W => pars_mk (printT y) y 0 (printT_parse y my) (by have := printT_len y my; omega) W
      have f7 := fun W => dmay_d_yes y W my
      exact back_yy ca na ta ea s _ _ _ _ _ _ w htab e1 e2 e3 P4 f5 f6 f7
    · exact back_yn ca na ta ea s _ g (by omega) w htab e1 e2 e3 P4
  · have e1 := fun W (_ : Tab W) => Print_no ca na ta ea W h
    have e2 := fun W => dmay_no ca na ta ea W h
    rcases hy with ⟨rfl, my⟩ | ⟨hg, rfl⟩
    · have f5 := fun W hW => Print_d y W my hW
      have f6 := fun W => pars_mk (printT y) y 0 (printT_parse y my) (by have := printT_len y my; omega) W
      have f7 := fun W => dmay_d_yes y W my
      exact back_ny ca na ta ea s _ _ _ _ _ w htab e1 e2 P4 f5 f6 f7
    · exact back_nn ca na ta ea s g (by omega) w htab e1 e2 P4

end Go.Proofs.YtafljhfamjabeaaGreatDoor
