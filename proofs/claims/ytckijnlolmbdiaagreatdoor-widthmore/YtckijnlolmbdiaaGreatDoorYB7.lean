/-
  What round's toMultiple does.
  What round's toMultiple answers of any number that may be.
  What round's At, Digits and Step answer, whatever they are handed.
  Plain data of chapter 7: precisions, what is shown, and what the document says of them.
  What At, Digits and Step answer, case by case.
  Plain facts of what a precision rounds to.
  Variables of three, six and fourteen cells, all cells at once; what is answered by a function that hands back digits that are shown.
-/
import Derived.Test.YtckijnlolmbdiaaGreatDoorYB2
import Derived.Test.YtckijnlolmbdiaaGreatDoorYB6
import Derived.Test.YtckijnlolmbdiaaGreatDoorYB4
import Derived.Deep.RegionHeld3
namespace Go.Proofs.YtckijnlolmbdiaaGreatDoor
open Go.RowKit

set_option maxHeartbeats 1000000 in
theorem mult_nil (ca : Int) (na : Bool) (ea : Int) (nb : Bool) (tb : ByteArray) (eb m : Int) (w : World) : Calls Tryz.prog 41 #[dcV ca na ⟨#[]⟩ ea, dcV 0 nb tb eb, .int .i64 m] w fun e w' => e = .returned (.tuple #[dcV ca na ⟨#[]⟩ ea, .int .i64 0]) ∧ Below w.heap.size w w' := by
  have Ba0 := hide (((Blk.newAt w (w.heap.size) (rfl) #[.int .i64 ca, .bool na, .string ⟨#[]⟩, .int .i64 ea] 23).alloc (.cells #[.int .i64 0, .bool nb, .string tb, .int .i64 eb] 23)).alloc (.cells #[.int .i64 0, .bool false, .string ⟨#[]⟩, .int .i64 0] 23))
  have Bb0 := hide ((Blk.newAt (w.alloc (.cells #[.int .i64 ca, .bool na, .string ⟨#[]⟩, .int .i64 ea] 23)) (w.heap.size + 1) (by simp) #[.int .i64 0, .bool nb, .string tb, .int .i64 eb] 23).alloc (.cells #[.int .i64 0, .bool false, .string ⟨#[]⟩, .int .i64 0] 23))
  have Br0 := hide (Blk.newAt ((w.alloc (.cells #[.int .i64 ca, .bool na, .string ⟨#[]⟩, .int .i64 ea] 23)).alloc (.cells #[.int .i64 0, .bool nb, .string tb, .int .i64 eb] 23)) (w.heap.size + 1 + 1) (by simp) #[.int .i64 0, .bool false, .string ⟨#[]⟩, .int .i64 0] 23)
  have HB0 : Hid (Below w.heap.size w (((w.alloc (.cells #[.int .i64 ca, .bool na, .string ⟨#[]⟩, .int .i64 ea] 23)).alloc (.cells #[.int .i64 0, .bool nb, .string tb, .int .i64 eb] 23)).alloc (.cells #[.int .i64 0, .bool false, .string ⟨#[]⟩, .int .i64 0] 23))) := ((((Below.refl _ _).alloc (Nat.le_refl _) _).alloc (by simp <;> omega) _).alloc (by simp <;> omega) _)
  go_enter Tryz.func41, Tryz.ntmps41
  go_wp2
  refine bodyPost_ret (results_dec2 rfl _ _ _ _ _ _ _ rfl (Blk.newAt _ _ (by simp) _ _)) rfl ?_
  exact ⟨rfl, (((Below.refl _ _).alloc (Nat.le_refl _) _).alloc (by simp) _).alloc (by simp; omega) _⟩

theorem nt_divs (a b : Value) (x y : Nat) (w : World) (ha : Nt w a x) (hb : Nt w b y) (hx : Sm x) (hy : Sm y) (h0 : y ≠ 0) : Calls Tryz.prog 81 #[a, b] w fun e w' => ∃ o l c o' l' c', e = .returned (.tuple #[.slice o l c, .slice o' l' c', .int .i64 0]) ∧ Hid (Nt w' (.slice o l c) (x / y)) ∧ Hid (Nt w' (.slice o' l' c') (x % y)) ∧ Below w.heap.size w w' := by
  refine (nt_div a b x y w ha hb hx hy h0).mono ?_
  rintro e w' ⟨v1, v2, rfl, ⟨o, c, xs, rfl, h1⟩, ⟨o', c', ys, rfl, h2⟩, hb⟩
  exact ⟨o, xs.length, c, o', ys.length, c', rfl, ⟨o, c, xs, rfl, h1⟩, ⟨o', c', ys, rfl, h2⟩, hb⟩

theorem nt_len {w : World} {o : Option Addr} {l c n : Nat} (h : Nt w (.slice o l c) n) : (l = 0 ↔ n = 0) := by
  obtain ⟨o', c', xs, he, _, _, _, h4⟩ := h
  cases he
  constructor
  · intro h
    have := List.length_eq_zero_iff.1 h
    subst this
    exact h4.2.2.symm
  · rintro rfl
    rw [num_zero (by decide) h4.2.1 h4.2.2]
    rfl

theorem sm_one : Sm 1 := Sm.of (k := 1) (by decide) (by omega)
theorem sm_succ {a b : Nat} (h : a ≤ b) (hb : Sm (b + 1)) : Sm (a + 1) := Nat.lt_of_le_of_lt (Nat.succ_le_succ h) hb

theorem nt_ofs (w : World) : Calls Tryz.prog 86 #[.int .u64 1] w fun e w' => ∃ o l c, e = .returned (.slice o l c) ∧ Hid (Nt w' (.slice o l c) 1) ∧ Below w.heap.size w w' := by
  refine (nt_of 1 w (by decide)).mono ?_
  rintro e w' ⟨v, rfl, ⟨o, c, xs, rfl, h⟩, hb, _⟩
  exact ⟨o, xs.length, c, rfl, ⟨o, c, xs, rfl, h⟩, hb⟩

set_option maxHeartbeats 2000000 in
theorem mult_exact (ca : Int) (na : Bool) (ta : ByteArray) (ea : Int) (nb : Bool) (tb : ByteArray) (eb m : Int) (A U : Nat) (w : World) (h0 : ta.size ≠ 0) (ca' : ∀ W, Calls Tryz.prog 80 #[dcV ca na ta ea, .int .i64 (min ea eb)] W fun e w' => ∃ o l c, e = .returned (.slice o l c) ∧ Hid (Nt w' (.slice o l c) A) ∧ Below W.heap.size W w') (cb' : ∀ W, Calls Tryz.prog 80 #[dcV 0 nb tb eb, .int .i64 (min ea eb)] W fun e w' => ∃ o l c, e = .returned (.slice o l c) ∧ Hid (Nt w' (.slice o l c) U) ∧ Below W.heap.size W w') (sA : Sm A) (sU : Sm U) (hU : U ≠ 0) (hm : A % U = 0) : Calls Tryz.prog 41 #[dcV ca na ta ea, dcV 0 nb tb eb, .int .i64 m] w fun e w' => e = .returned (.tuple #[dcV ca na ta ea, .int .i64 0]) ∧ Below w.heap.size w w' := by
  have CCA := hide ca'
  have CCB := hide cb'
  have h2 := toList_ne h0
  obtain ⟨x, hx⟩ : ∃ x, x = min ea eb := ⟨_, rfl⟩
  have HX := hide hx
  rw [← hx] at CCA CCB
  have SA := hide sA
  have SU := hide sU
  have HU := hide hU
  have HM := hide hm
  clear hm ca' cb' hx sA sU hU h0
  have Ba0 := hide (((Blk.newAt w (w.heap.size) (rfl) #[.int .i64 ca, .bool na, .string ta, .int .i64 ea] 23).alloc (.cells #[.int .i64 0, .bool nb, .string tb, .int .i64 eb] 23)).alloc (.cells #[.int .i64 0, .bool false, .string ⟨#[]⟩, .int .i64 0] 23))
  have Bb0 := hide ((Blk.newAt (w.alloc (.cells #[.int .i64 ca, .bool na, .string ta, .int .i64 ea] 23)) (w.heap.size + 1) (by simp) #[.int .i64 0, .bool nb, .string tb, .int .i64 eb] 23).alloc (.cells #[.int .i64 0, .bool false, .string ⟨#[]⟩, .int .i64 0] 23))
  have Br0 := hide (Blk.newAt ((w.alloc (.cells #[.int .i64 ca, .bool na, .string ta, .int .i64 ea] 23)).alloc (.cells #[.int .i64 0, .bool nb, .string tb, .int .i64 eb] 23)) (w.heap.size + 1 + 1) (by simp) #[.int .i64 0, .bool false, .string ⟨#[]⟩, .int .i64 0] 23)
  have HB0 : Hid (Below w.heap.size w (((w.alloc (.cells #[.int .i64 ca, .bool na, .string ta, .int .i64 ea] 23)).alloc (.cells #[.int .i64 0, .bool nb, .string tb, .int .i64 eb] 23)).alloc (.cells #[.int .i64 0, .bool false, .string ⟨#[]⟩, .int .i64 0] 23))) := ((((Below.refl _ _).alloc (Nat.le_refl _) _).alloc (by simp <;> omega) _).alloc (by simp <;> omega) _)
  go_enter Tryz.func41, Tryz.ntmps41
  go_wp2_with fail
  simp only [← HX.out]
  refine (CCB.out _).mono ?_
  rintro e w1 ⟨o1, l1, c1, rfl, Z1, hb⟩
  have Ba1 := hide (Ba0.out.below hb Ba0.out.lt)
  have Bb1 := hide (Bb0.out.below hb Bb0.out.lt)
  have Br1 := hide (Br0.out.below hb Br0.out.lt)
  have HB1 := hide (HB0.out.trans (hb.mono HB0.out.size))
  clear hb Ba0 Bb0 Br0 HB0 
  obtain ⟨ya0, ya1, ya2, ya3⟩ := Ba1.out.four
  obtain ⟨yb0, yb1, yb2, yb3⟩ := Bb1.out.four
  obtain ⟨yr0, yr1, yr2, yr3⟩ := Br1.out.four
  go_wp2_with fail
  refine (CCA.out _).mono ?_
  rintro e w2 ⟨o2, l2, c2, rfl, Z2, hb⟩
  have Y1 := hide (Z1.out.below hb)
  clear Z1
  have Ba2 := hide (Ba1.out.below hb Ba1.out.lt)
  have Bb2 := hide (Bb1.out.below hb Bb1.out.lt)
  have Br2 := hide (Br1.out.below hb Br1.out.lt)
  have HB2 := hide (HB1.out.trans (hb.mono HB1.out.size))
  clear hb Ba1 Bb1 Br1 HB1 ya0 ya1 ya2 ya3 yb0 yb1 yb2 yb3 yr0 yr1 yr2 yr3
  obtain ⟨ya0, ya1, ya2, ya3⟩ := Ba2.out.four
  obtain ⟨yb0, yb1, yb2, yb3⟩ := Bb2.out.four
  obtain ⟨yr0, yr1, yr2, yr3⟩ := Br2.out.four
  have DM := hide (nt_divs _ _ _ _ w2 Z2.out Y1.out SA.out SU.out HU.out)
  go_wp2_with fail
  refine (DM.out).mono ?_
  rintro e w3 ⟨o3, l3, c3, o4, l4, c4, rfl, ZQ, ZR, hb⟩
  have Z1 := hide (Y1.out.below hb)
  clear Y1 Z2 DM
  have Ba3 := hide (Ba2.out.below hb Ba2.out.lt)
  have Bb3 := hide (Bb2.out.below hb Bb2.out.lt)
  have Br3 := hide (Br2.out.below hb Br2.out.lt)
  have HB3 := hide (HB2.out.trans (hb.mono HB2.out.size))
  clear hb Ba2 Bb2 Br2 HB2 ya0 ya1 ya2 ya3 yb0 yb1 yb2 yb3 yr0 yr1 yr2 yr3
  obtain ⟨ya0, ya1, ya2, ya3⟩ := Ba3.out.four
  obtain ⟨yb0, yb1, yb2, yb3⟩ := Bb3.out.four
  obtain ⟨yr0, yr1, yr2, yr3⟩ := Br3.out.four
  obtain rfl := (nt_len ZR.out).2 HM.out
  have fr0 := Br3.out.free 0
  have fr1 := Br3.out.free 1
  have fr2 := Br3.out.free 2
  have fr3 := Br3.out.free 3
  go_wp2
  refine bodyPost_ret (results_dec2 rfl _ _ _ _ _ _ _ rfl (Br3.out.put4 _ _ _ _)) rfl ?_
  exact ⟨rfl, below_put4 (HB3.out) (by omega) _ _ _ _⟩

set_option maxHeartbeats 4000000 in
theorem mult_up (ca : Int) (na : Bool) (ta : ByteArray) (ea : Int) (nb : Bool) (tb : ByteArray) (eb m : Int) (A U : Nat) (w : World) (h0 : ta.size ≠ 0) (ca' : ∀ W, Calls Tryz.prog 80 #[dcV ca na ta ea, .int .i64 (min ea eb)] W fun e w' => ∃ o l c, e = .returned (.slice o l c) ∧ Hid (Nt w' (.slice o l c) A) ∧ Below W.heap.size W w') (cb' : ∀ W, Calls Tryz.prog 80 #[dcV 0 nb tb eb, .int .i64 (min ea eb)] W fun e w' => ∃ o l c, e = .returned (.slice o l c) ∧ Hid (Nt w' (.slice o l c) U) ∧ Below W.heap.size W w') (sA : Sm A) (sU : Sm U) (hU : U ≠ 0) (hm : A % U ≠ 0) (sR : Sm (A % U + A % U)) (f : Nat) (hf : ∀ args w, (callFunc f args).run Tryz.prog w = .ok (.enter f args) w) (lv : ∀ W, Calls Tryz.prog 82 #[.int .i64 m] W fun e w' => e = .returned (.func (.func f) #[.int .i64 m] #[]) ∧ Below W.heap.size W w') (md : ∀ W, Calls Tryz.prog f #[.int .i64 m, .agg #[.bool na, .bool (decide (A / U % 2 = 1)), .int .i64 (cmpN (A % U + A % U) U)]] W fun e w' => e = .returned (.bool true) ∧ Below W.heap.size W w')
    (N : Nat) (sN : Sm N) (du : ∀ W, Calls Tryz.prog 89 #[dcV 0 nb tb eb] W fun e w' => ∃ o l c, e = .returned (.slice o l c) ∧ Hid (Nt w' (.slice o l c) N) ∧ Below W.heap.size W w') (htab : Tab w) (hsz : (Lib.decDigits ((A / U + 1) * N)).length ≤ 100000) (hxb : -10000 ≤ eb ∧ eb ≤ 10000) (sA1 : Sm (A + 1)) : Calls Tryz.prog 41 #[dcV ca na ta ea, dcV 0 nb tb eb, .int .i64 m] w fun e w' => e = .returned (decErr (tellF na ((A / U + 1) * N) eb)) ∧ Below w.heap.size w w' := by
  have CCA := hide ca'
  have CCB := hide cb'
  have h2 := toList_ne h0
  obtain ⟨x, hx⟩ : ∃ x, x = min ea eb := ⟨_, rfl⟩
  have HX := hide hx
  rw [← hx] at CCA CCB
  have SA := hide sA
  have SU := hide sU
  have HU := hide hU
  have HM := hide hm
  have LV := hide lv
  have SR := hide sR
  have SR1 : Hid (Sm (A % U)) := Nat.lt_trans (Nat.mod_lt _ (Nat.pos_of_ne_zero hU)) sU
  obtain ⟨od, hod⟩ : ∃ od, od = decide (A / U % 2 = 1) := ⟨_, rfl⟩
  obtain ⟨hv, hhv⟩ : ∃ hv, hv = cmpN (A % U + A % U) U := ⟨_, rfl⟩
  rw [← hod, ← hhv] at md
  have MD := hide md
  have HOD := hide hod
  have HHV := hide hhv.symm
  have SQ : Hid (Sm (A / U)) := Nat.lt_of_le_of_lt (Nat.div_le_self _ _) sA
  have SC : Hid (Sm (A / U + 1)) := sm_succ (Nat.div_le_self _ _) sA1
  have SM1 : Hid (Sm 1) := sm_one
  have SN := hide sN
  have DU := hide du
  have HT := hide htab
  obtain ⟨T, hT⟩ : ∃ T : ByteArray, T = ⟨(Lib.decDigits ((A / U + 1) * N)).toArray⟩ := ⟨_, rfl⟩
  have HTT := hide hT
  have hTb : bys T = Lib.decDigits ((A / U + 1) * N) := by rw [hT, bys_mk]
  have hTs : T.size = (Lib.decDigits ((A / U + 1) * N)).length := by rw [hT, size_mk0]
  have FG := fun (X : World) => fin_any na T eb X (by rw [hTs]; omega) (by omega) (by omega) (by rw [hTb]; exact (dd_okT _).2.2)
  rw [hTb, dd_val] at FG
  rcases hTF : tellF na ((A / U + 1) * N) eb with ⟨⟨cc, nn, ll, ee⟩, er⟩
  rw [hTF] at FG
  unfold decErr decVal at FG ⊢
  simp only at FG ⊢
  obtain ⟨D, hD⟩ : ∃ D : ByteArray, D = ⟨ll.toArray⟩ := ⟨_, rfl⟩
  rw [← hD] at FG ⊢
  have FI := hide FG
  clear FG hT hTb hTs hTF hD hsz hxb sN du htab sA1
  clear hod hhv hm lv md sR ca' cb' hx sA sU hU h0
  have Ba0 := hide (((Blk.newAt w (w.heap.size) (rfl) #[.int .i64 ca, .bool na, .string ta, .int .i64 ea] 23).alloc (.cells #[.int .i64 0, .bool nb, .string tb, .int .i64 eb] 23)).alloc (.cells #[.int .i64 0, .bool false, .string ⟨#[]⟩, .int .i64 0] 23))
  have Bb0 := hide ((Blk.newAt (w.alloc (.cells #[.int .i64 ca, .bool na, .string ta, .int .i64 ea] 23)) (w.heap.size + 1) (by simp) #[.int .i64 0, .bool nb, .string tb, .int .i64 eb] 23).alloc (.cells #[.int .i64 0, .bool false, .string ⟨#[]⟩, .int .i64 0] 23))
  have Br0 := hide (Blk.newAt ((w.alloc (.cells #[.int .i64 ca, .bool na, .string ta, .int .i64 ea] 23)).alloc (.cells #[.int .i64 0, .bool nb, .string tb, .int .i64 eb] 23)) (w.heap.size + 1 + 1) (by simp) #[.int .i64 0, .bool false, .string ⟨#[]⟩, .int .i64 0] 23)
  have HB0 : Hid (Below w.heap.size w (((w.alloc (.cells #[.int .i64 ca, .bool na, .string ta, .int .i64 ea] 23)).alloc (.cells #[.int .i64 0, .bool nb, .string tb, .int .i64 eb] 23)).alloc (.cells #[.int .i64 0, .bool false, .string ⟨#[]⟩, .int .i64 0] 23))) := ((((Below.refl _ _).alloc (Nat.le_refl _) _).alloc (by simp <;> omega) _).alloc (by simp <;> omega) _)
  go_enter Tryz.func41, Tryz.ntmps41
  go_wp2_with fail
  simp only [← HX.out]
  refine (CCB.out _).mono ?_
  rintro e w1 ⟨o1, l1, c1, rfl, Z1, hb⟩
  have Ba1 := hide (Ba0.out.below hb Ba0.out.lt)
  have Bb1 := hide (Bb0.out.below hb Bb0.out.lt)
  have Br1 := hide (Br0.out.below hb Br0.out.lt)
  have HB1 := hide (HB0.out.trans (hb.mono HB0.out.size))
  clear hb Ba0 Bb0 Br0 HB0 
  obtain ⟨ya0, ya1, ya2, ya3⟩ := Ba1.out.four
  obtain ⟨yb0, yb1, yb2, yb3⟩ := Bb1.out.four
  obtain ⟨yr0, yr1, yr2, yr3⟩ := Br1.out.four
  go_wp2_with fail
  refine (CCA.out _).mono ?_
  rintro e w2 ⟨o2, l2, c2, rfl, Z2, hb⟩
  have Y1 := hide (Z1.out.below hb)
  clear Z1
  have Ba2 := hide (Ba1.out.below hb Ba1.out.lt)
  have Bb2 := hide (Bb1.out.below hb Bb1.out.lt)
  have Br2 := hide (Br1.out.below hb Br1.out.lt)
  have HB2 := hide (HB1.out.trans (hb.mono HB1.out.size))
  clear hb Ba1 Bb1 Br1 HB1 ya0 ya1 ya2 ya3 yb0 yb1 yb2 yb3 yr0 yr1 yr2 yr3
  obtain ⟨ya0, ya1, ya2, ya3⟩ := Ba2.out.four
  obtain ⟨yb0, yb1, yb2, yb3⟩ := Bb2.out.four
  obtain ⟨yr0, yr1, yr2, yr3⟩ := Br2.out.four
  have DM := hide (nt_divs _ _ _ _ w2 Z2.out Y1.out SA.out SU.out HU.out)
  go_wp2_with fail
  refine (DM.out).mono ?_
  rintro e w3 ⟨o3, l3, c3, o4, l4, c4, rfl, ZQ, ZR, hb⟩
  have Z1 := hide (Y1.out.below hb)
  clear Y1 Z2 DM
  have Ba3 := hide (Ba2.out.below hb Ba2.out.lt)
  have Bb3 := hide (Bb2.out.below hb Bb2.out.lt)
  have Br3 := hide (Br2.out.below hb Br2.out.lt)
  have HB3 := hide (HB2.out.trans (hb.mono HB2.out.size))
  clear hb Ba2 Bb2 Br2 HB2 ya0 ya1 ya2 ya3 yb0 yb1 yb2 yb3 yr0 yr1 yr2 yr3
  obtain ⟨ya0, ya1, ya2, ya3⟩ := Ba3.out.four
  obtain ⟨yb0, yb1, yb2, yb3⟩ := Bb3.out.four
  obtain ⟨yr0, yr1, yr2, yr3⟩ := Br3.out.four
  have hl4 : l4 ≠ 0 := fun h => HM.out ((nt_len ZR.out).1 h)
  have hl5 : ((l4 : Int) == 0) = false := by
    have : (l4 : Int) ≠ 0 := by omega
    simpa using this
  clear hl4
  go_wp2_with fail
  refine (LV.out _).mono ?_
  rintro e w4 ⟨rfl, hb⟩
  have Y1 := hide (Z1.out.below hb)
  have YQ := hide (ZQ.out.below hb)
  have YR := hide (ZR.out.below hb)
  clear Z1 ZQ ZR
  have Ba4 := hide (Ba3.out.below hb Ba3.out.lt)
  have Bb4 := hide (Bb3.out.below hb Bb3.out.lt)
  have Br4 := hide (Br3.out.below hb Br3.out.lt)
  have HB4 := hide (HB3.out.trans (hb.mono HB3.out.size))
  clear hb Ba3 Bb3 Br3 HB3 ya0 ya1 ya2 ya3 yb0 yb1 yb2 yb3 yr0 yr1 yr2 yr3
  obtain ⟨ya0, ya1, ya2, ya3⟩ := Ba4.out.four
  obtain ⟨yb0, yb1, yb2, yb3⟩ := Bb4.out.four
  obtain ⟨yr0, yr1, yr2, yr3⟩ := Br4.out.four
  have b0 : Hid (Below w4.heap.size w4 w4.drew) := bdrewD w4
  have C0 : Hid (∀ X, Hid (Below w4.heap.size w4 X) → Calls Tryz.prog 83 #[.slice o3 l3 c3] X fun e w' => e = .returned (.bool od) ∧ Hid (Below w4.heap.size w4 w') ∧ w'.cell? ⟨w.heap.size, 1, none⟩ = some (.bool na)) := by
    intro X bX
    refine (isOdd_any o3 l3 c3 _ X (YQ.out.below bX.out)).mono ?_
    rintro e w' ⟨rfl, hb⟩
    have bb := bX.out.trans (hb.mono bX.out.size)
    have Baq := Ba4.out.below bb Ba4.out.lt
    exact ⟨by rw [HOD.out], bb, Baq.cell 1⟩
  have C1 : Hid (∀ X, Hid (Below w4.heap.size w4 X) → Calls Tryz.prog 85 #[.slice o4 l4 c4, .slice o4 l4 c4] X fun e w' => (∃ o l c, e = .returned (.slice o l c) ∧ Hid (Nt w' (.slice o l c) (A % U + A % U))) ∧ Hid (Below w4.heap.size w4 w') ∧ w'.cell? ⟨w.heap.size, 1, none⟩ = some (.bool na)) := by
    intro X bX
    refine (nt_adds _ _ _ _ X (YR.out.below bX.out) (YR.out.below bX.out) SR1.out SR1.out).mono ?_
    rintro e w' ⟨o, l, c, rfl, hz, hb⟩
    have bb := bX.out.trans (hb.mono bX.out.size)
    have Baq := Ba4.out.below bb Ba4.out.lt
    exact ⟨⟨o, l, c, rfl, hz⟩, bb, Baq.cell 1⟩
  have C2 : Hid (∀ X (o : Option Addr) (l c : Nat), Hid (Below w4.heap.size w4 X) → Nt X (.slice o l c) (A % U + A % U) → Calls Tryz.prog 84 #[.slice o l c, .slice o1 l1 c1] X fun e w' => e = .returned (.int .i64 hv) ∧ Hid (Below w4.heap.size w4 w') ∧ w'.cell? ⟨w.heap.size, 1, none⟩ = some (.bool na)) := by
    intro X o l c bX hz
    refine (nt_cmp _ _ _ _ hv X hz (Y1.out.below bX.out) SR.out SU.out HHV.out).mono ?_
    rintro e w' ⟨rfl, hb⟩
    have bb := bX.out.trans (hb.mono bX.out.size)
    have Baq := Ba4.out.below bb Ba4.out.lt
    exact ⟨rfl, bb, Baq.cell 1⟩
  have C3 : Hid (∀ X, Hid (Below w4.heap.size w4 X) → Calls Tryz.prog f #[.int .i64 m, .agg #[.bool na, .bool od, .int .i64 hv]] X fun e w' => e = .returned (.bool true) ∧ Hid (Below w4.heap.size w4 w') ∧ w'.cell? ⟨w.heap.size, 1, none⟩ = some (.bool na)) := by
    intro X bX
    refine (MD.out X).mono ?_
    rintro e w' ⟨rfl, hb⟩
    have bb := bX.out.trans (hb.mono bX.out.size)
    have Baq := Ba4.out.below bb Ba4.out.lt
    exact ⟨rfl, bb, Baq.cell 1⟩
  go_wp2_with fail
  have mk0 : True := trivial
  go_region_held3 (fun w' => w'.cell? ⟨w.heap.size, 1, none⟩ = some (.bool na)) (go_keep) (first
    | (clear mk0; go_at_call 83; refine (C0.out _ b0).mono ?_; rintro e w5 ⟨rfl, b1, q0⟩; have mk1 : True := trivial)
    | (clear mk1; go_at_call 85; refine (C1.out _ b1).mono ?_; rintro e w6 ⟨⟨o5, l5, c5, rfl, Z5⟩, b2, q1⟩; have mk2 : True := trivial)
    | (clear mk2; go_at_call 84; refine (C2.out _ _ _ _ b2 Z5.out).mono ?_; rintro e w7 ⟨rfl, b3, q2⟩; have mk3 : True := trivial)
    | (clear mk3; with_reducible refine (C3.out _ b3).mono ?_; rintro e w8 ⟨rfl, b4, q3⟩; have mk4 : True := trivial))
  have Ba8 := hide (Ba4.out.below b4.out Ba4.out.lt)
  have Bb8 := hide (Bb4.out.below b4.out Bb4.out.lt)
  have Br8 := hide (Br4.out.below b4.out Br4.out.lt)
  have HB8 := hide (HB4.out.trans (b4.out.mono HB4.out.size))
  have YQ8 := hide (YQ.out.below b4.out)
  clear mk4 b0 b1 b2 b3 b4 q0 q1 q2 q3 Z5 C0 C1 C2 C3 Ba4 Bb4 Br4 HB4 YQ YR Y1 SR SR1 SU MD HOD HHV hl5 ya0 ya1 ya2 ya3 yb0 yb1 yb2 yb3 yr0 yr1 yr2 yr3
  obtain ⟨ya0, ya1, ya2, ya3⟩ := Ba8.out.four
  obtain ⟨yb0, yb1, yb2, yb3⟩ := Bb8.out.four
  obtain ⟨yr0, yr1, yr2, yr3⟩ := Br8.out.four
  have OF := hide (fun W => nt_ofs W)
  go_wp2_with fail
  refine (OF.out _).mono ?_
  rintro e w9 ⟨o6, l6, c6, rfl, Z6, hb⟩
  have YQ9 := hide (YQ8.out.below hb)
  clear YQ8 OF
  have Ba9 := hide (Ba8.out.below hb Ba8.out.lt)
  have Bb9 := hide (Bb8.out.below hb Bb8.out.lt)
  have Br9 := hide (Br8.out.below hb Br8.out.lt)
  have HB9 := hide (HB8.out.trans (hb.mono HB8.out.size))
  clear hb Ba8 Bb8 Br8 HB8 ya0 ya1 ya2 ya3 yb0 yb1 yb2 yb3 yr0 yr1 yr2 yr3
  obtain ⟨ya0, ya1, ya2, ya3⟩ := Ba9.out.four
  obtain ⟨yb0, yb1, yb2, yb3⟩ := Bb9.out.four
  obtain ⟨yr0, yr1, yr2, yr3⟩ := Br9.out.four
  have AD := hide (nt_adds _ _ _ _ w9 YQ9.out Z6.out SQ.out SM1.out)
  clear YQ9 Z6
  go_wp2_with fail
  refine (AD.out).mono ?_
  rintro e w10 ⟨o7, l7, c7, rfl, Z7, hb⟩
  clear AD
  have Ba10 := hide (Ba9.out.below hb Ba9.out.lt)
  have Bb10 := hide (Bb9.out.below hb Bb9.out.lt)
  have Br10 := hide (Br9.out.below hb Br9.out.lt)
  have HB10 := hide (HB9.out.trans (hb.mono HB9.out.size))
  clear hb Ba9 Bb9 Br9 HB9 ya0 ya1 ya2 ya3 yb0 yb1 yb2 yb3 yr0 yr1 yr2 yr3
  obtain ⟨ya0, ya1, ya2, ya3⟩ := Ba10.out.four
  obtain ⟨yb0, yb1, yb2, yb3⟩ := Bb10.out.four
  obtain ⟨yr0, yr1, yr2, yr3⟩ := Br10.out.four
  have HL : Hid (w.heap.size < w10.heap.size ∧ w.heap.size + 1 < w10.heap.size ∧ w.heap.size + 1 + 1 < w10.heap.size) := ⟨Ba10.out.lt, Bb10.out.lt, Br10.out.lt⟩
  have HTC := hide (HT.out.below HB10.out)
  obtain ⟨G, hG⟩ : ∃ G, G = w.heap.size + 1 + 1 := ⟨_, rfl⟩
  have gn1 : ¬ G = w.heap.size := by omega
  have gn2 : ¬ w.heap.size = G := by omega
  have gn3 : ¬ G = w.heap.size + 1 := by omega
  have gn4 : ¬ w.heap.size + 1 = G := by omega
  have gle : w.heap.size ≤ G := by omega
  have HG := hide hG
  rw [← hG] at Br10
  clear hG HL HT ya0 ya1 ya2 ya3 yb0 yb1 yb2 yb3 yr0 yr1 yr2 yr3
  have d0 : w10.cell? ⟨w.heap.size, 1, none⟩ = some (.bool na) := Ba10.out.cell 1
  have d1 : w10.cell? ⟨w.heap.size + 1, 0, none⟩ = some (.int .i64 0) := Bb10.out.cell 0
  have d2 : w10.cell? ⟨w.heap.size + 1, 1, none⟩ = some (.bool nb) := Bb10.out.cell 1
  have d3 : w10.cell? ⟨w.heap.size + 1, 2, none⟩ = some (.string tb) := Bb10.out.cell 2
  have d4 : w10.cell? ⟨w.heap.size + 1, 3, none⟩ = some (.int .i64 eb) := Bb10.out.cell 3
  have HC : Hid (∀ w', Below w10.heap.size w10 w' → w'.cell? ⟨w.heap.size, 1, none⟩ = some (.bool na) ∧ w'.cell? ⟨w.heap.size + 1, 0, none⟩ = some (.int .i64 0) ∧ w'.cell? ⟨w.heap.size + 1, 1, none⟩ = some (.bool nb) ∧ w'.cell? ⟨w.heap.size + 1, 2, none⟩ = some (.string tb) ∧ w'.cell? ⟨w.heap.size + 1, 3, none⟩ = some (.int .i64 eb) ∧ w'.cell? ⟨G, 0, none⟩ = some (.int .i64 0) ∧ w'.cell? ⟨G, 1, none⟩ = some (.bool false) ∧ w'.cell? ⟨G, 2, none⟩ = some (.string ⟨#[]⟩) ∧ w'.cell? ⟨G, 3, none⟩ = some (.int .i64 0) ∧ w'.frozen? ⟨G, 0, none⟩ = false ∧ w'.frozen? ⟨G, 1, none⟩ = false ∧ w'.frozen? ⟨G, 2, none⟩ = false ∧ w'.frozen? ⟨G, 3, none⟩ = false) := by
    intro w' hb
    have Ba10q := Ba10.out.below hb Ba10.out.lt
    have Bb10q := Bb10.out.below hb Bb10.out.lt
    have Br10q := Br10.out.below hb Br10.out.lt
    exact ⟨Ba10q.cell 1, Bb10q.cell 0, Bb10q.cell 1, Bb10q.cell 2, Bb10q.cell 3, Br10q.cell 0, Br10q.cell 1, Br10q.cell 2, Br10q.cell 3, Br10q.free 0, Br10q.free 1, Br10q.free 2, Br10q.free 3⟩
  have b0 : Hid (Below w10.heap.size w10 w10.drew) := bdrewD w10
  have C0 : Hid (∀ X, Hid (Below w10.heap.size w10 X) → Calls Tryz.prog 89 #[dcV 0 nb tb eb] X fun e w' => (∃ o l c, e = .returned (.slice o l c) ∧ Hid (Nt w' (.slice o l c) N)) ∧ Hid (Below w10.heap.size w10 w') ∧ w'.cell? ⟨w.heap.size, 1, none⟩ = some (.bool na) ∧ w'.cell? ⟨w.heap.size + 1, 0, none⟩ = some (.int .i64 0) ∧ w'.cell? ⟨w.heap.size + 1, 1, none⟩ = some (.bool nb) ∧ w'.cell? ⟨w.heap.size + 1, 2, none⟩ = some (.string tb) ∧ w'.cell? ⟨w.heap.size + 1, 3, none⟩ = some (.int .i64 eb) ∧ w'.cell? ⟨G, 0, none⟩ = some (.int .i64 0) ∧ w'.cell? ⟨G, 1, none⟩ = some (.bool false) ∧ w'.cell? ⟨G, 2, none⟩ = some (.string ⟨#[]⟩) ∧ w'.cell? ⟨G, 3, none⟩ = some (.int .i64 0) ∧ w'.frozen? ⟨G, 0, none⟩ = false ∧ w'.frozen? ⟨G, 1, none⟩ = false ∧ w'.frozen? ⟨G, 2, none⟩ = false ∧ w'.frozen? ⟨G, 3, none⟩ = false) := by
    intro X bX
    refine (DU.out X).mono ?_
    rintro e w' ⟨o, l, c, rfl, hz, hb⟩
    have bb := bX.out.trans (hb.mono bX.out.size)
    exact ⟨⟨o, l, c, rfl, hz⟩, bb, HC.out _ bb⟩
  have C1 : Hid (∀ X (o : Option Addr) (l c : Nat), Hid (Below w10.heap.size w10 X) → Nt X (.slice o l c) N → Calls Tryz.prog 88 #[.slice o7 l7 c7, .slice o l c] X fun e w' => (∃ o l c, e = .returned (.slice o l c) ∧ Hid (Nt w' (.slice o l c) ((A / U + 1) * N))) ∧ Hid (Below w10.heap.size w10 w') ∧ w'.cell? ⟨w.heap.size, 1, none⟩ = some (.bool na) ∧ w'.cell? ⟨w.heap.size + 1, 0, none⟩ = some (.int .i64 0) ∧ w'.cell? ⟨w.heap.size + 1, 1, none⟩ = some (.bool nb) ∧ w'.cell? ⟨w.heap.size + 1, 2, none⟩ = some (.string tb) ∧ w'.cell? ⟨w.heap.size + 1, 3, none⟩ = some (.int .i64 eb) ∧ w'.cell? ⟨G, 0, none⟩ = some (.int .i64 0) ∧ w'.cell? ⟨G, 1, none⟩ = some (.bool false) ∧ w'.cell? ⟨G, 2, none⟩ = some (.string ⟨#[]⟩) ∧ w'.cell? ⟨G, 3, none⟩ = some (.int .i64 0) ∧ w'.frozen? ⟨G, 0, none⟩ = false ∧ w'.frozen? ⟨G, 1, none⟩ = false ∧ w'.frozen? ⟨G, 2, none⟩ = false ∧ w'.frozen? ⟨G, 3, none⟩ = false) := by
    intro X o l c bX hz
    refine (nt_muls _ _ _ _ X (Z7.out.below bX.out) hz SC.out SN.out).mono ?_
    rintro e w' ⟨o, l, c, rfl, hz, hb⟩
    have bb := bX.out.trans (hb.mono bX.out.size)
    exact ⟨⟨o, l, c, rfl, hz⟩, bb, HC.out _ bb⟩
  have C2 : Hid (∀ X (o : Option Addr) (l c : Nat), Hid (Below w10.heap.size w10 X) → Nt X (.slice o l c) ((A / U + 1) * N) → Calls Tryz.prog 87 #[.slice o l c] X fun e w' => e = .returned (.string T) ∧ Hid (Below w10.heap.size w10 w') ∧ w'.cell? ⟨w.heap.size, 1, none⟩ = some (.bool na) ∧ w'.cell? ⟨w.heap.size + 1, 0, none⟩ = some (.int .i64 0) ∧ w'.cell? ⟨w.heap.size + 1, 1, none⟩ = some (.bool nb) ∧ w'.cell? ⟨w.heap.size + 1, 2, none⟩ = some (.string tb) ∧ w'.cell? ⟨w.heap.size + 1, 3, none⟩ = some (.int .i64 eb) ∧ w'.cell? ⟨G, 0, none⟩ = some (.int .i64 0) ∧ w'.cell? ⟨G, 1, none⟩ = some (.bool false) ∧ w'.cell? ⟨G, 2, none⟩ = some (.string ⟨#[]⟩) ∧ w'.cell? ⟨G, 3, none⟩ = some (.int .i64 0) ∧ w'.frozen? ⟨G, 0, none⟩ = false ∧ w'.frozen? ⟨G, 1, none⟩ = false ∧ w'.frozen? ⟨G, 2, none⟩ = false ∧ w'.frozen? ⟨G, 3, none⟩ = false) := by
    intro X o l c bX hz
    refine (nt_text _ _ X hz (HTC.out.below bX.out)).mono ?_
    rintro e w' ⟨rfl, hb⟩
    have bb := bX.out.trans (hb.mono bX.out.size)
    exact ⟨by rw [HTT.out], bb, HC.out _ bb⟩
  have C3 : Hid (∀ X, Hid (Below w10.heap.size w10 X) → Calls Tryz.prog 29 #[.bool na, .string T, .int .i64 eb] X fun e w' => e = .returned (.tuple #[.agg #[.int .i64 (cc : Int), .bool nn, .string D, .int .i64 ee], .int .i64 er]) ∧ Hid (Below w10.heap.size w10 w') ∧ w'.cell? ⟨w.heap.size, 1, none⟩ = some (.bool na) ∧ w'.cell? ⟨w.heap.size + 1, 0, none⟩ = some (.int .i64 0) ∧ w'.cell? ⟨w.heap.size + 1, 1, none⟩ = some (.bool nb) ∧ w'.cell? ⟨w.heap.size + 1, 2, none⟩ = some (.string tb) ∧ w'.cell? ⟨w.heap.size + 1, 3, none⟩ = some (.int .i64 eb) ∧ w'.cell? ⟨G, 0, none⟩ = some (.int .i64 0) ∧ w'.cell? ⟨G, 1, none⟩ = some (.bool false) ∧ w'.cell? ⟨G, 2, none⟩ = some (.string ⟨#[]⟩) ∧ w'.cell? ⟨G, 3, none⟩ = some (.int .i64 0) ∧ w'.frozen? ⟨G, 0, none⟩ = false ∧ w'.frozen? ⟨G, 1, none⟩ = false ∧ w'.frozen? ⟨G, 2, none⟩ = false ∧ w'.frozen? ⟨G, 3, none⟩ = false) := by
    intro X bX
    refine (FI.out X).mono ?_
    rintro e w' ⟨rfl, hb⟩
    have bb := bX.out.trans (hb.mono bX.out.size)
    exact ⟨rfl, bb, HC.out _ bb⟩
  have BRF : Hid (∀ w', Below w10.heap.size w10 w' → Below w.heap.size w w' ∧ Blk w' G #[.int .i64 0, .bool false, .string ⟨#[]⟩, .int .i64 0] 23) := fun w' hb => ⟨HB10.out.trans (hb.mono HB10.out.size), Br10.out.below hb Br10.out.lt⟩
  clear HC Z7 HTC HTT FI Ba10 Bb10 Br10 HB10 DU SC SN
  go_wp2_with fail
  simp only [← HG.out]
  have mk0 : True := trivial
  go_region_held3 (fun w' => w'.cell? ⟨w.heap.size, 1, none⟩ = some (.bool na) ∧ w'.cell? ⟨w.heap.size + 1, 0, none⟩ = some (.int .i64 0) ∧ w'.cell? ⟨w.heap.size + 1, 1, none⟩ = some (.bool nb) ∧ w'.cell? ⟨w.heap.size + 1, 2, none⟩ = some (.string tb) ∧ w'.cell? ⟨w.heap.size + 1, 3, none⟩ = some (.int .i64 eb)) (go_keep) (first
    | (clear mk0; go_at_call 89; refine (C0.out _ b0).mono ?_; rintro e v1 ⟨⟨o8, l8, c8, rfl, Z8⟩, b1, q0_0, q0_1, q0_2, q0_3, q0_4, q0_5, q0_6, q0_7, q0_8, q0_9, q0_10, q0_11, q0_12⟩; have mk1 : True := trivial)
    | (clear mk1; go_at_call 88; refine (C1.out _ _ _ _ b1 Z8.out).mono ?_; rintro e v2 ⟨⟨o9, l9, c9, rfl, Z9⟩, b2, q1_0, q1_1, q1_2, q1_3, q1_4, q1_5, q1_6, q1_7, q1_8, q1_9, q1_10, q1_11, q1_12⟩; have mk2 : True := trivial)
    | (clear mk2; go_at_call 87; refine (C2.out _ _ _ _ b2 Z9.out).mono ?_; rintro e v3 ⟨rfl, b3, q2_0, q2_1, q2_2, q2_3, q2_4, q2_5, q2_6, q2_7, q2_8, q2_9, q2_10, q2_11, q2_12⟩; have mk3 : True := trivial)
    | (clear mk3; go_at_call 29; refine (C3.out _ b3).mono ?_; rintro e v4 ⟨rfl, b4, q3_0, q3_1, q3_2, q3_3, q3_4, q3_5, q3_6, q3_7, q3_8, q3_9, q3_10, q3_11, q3_12⟩; have mk4 : True := trivial))
  obtain ⟨hbel, hblk⟩ := BRF.out _ b4.out
  have HBL := hide hbel
  have QR := hide hblk
  clear hbel hblk BRF b0 b1 b2 b3 b4 C0 C1 C2 C3
  repeat (first | go_values | go_skip | go_guarded | go_step | go_upon)
  refine bodyPost_ret (results_dec2 rfl _ _ _ _ _ _ _ rfl (QR.out.put4 _ _ _ _)) rfl ?_
  exact ⟨rfl, below_put4 HBL.out gle _ _ _ _⟩

set_option maxHeartbeats 4000000 in
theorem mult_in (ca : Int) (na : Bool) (ta : ByteArray) (ea : Int) (nb : Bool) (tb : ByteArray) (eb m : Int) (A U : Nat) (w : World) (h0 : ta.size ≠ 0) (ca' : ∀ W, Calls Tryz.prog 80 #[dcV ca na ta ea, .int .i64 (min ea eb)] W fun e w' => ∃ o l c, e = .returned (.slice o l c) ∧ Hid (Nt w' (.slice o l c) A) ∧ Below W.heap.size W w') (cb' : ∀ W, Calls Tryz.prog 80 #[dcV 0 nb tb eb, .int .i64 (min ea eb)] W fun e w' => ∃ o l c, e = .returned (.slice o l c) ∧ Hid (Nt w' (.slice o l c) U) ∧ Below W.heap.size W w') (sA : Sm A) (sU : Sm U) (hU : U ≠ 0) (hm : A % U ≠ 0) (sR : Sm (A % U + A % U)) (f : Nat) (hf : ∀ args w, (callFunc f args).run Tryz.prog w = .ok (.enter f args) w) (lv : ∀ W, Calls Tryz.prog 82 #[.int .i64 m] W fun e w' => e = .returned (.func (.func f) #[.int .i64 m] #[]) ∧ Below W.heap.size W w') (md : ∀ W, Calls Tryz.prog f #[.int .i64 m, .agg #[.bool na, .bool (decide (A / U % 2 = 1)), .int .i64 (cmpN (A % U + A % U) U)]] W fun e w' => e = .returned (.bool false) ∧ Below W.heap.size W w')
    (N : Nat) (sN : Sm N) (du : ∀ W, Calls Tryz.prog 89 #[dcV 0 nb tb eb] W fun e w' => ∃ o l c, e = .returned (.slice o l c) ∧ Hid (Nt w' (.slice o l c) N) ∧ Below W.heap.size W w') (htab : Tab w) (hsz : (Lib.decDigits ((A / U) * N)).length ≤ 100000) (hxb : -10000 ≤ eb ∧ eb ≤ 10000) : Calls Tryz.prog 41 #[dcV ca na ta ea, dcV 0 nb tb eb, .int .i64 m] w fun e w' => e = .returned (decErr (tellF na ((A / U) * N) eb)) ∧ Below w.heap.size w w' := by
  have CCA := hide ca'
  have CCB := hide cb'
  have h2 := toList_ne h0
  obtain ⟨x, hx⟩ : ∃ x, x = min ea eb := ⟨_, rfl⟩
  have HX := hide hx
  rw [← hx] at CCA CCB
  have SA := hide sA
  have SU := hide sU
  have HU := hide hU
  have HM := hide hm
  have LV := hide lv
  have SR := hide sR
  have SR1 : Hid (Sm (A % U)) := Nat.lt_trans (Nat.mod_lt _ (Nat.pos_of_ne_zero hU)) sU
  obtain ⟨od, hod⟩ : ∃ od, od = decide (A / U % 2 = 1) := ⟨_, rfl⟩
  obtain ⟨hv, hhv⟩ : ∃ hv, hv = cmpN (A % U + A % U) U := ⟨_, rfl⟩
  rw [← hod, ← hhv] at md
  have MD := hide md
  have HOD := hide hod
  have HHV := hide hhv.symm
  have SQ : Hid (Sm (A / U)) := Nat.lt_of_le_of_lt (Nat.div_le_self _ _) sA
  have SC : Hid (Sm (A / U)) := SQ.out
  clear SQ
  have SN := hide sN
  have DU := hide du
  have HT := hide htab
  obtain ⟨T, hT⟩ : ∃ T : ByteArray, T = ⟨(Lib.decDigits ((A / U) * N)).toArray⟩ := ⟨_, rfl⟩
  have HTT := hide hT
  have hTb : bys T = Lib.decDigits ((A / U) * N) := by rw [hT, bys_mk]
  have hTs : T.size = (Lib.decDigits ((A / U) * N)).length := by rw [hT, size_mk0]
  have FG := fun (X : World) => fin_any na T eb X (by rw [hTs]; omega) (by omega) (by omega) (by rw [hTb]; exact (dd_okT _).2.2)
  rw [hTb, dd_val] at FG
  rcases hTF : tellF na ((A / U) * N) eb with ⟨⟨cc, nn, ll, ee⟩, er⟩
  rw [hTF] at FG
  unfold decErr decVal at FG ⊢
  simp only at FG ⊢
  obtain ⟨D, hD⟩ : ∃ D : ByteArray, D = ⟨ll.toArray⟩ := ⟨_, rfl⟩
  rw [← hD] at FG ⊢
  have FI := hide FG
  clear FG hT hTb hTs hTF hD hsz hxb sN du htab
  clear hod hhv hm lv md sR ca' cb' hx sA sU hU h0
  have Ba0 := hide (((Blk.newAt w (w.heap.size) (rfl) #[.int .i64 ca, .bool na, .string ta, .int .i64 ea] 23).alloc (.cells #[.int .i64 0, .bool nb, .string tb, .int .i64 eb] 23)).alloc (.cells #[.int .i64 0, .bool false, .string ⟨#[]⟩, .int .i64 0] 23))
  have Bb0 := hide ((Blk.newAt (w.alloc (.cells #[.int .i64 ca, .bool na, .string ta, .int .i64 ea] 23)) (w.heap.size + 1) (by simp) #[.int .i64 0, .bool nb, .string tb, .int .i64 eb] 23).alloc (.cells #[.int .i64 0, .bool false, .string ⟨#[]⟩, .int .i64 0] 23))
  have Br0 := hide (Blk.newAt ((w.alloc (.cells #[.int .i64 ca, .bool na, .string ta, .int .i64 ea] 23)).alloc (.cells #[.int .i64 0, .bool nb, .string tb, .int .i64 eb] 23)) (w.heap.size + 1 + 1) (by simp) #[.int .i64 0, .bool false, .string ⟨#[]⟩, .int .i64 0] 23)
  have HB0 : Hid (Below w.heap.size w (((w.alloc (.cells #[.int .i64 ca, .bool na, .string ta, .int .i64 ea] 23)).alloc (.cells #[.int .i64 0, .bool nb, .string tb, .int .i64 eb] 23)).alloc (.cells #[.int .i64 0, .bool false, .string ⟨#[]⟩, .int .i64 0] 23))) := ((((Below.refl _ _).alloc (Nat.le_refl _) _).alloc (by simp <;> omega) _).alloc (by simp <;> omega) _)
  go_enter Tryz.func41, Tryz.ntmps41
  go_wp2_with fail
  simp only [← HX.out]
  refine (CCB.out _).mono ?_
  rintro e w1 ⟨o1, l1, c1, rfl, Z1, hb⟩
  have Ba1 := hide (Ba0.out.below hb Ba0.out.lt)
  have Bb1 := hide (Bb0.out.below hb Bb0.out.lt)
  have Br1 := hide (Br0.out.below hb Br0.out.lt)
  have HB1 := hide (HB0.out.trans (hb.mono HB0.out.size))
  clear hb Ba0 Bb0 Br0 HB0 
  obtain ⟨ya0, ya1, ya2, ya3⟩ := Ba1.out.four
  obtain ⟨yb0, yb1, yb2, yb3⟩ := Bb1.out.four
  obtain ⟨yr0, yr1, yr2, yr3⟩ := Br1.out.four
  go_wp2_with fail
  refine (CCA.out _).mono ?_
  rintro e w2 ⟨o2, l2, c2, rfl, Z2, hb⟩
  have Y1 := hide (Z1.out.below hb)
  clear Z1
  have Ba2 := hide (Ba1.out.below hb Ba1.out.lt)
  have Bb2 := hide (Bb1.out.below hb Bb1.out.lt)
  have Br2 := hide (Br1.out.below hb Br1.out.lt)
  have HB2 := hide (HB1.out.trans (hb.mono HB1.out.size))
  clear hb Ba1 Bb1 Br1 HB1 ya0 ya1 ya2 ya3 yb0 yb1 yb2 yb3 yr0 yr1 yr2 yr3
  obtain ⟨ya0, ya1, ya2, ya3⟩ := Ba2.out.four
  obtain ⟨yb0, yb1, yb2, yb3⟩ := Bb2.out.four
  obtain ⟨yr0, yr1, yr2, yr3⟩ := Br2.out.four
  have DM := hide (nt_divs _ _ _ _ w2 Z2.out Y1.out SA.out SU.out HU.out)
  go_wp2_with fail
  refine (DM.out).mono ?_
  rintro e w3 ⟨o3, l3, c3, o4, l4, c4, rfl, ZQ, ZR, hb⟩
  have Z1 := hide (Y1.out.below hb)
  clear Y1 Z2 DM
  have Ba3 := hide (Ba2.out.below hb Ba2.out.lt)
  have Bb3 := hide (Bb2.out.below hb Bb2.out.lt)
  have Br3 := hide (Br2.out.below hb Br2.out.lt)
  have HB3 := hide (HB2.out.trans (hb.mono HB2.out.size))
  clear hb Ba2 Bb2 Br2 HB2 ya0 ya1 ya2 ya3 yb0 yb1 yb2 yb3 yr0 yr1 yr2 yr3
  obtain ⟨ya0, ya1, ya2, ya3⟩ := Ba3.out.four
  obtain ⟨yb0, yb1, yb2, yb3⟩ := Bb3.out.four
  obtain ⟨yr0, yr1, yr2, yr3⟩ := Br3.out.four
  have hl4 : l4 ≠ 0 := fun h => HM.out ((nt_len ZR.out).1 h)
  have hl5 : ((l4 : Int) == 0) = false := by
    have : (l4 : Int) ≠ 0 := by omega
    simpa using this
  clear hl4
  go_wp2_with fail
  refine (LV.out _).mono ?_
  rintro e w4 ⟨rfl, hb⟩
  have Y1 := hide (Z1.out.below hb)
  have YQ := hide (ZQ.out.below hb)
  have YR := hide (ZR.out.below hb)
  clear Z1 ZQ ZR
  have Ba4 := hide (Ba3.out.below hb Ba3.out.lt)
  have Bb4 := hide (Bb3.out.below hb Bb3.out.lt)
  have Br4 := hide (Br3.out.below hb Br3.out.lt)
  have HB4 := hide (HB3.out.trans (hb.mono HB3.out.size))
  clear hb Ba3 Bb3 Br3 HB3 ya0 ya1 ya2 ya3 yb0 yb1 yb2 yb3 yr0 yr1 yr2 yr3
  obtain ⟨ya0, ya1, ya2, ya3⟩ := Ba4.out.four
  obtain ⟨yb0, yb1, yb2, yb3⟩ := Bb4.out.four
  obtain ⟨yr0, yr1, yr2, yr3⟩ := Br4.out.four
  have b0 : Hid (Below w4.heap.size w4 w4.drew) := bdrewD w4
  have C0 : Hid (∀ X, Hid (Below w4.heap.size w4 X) → Calls Tryz.prog 83 #[.slice o3 l3 c3] X fun e w' => e = .returned (.bool od) ∧ Hid (Below w4.heap.size w4 w') ∧ w'.cell? ⟨w.heap.size, 1, none⟩ = some (.bool na)) := by
    intro X bX
    refine (isOdd_any o3 l3 c3 _ X (YQ.out.below bX.out)).mono ?_
    rintro e w' ⟨rfl, hb⟩
    have bb := bX.out.trans (hb.mono bX.out.size)
    have Baq := Ba4.out.below bb Ba4.out.lt
    exact ⟨by rw [HOD.out], bb, Baq.cell 1⟩
  have C1 : Hid (∀ X, Hid (Below w4.heap.size w4 X) → Calls Tryz.prog 85 #[.slice o4 l4 c4, .slice o4 l4 c4] X fun e w' => (∃ o l c, e = .returned (.slice o l c) ∧ Hid (Nt w' (.slice o l c) (A % U + A % U))) ∧ Hid (Below w4.heap.size w4 w') ∧ w'.cell? ⟨w.heap.size, 1, none⟩ = some (.bool na)) := by
    intro X bX
    refine (nt_adds _ _ _ _ X (YR.out.below bX.out) (YR.out.below bX.out) SR1.out SR1.out).mono ?_
    rintro e w' ⟨o, l, c, rfl, hz, hb⟩
    have bb := bX.out.trans (hb.mono bX.out.size)
    have Baq := Ba4.out.below bb Ba4.out.lt
    exact ⟨⟨o, l, c, rfl, hz⟩, bb, Baq.cell 1⟩
  have C2 : Hid (∀ X (o : Option Addr) (l c : Nat), Hid (Below w4.heap.size w4 X) → Nt X (.slice o l c) (A % U + A % U) → Calls Tryz.prog 84 #[.slice o l c, .slice o1 l1 c1] X fun e w' => e = .returned (.int .i64 hv) ∧ Hid (Below w4.heap.size w4 w') ∧ w'.cell? ⟨w.heap.size, 1, none⟩ = some (.bool na)) := by
    intro X o l c bX hz
    refine (nt_cmp _ _ _ _ hv X hz (Y1.out.below bX.out) SR.out SU.out HHV.out).mono ?_
    rintro e w' ⟨rfl, hb⟩
    have bb := bX.out.trans (hb.mono bX.out.size)
    have Baq := Ba4.out.below bb Ba4.out.lt
    exact ⟨rfl, bb, Baq.cell 1⟩
  have C3 : Hid (∀ X, Hid (Below w4.heap.size w4 X) → Calls Tryz.prog f #[.int .i64 m, .agg #[.bool na, .bool od, .int .i64 hv]] X fun e w' => e = .returned (.bool false) ∧ Hid (Below w4.heap.size w4 w') ∧ w'.cell? ⟨w.heap.size, 1, none⟩ = some (.bool na)) := by
    intro X bX
    refine (MD.out X).mono ?_
    rintro e w' ⟨rfl, hb⟩
    have bb := bX.out.trans (hb.mono bX.out.size)
    have Baq := Ba4.out.below bb Ba4.out.lt
    exact ⟨rfl, bb, Baq.cell 1⟩
  go_wp2_with fail
  have mk0 : True := trivial
  go_region_held3 (fun w' => w'.cell? ⟨w.heap.size, 1, none⟩ = some (.bool na)) (go_keep) (first
    | (clear mk0; go_at_call 83; refine (C0.out _ b0).mono ?_; rintro e w5 ⟨rfl, b1, q0⟩; have mk1 : True := trivial)
    | (clear mk1; go_at_call 85; refine (C1.out _ b1).mono ?_; rintro e w6 ⟨⟨o5, l5, c5, rfl, Z5⟩, b2, q1⟩; have mk2 : True := trivial)
    | (clear mk2; go_at_call 84; refine (C2.out _ _ _ _ b2 Z5.out).mono ?_; rintro e w7 ⟨rfl, b3, q2⟩; have mk3 : True := trivial)
    | (clear mk3; with_reducible refine (C3.out _ b3).mono ?_; rintro e w8 ⟨rfl, b4, q3⟩; have mk4 : True := trivial))
  have Ba8 := hide (Ba4.out.below b4.out Ba4.out.lt)
  have Bb8 := hide (Bb4.out.below b4.out Bb4.out.lt)
  have Br8 := hide (Br4.out.below b4.out Br4.out.lt)
  have HB8 := hide (HB4.out.trans (b4.out.mono HB4.out.size))
  have YQ8 := hide (YQ.out.below b4.out)
  clear mk4 b0 b1 b2 b3 b4 q0 q1 q2 q3 Z5 C0 C1 C2 C3 Ba4 Bb4 Br4 HB4 YQ YR Y1 SR SR1 SU MD HOD HHV hl5 ya0 ya1 ya2 ya3 yb0 yb1 yb2 yb3 yr0 yr1 yr2 yr3
  obtain ⟨ya0, ya1, ya2, ya3⟩ := Ba8.out.four
  obtain ⟨yb0, yb1, yb2, yb3⟩ := Bb8.out.four
  obtain ⟨yr0, yr1, yr2, yr3⟩ := Br8.out.four
  have HL : Hid (w.heap.size < w8.heap.size ∧ w.heap.size + 1 < w8.heap.size ∧ w.heap.size + 1 + 1 < w8.heap.size) := ⟨Ba8.out.lt, Bb8.out.lt, Br8.out.lt⟩
  have HTC := hide (HT.out.below HB8.out)
  obtain ⟨G, hG⟩ : ∃ G, G = w.heap.size + 1 + 1 := ⟨_, rfl⟩
  have gn1 : ¬ G = w.heap.size := by omega
  have gn2 : ¬ w.heap.size = G := by omega
  have gn3 : ¬ G = w.heap.size + 1 := by omega
  have gn4 : ¬ w.heap.size + 1 = G := by omega
  have gle : w.heap.size ≤ G := by omega
  have HG := hide hG
  rw [← hG] at Br8
  clear hG HL HT ya0 ya1 ya2 ya3 yb0 yb1 yb2 yb3 yr0 yr1 yr2 yr3
  have d0 : w8.cell? ⟨w.heap.size, 1, none⟩ = some (.bool na) := Ba8.out.cell 1
  have d1 : w8.cell? ⟨w.heap.size + 1, 0, none⟩ = some (.int .i64 0) := Bb8.out.cell 0
  have d2 : w8.cell? ⟨w.heap.size + 1, 1, none⟩ = some (.bool nb) := Bb8.out.cell 1
  have d3 : w8.cell? ⟨w.heap.size + 1, 2, none⟩ = some (.string tb) := Bb8.out.cell 2
  have d4 : w8.cell? ⟨w.heap.size + 1, 3, none⟩ = some (.int .i64 eb) := Bb8.out.cell 3
  have HC : Hid (∀ w', Below w8.heap.size w8 w' → w'.cell? ⟨w.heap.size, 1, none⟩ = some (.bool na) ∧ w'.cell? ⟨w.heap.size + 1, 0, none⟩ = some (.int .i64 0) ∧ w'.cell? ⟨w.heap.size + 1, 1, none⟩ = some (.bool nb) ∧ w'.cell? ⟨w.heap.size + 1, 2, none⟩ = some (.string tb) ∧ w'.cell? ⟨w.heap.size + 1, 3, none⟩ = some (.int .i64 eb) ∧ w'.cell? ⟨G, 0, none⟩ = some (.int .i64 0) ∧ w'.cell? ⟨G, 1, none⟩ = some (.bool false) ∧ w'.cell? ⟨G, 2, none⟩ = some (.string ⟨#[]⟩) ∧ w'.cell? ⟨G, 3, none⟩ = some (.int .i64 0) ∧ w'.frozen? ⟨G, 0, none⟩ = false ∧ w'.frozen? ⟨G, 1, none⟩ = false ∧ w'.frozen? ⟨G, 2, none⟩ = false ∧ w'.frozen? ⟨G, 3, none⟩ = false) := by
    intro w' hb
    have Ba8q := Ba8.out.below hb Ba8.out.lt
    have Bb8q := Bb8.out.below hb Bb8.out.lt
    have Br8q := Br8.out.below hb Br8.out.lt
    exact ⟨Ba8q.cell 1, Bb8q.cell 0, Bb8q.cell 1, Bb8q.cell 2, Bb8q.cell 3, Br8q.cell 0, Br8q.cell 1, Br8q.cell 2, Br8q.cell 3, Br8q.free 0, Br8q.free 1, Br8q.free 2, Br8q.free 3⟩
  have b0 : Hid (Below w8.heap.size w8 w8.drew) := bdrewD w8
  have C0 : Hid (∀ X, Hid (Below w8.heap.size w8 X) → Calls Tryz.prog 89 #[dcV 0 nb tb eb] X fun e w' => (∃ o l c, e = .returned (.slice o l c) ∧ Hid (Nt w' (.slice o l c) N)) ∧ Hid (Below w8.heap.size w8 w') ∧ w'.cell? ⟨w.heap.size, 1, none⟩ = some (.bool na) ∧ w'.cell? ⟨w.heap.size + 1, 0, none⟩ = some (.int .i64 0) ∧ w'.cell? ⟨w.heap.size + 1, 1, none⟩ = some (.bool nb) ∧ w'.cell? ⟨w.heap.size + 1, 2, none⟩ = some (.string tb) ∧ w'.cell? ⟨w.heap.size + 1, 3, none⟩ = some (.int .i64 eb) ∧ w'.cell? ⟨G, 0, none⟩ = some (.int .i64 0) ∧ w'.cell? ⟨G, 1, none⟩ = some (.bool false) ∧ w'.cell? ⟨G, 2, none⟩ = some (.string ⟨#[]⟩) ∧ w'.cell? ⟨G, 3, none⟩ = some (.int .i64 0) ∧ w'.frozen? ⟨G, 0, none⟩ = false ∧ w'.frozen? ⟨G, 1, none⟩ = false ∧ w'.frozen? ⟨G, 2, none⟩ = false ∧ w'.frozen? ⟨G, 3, none⟩ = false) := by
    intro X bX
    refine (DU.out X).mono ?_
    rintro e w' ⟨o, l, c, rfl, hz, hb⟩
    have bb := bX.out.trans (hb.mono bX.out.size)
    exact ⟨⟨o, l, c, rfl, hz⟩, bb, HC.out _ bb⟩
  have C1 : Hid (∀ X (o : Option Addr) (l c : Nat), Hid (Below w8.heap.size w8 X) → Nt X (.slice o l c) N → Calls Tryz.prog 88 #[.slice o3 l3 c3, .slice o l c] X fun e w' => (∃ o l c, e = .returned (.slice o l c) ∧ Hid (Nt w' (.slice o l c) ((A / U) * N))) ∧ Hid (Below w8.heap.size w8 w') ∧ w'.cell? ⟨w.heap.size, 1, none⟩ = some (.bool na) ∧ w'.cell? ⟨w.heap.size + 1, 0, none⟩ = some (.int .i64 0) ∧ w'.cell? ⟨w.heap.size + 1, 1, none⟩ = some (.bool nb) ∧ w'.cell? ⟨w.heap.size + 1, 2, none⟩ = some (.string tb) ∧ w'.cell? ⟨w.heap.size + 1, 3, none⟩ = some (.int .i64 eb) ∧ w'.cell? ⟨G, 0, none⟩ = some (.int .i64 0) ∧ w'.cell? ⟨G, 1, none⟩ = some (.bool false) ∧ w'.cell? ⟨G, 2, none⟩ = some (.string ⟨#[]⟩) ∧ w'.cell? ⟨G, 3, none⟩ = some (.int .i64 0) ∧ w'.frozen? ⟨G, 0, none⟩ = false ∧ w'.frozen? ⟨G, 1, none⟩ = false ∧ w'.frozen? ⟨G, 2, none⟩ = false ∧ w'.frozen? ⟨G, 3, none⟩ = false) := by
    intro X o l c bX hz
    refine (nt_muls _ _ _ _ X (YQ8.out.below bX.out) hz SC.out SN.out).mono ?_
    rintro e w' ⟨o, l, c, rfl, hz, hb⟩
    have bb := bX.out.trans (hb.mono bX.out.size)
    exact ⟨⟨o, l, c, rfl, hz⟩, bb, HC.out _ bb⟩
  have C2 : Hid (∀ X (o : Option Addr) (l c : Nat), Hid (Below w8.heap.size w8 X) → Nt X (.slice o l c) ((A / U) * N) → Calls Tryz.prog 87 #[.slice o l c] X fun e w' => e = .returned (.string T) ∧ Hid (Below w8.heap.size w8 w') ∧ w'.cell? ⟨w.heap.size, 1, none⟩ = some (.bool na) ∧ w'.cell? ⟨w.heap.size + 1, 0, none⟩ = some (.int .i64 0) ∧ w'.cell? ⟨w.heap.size + 1, 1, none⟩ = some (.bool nb) ∧ w'.cell? ⟨w.heap.size + 1, 2, none⟩ = some (.string tb) ∧ w'.cell? ⟨w.heap.size + 1, 3, none⟩ = some (.int .i64 eb) ∧ w'.cell? ⟨G, 0, none⟩ = some (.int .i64 0) ∧ w'.cell? ⟨G, 1, none⟩ = some (.bool false) ∧ w'.cell? ⟨G, 2, none⟩ = some (.string ⟨#[]⟩) ∧ w'.cell? ⟨G, 3, none⟩ = some (.int .i64 0) ∧ w'.frozen? ⟨G, 0, none⟩ = false ∧ w'.frozen? ⟨G, 1, none⟩ = false ∧ w'.frozen? ⟨G, 2, none⟩ = false ∧ w'.frozen? ⟨G, 3, none⟩ = false) := by
    intro X o l c bX hz
    refine (nt_text _ _ X hz (HTC.out.below bX.out)).mono ?_
    rintro e w' ⟨rfl, hb⟩
    have bb := bX.out.trans (hb.mono bX.out.size)
    exact ⟨by rw [HTT.out], bb, HC.out _ bb⟩
  have C3 : Hid (∀ X, Hid (Below w8.heap.size w8 X) → Calls Tryz.prog 29 #[.bool na, .string T, .int .i64 eb] X fun e w' => e = .returned (.tuple #[.agg #[.int .i64 (cc : Int), .bool nn, .string D, .int .i64 ee], .int .i64 er]) ∧ Hid (Below w8.heap.size w8 w') ∧ w'.cell? ⟨w.heap.size, 1, none⟩ = some (.bool na) ∧ w'.cell? ⟨w.heap.size + 1, 0, none⟩ = some (.int .i64 0) ∧ w'.cell? ⟨w.heap.size + 1, 1, none⟩ = some (.bool nb) ∧ w'.cell? ⟨w.heap.size + 1, 2, none⟩ = some (.string tb) ∧ w'.cell? ⟨w.heap.size + 1, 3, none⟩ = some (.int .i64 eb) ∧ w'.cell? ⟨G, 0, none⟩ = some (.int .i64 0) ∧ w'.cell? ⟨G, 1, none⟩ = some (.bool false) ∧ w'.cell? ⟨G, 2, none⟩ = some (.string ⟨#[]⟩) ∧ w'.cell? ⟨G, 3, none⟩ = some (.int .i64 0) ∧ w'.frozen? ⟨G, 0, none⟩ = false ∧ w'.frozen? ⟨G, 1, none⟩ = false ∧ w'.frozen? ⟨G, 2, none⟩ = false ∧ w'.frozen? ⟨G, 3, none⟩ = false) := by
    intro X bX
    refine (FI.out X).mono ?_
    rintro e w' ⟨rfl, hb⟩
    have bb := bX.out.trans (hb.mono bX.out.size)
    exact ⟨rfl, bb, HC.out _ bb⟩
  have BRF : Hid (∀ w', Below w8.heap.size w8 w' → Below w.heap.size w w' ∧ Blk w' G #[.int .i64 0, .bool false, .string ⟨#[]⟩, .int .i64 0] 23) := fun w' hb => ⟨HB8.out.trans (hb.mono HB8.out.size), Br8.out.below hb Br8.out.lt⟩
  clear HC YQ8 HTC HTT FI Ba8 Bb8 Br8 HB8 DU SC SN
  go_wp2_with fail
  simp only [← HG.out]
  have mk0 : True := trivial
  go_region_held3 (fun w' => w'.cell? ⟨w.heap.size, 1, none⟩ = some (.bool na) ∧ w'.cell? ⟨w.heap.size + 1, 0, none⟩ = some (.int .i64 0) ∧ w'.cell? ⟨w.heap.size + 1, 1, none⟩ = some (.bool nb) ∧ w'.cell? ⟨w.heap.size + 1, 2, none⟩ = some (.string tb) ∧ w'.cell? ⟨w.heap.size + 1, 3, none⟩ = some (.int .i64 eb)) (go_keep) (first
    | (clear mk0; go_at_call 89; refine (C0.out _ b0).mono ?_; rintro e v1 ⟨⟨o8, l8, c8, rfl, Z8⟩, b1, q0_0, q0_1, q0_2, q0_3, q0_4, q0_5, q0_6, q0_7, q0_8, q0_9, q0_10, q0_11, q0_12⟩; have mk1 : True := trivial)
    | (clear mk1; go_at_call 88; refine (C1.out _ _ _ _ b1 Z8.out).mono ?_; rintro e v2 ⟨⟨o9, l9, c9, rfl, Z9⟩, b2, q1_0, q1_1, q1_2, q1_3, q1_4, q1_5, q1_6, q1_7, q1_8, q1_9, q1_10, q1_11, q1_12⟩; have mk2 : True := trivial)
    | (clear mk2; go_at_call 87; refine (C2.out _ _ _ _ b2 Z9.out).mono ?_; rintro e v3 ⟨rfl, b3, q2_0, q2_1, q2_2, q2_3, q2_4, q2_5, q2_6, q2_7, q2_8, q2_9, q2_10, q2_11, q2_12⟩; have mk3 : True := trivial)
    | (clear mk3; go_at_call 29; refine (C3.out _ b3).mono ?_; rintro e v4 ⟨rfl, b4, q3_0, q3_1, q3_2, q3_3, q3_4, q3_5, q3_6, q3_7, q3_8, q3_9, q3_10, q3_11, q3_12⟩; have mk4 : True := trivial))
  obtain ⟨hbel, hblk⟩ := BRF.out _ b4.out
  have HBL := hide hbel
  have QR := hide hblk
  clear hbel hblk BRF b0 b1 b2 b3 b4 C0 C1 C2 C3
  repeat (first | go_values | go_skip | go_guarded | go_step | go_upon)
  refine bodyPost_ret (results_dec2 rfl _ _ _ _ _ _ _ rfl (QR.out.put4 _ _ _ _)) rfl ?_
  exact ⟨rfl, below_put4 HBL.out gle _ _ _ _⟩

end Go.Proofs.YtckijnlolmbdiaaGreatDoor

namespace Go.Proofs.YtckijnlolmbdiaaGreatDoor
open Go.RowKit

theorem mode_any (m : Nat) (hm : m < 8) : ∃ f : Nat, (∀ args w, (callFunc f args).run Tryz.prog w = .ok (.enter f args) w) ∧ (∀ W, Calls Tryz.prog 82 #[.int .i64 (m : Int)] W fun e w' => e = .returned (.func (.func f) #[.int .i64 (m : Int)] #[]) ∧ Below W.heap.size W w') ∧ ∀ (ng od : Bool) (hf : Int), (hf = -1 ∨ hf = 0 ∨ hf = 1) → ∀ W, Calls Tryz.prog f #[.int .i64 (m : Int), .agg #[.bool ng, .bool od, .int .i64 hf]] W fun e w' => e = .returned (.bool (leavesB m ng od hf)) ∧ Below W.heap.size W w' := by
  rcases (by omega : m = 0 ∨ m = 1 ∨ m = 2 ∨ m = 3 ∨ m = 4 ∨ m = 5 ∨ m = 6 ∨ m = 7) with rfl | rfl | rfl | rfl | rfl | rfl | rfl | rfl
  · exact ⟨144, fun args w => by kernel_rfl, fun W => leaves_0 W, fun ng od hf hh W => mode_0 ng od hf W hh⟩
  · exact ⟨144, fun args w => by kernel_rfl, fun W => leaves_1 W, fun ng od hf hh W => mode_1 ng od hf W hh⟩
  · exact ⟨145, fun args w => by kernel_rfl, fun W => leaves_2 W, fun ng od hf hh W => mode_2 ng od hf W hh⟩
  · exact ⟨145, fun args w => by kernel_rfl, fun W => leaves_3 W, fun ng od hf hh W => mode_3 ng od hf W hh⟩
  · exact ⟨146, fun args w => by kernel_rfl, fun W => leaves_4 W, fun ng od hf hh W => mode_4 ng od hf W hh⟩
  · exact ⟨147, fun args w => by kernel_rfl, fun W => leaves_5 W, fun ng od hf hh W => mode_5 ng od hf W hh⟩
  · exact ⟨147, fun args w => by kernel_rfl, fun W => leaves_6 W, fun ng od hf hh W => mode_6 ng od hf W hh⟩
  · exact ⟨146, fun args w => by kernel_rfl, fun W => leaves_7 W, fun ng od hf hh W => mode_7 ng od hf W hh⟩

theorem cmpN_three (x y : Nat) : cmpN x y = -1 ∨ cmpN x y = 0 ∨ cmpN x y = 1 := by
  unfold cmpN
  split
  · exact .inl rfl
  · split
    · exact .inr (.inr rfl)
    · exact .inr (.inl rfl)

theorem may_fin {d : DecT} (h : May d) (h0 : d.dig ≠ []) : Fin d := by
  rcases may_cases h with ⟨n, rfl⟩ | h | ⟨n, rfl⟩ | rfl
  · exact absurd rfl h0
  · exact h
  · exact absurd rfl h0
  · exact absurd rfl h0

theorem mult_any (d : DecT) (hd : May d) (nb : Bool) (tb : ByteArray) (eb : Int) (m : Nat) (w : World) (hm : m < 8) (hok : OkT (bys tb)) (h48 : byt (bys tb) 0 ≠ 48) (hs : tb.size ≤ 32) (h1 : -4000 ≤ eb) (h2 : eb ≤ 4000) (htab : Tab w) :
    Calls Tryz.prog 41 #[decVal d, dcV 0 nb tb eb, .int .i64 (m : Int)] w fun e w' => e = .returned (decErr (rndD d (decV (bys tb)) eb m)) ∧ Below w.heap.size w w' := by
  by_cases hz : d.dig = []
  · rw [rndD_zero hz]
    have := mult_nil (d.cls : Int) d.neg d.exp nb tb eb (m : Int) w
    unfold decErr decVal
    rw [hz]
    exact this
  · have hf := may_fin hd hz
    have l1 := hf.len
    have l2 := hf.lo
    have l3 := hf.hi
    have bm : bys ⟨d.dig.toArray⟩ = d.dig := bys_mk _
    have sm0 : (⟨d.dig.toArray⟩ : ByteArray).size = d.dig.length := size_mk0 _
    have lp := List.length_pos_iff.2 hz
    obtain ⟨ka, hka⟩ : ∃ ka : Nat, ka = (d.exp - min d.exp eb).toNat := ⟨_, rfl⟩
    obtain ⟨ku, hku⟩ : ∃ ku : Nat, ku = (eb - min d.exp eb).toNat := ⟨_, rfl⟩
    obtain ⟨N, hN⟩ : ∃ N, N = decV (bys tb) := ⟨_, rfl⟩
    have n0 : N ≠ 0 := by rw [hN]; exact decV_ne hok.1 h48 hok.2.2
    have a1 := decV_lt _ d.dig rfl hf.dig
    have u1 := decV_lt _ (bys tb) rfl hok.2.2
    rw [bys_len, ← hN] at u1
    obtain ⟨A, hA⟩ : ∃ A, A = decV d.dig * 10 ^ ka := ⟨_, rfl⟩
    obtain ⟨U, hU⟩ : ∃ U, U = N * 10 ^ ku := ⟨_, rfl⟩
    have bA : A < 10 ^ (d.dig.length + ka) := by
      rw [hA, Nat.pow_add]
      exact Nat.mul_lt_mul_of_pos_right a1 (Nat.pow_pos (by omega))
    have bU : U < 10 ^ (tb.size + ku) := by
      rw [hU, Nat.pow_add]
      exact Nat.mul_lt_mul_of_pos_right u1 (Nat.pow_pos (by omega))
    have u0 : U ≠ 0 := by rw [hU]; exact Nat.mul_ne_zero n0 (Nat.ne_of_gt (Nat.pow_pos (by omega)))
    have sA : Sm A := Sm.of bA (by omega)
    have sU : Sm U := Sm.of bU (by omega)
    have bA1 : A + 1 < 10 ^ (d.dig.length + ka + 1) := by rw [Nat.pow_succ]; omega
    have sA1 : Sm (A + 1) := Sm.of bA1 (by omega)
    have bR : A % U < U := Nat.mod_lt _ (Nat.pos_of_ne_zero u0)
    have sR : Sm (A % U + A % U) := Sm.of (k := tb.size + ku + 1) (by rw [Nat.pow_succ]; omega) (by omega)
    have sN : Sm N := Sm.of u1 (by omega)
    have CA := fun W => rcounted_any (d.cls : Int) d.neg ⟨d.dig.toArray⟩ d.exp (min d.exp eb) (decV d.dig) ka W (by rw [sm0]; omega) (by rw [bm]; exact hf.okT) (by rw [bm]) (by omega) (by omega) (Sm.of a1 (by omega)) (Sm.of (k := ka + 1) (by rw [Nat.pow_succ]; have := Nat.pow_pos (n := ka) (show 0 < 10 by omega); omega) (by omega))
    have CU := fun W => rcounted_any 0 nb tb eb (min d.exp eb) N ku W (by omega) hok hN.symm (by omega) (by omega) sN (Sm.of (k := ku + 1) (by rw [Nat.pow_succ]; have := Nat.pow_pos (n := ku) (show 0 < 10 by omega); omega) (by omega))
    rw [← hA] at CA
    rw [← hU] at CU
    have DU := fun W => digitsOf_any 0 nb tb eb N W (by omega) hok hN.symm
    have z0 : (⟨d.dig.toArray⟩ : ByteArray).size ≠ 0 := by rw [sm0]; omega
    have hsz : ∀ c, c ≤ A + 1 → (Lib.decDigits (c * N)).length ≤ 100000 := by
      intro c hc
      have q : c * N < 10 ^ (d.dig.length + ka + 1 + tb.size) := by
        rw [Nat.pow_add]
        refine Nat.lt_of_le_of_lt (Nat.mul_le_mul_right _ hc) ?_
        exact Nat.lt_of_le_of_lt (Nat.mul_le_mul_left _ (Nat.le_of_lt u1)) (Nat.mul_lt_mul_of_pos_right bA1 (Nat.pow_pos (by omega)))
      have := sizeN_le q (by omega)
      unfold sizeN at this
      omega
    have dq : A / U ≤ A := Nat.div_le_self _ _
    by_cases hr : A % U = 0
    · rw [rndD_exact hf m (by rw [← hN, ← hka, ← hku, ← hA, ← hU]; exact hr)]
      exact mult_exact (d.cls : Int) d.neg ⟨d.dig.toArray⟩ d.exp nb tb eb (m : Int) A U w z0 CA CU sA sU u0 hr
    · rw [rndD_fin hz, ← hN, ← hka, ← hku, ← hA, ← hU]
      obtain ⟨f, f1, f2, f3⟩ := mode_any m hm
      have f4 := f3 d.neg (decide (A / U % 2 = 1)) (cmpN (A % U + A % U) U) (cmpN_three _ _)
      unfold rndN
      rw [if_neg hr]
      cases hb : leavesB m d.neg (decide (A / U % 2 = 1)) (cmpN (A % U + A % U) U)
      · rw [hb] at f4
        rw [if_neg (by simp), Nat.add_zero]
        exact mult_in (d.cls : Int) d.neg ⟨d.dig.toArray⟩ d.exp nb tb eb (m : Int) A U w z0 CA CU sA sU u0 hr sR f f1 f2 f4 N sN DU htab (hsz _ (by omega)) (by omega)
      · rw [hb] at f4
        rw [if_pos rfl]
        exact mult_up (d.cls : Int) d.neg ⟨d.dig.toArray⟩ d.exp nb tb eb (m : Int) A U w z0 CA CU sA sU u0 hr sR f f1 f2 f4 N sN DU htab (hsz _ (by omega)) (by omega) sA1

end Go.Proofs.YtckijnlolmbdiaaGreatDoor

namespace Go.Proofs.YtckijnlolmbdiaaGreatDoor
open Go.RowKit

def zeroD : DecT := ⟨0, false, [], 0⟩

noncomputable def atR (ca : Int) (na : Bool) (l : List UInt8) (ea p m : Int) : DecT × Int := open Classical in
  if ¬ MayD ca na l ea then (zeroD, 52) else if m < 0 ∨ 8 ≤ m then (zeroD, 60) else if p < -4000 ∨ 4000 < p then (zeroD, 61) else rndD ⟨ca.toNat, na, l, ea⟩ 1 p m.toNat

noncomputable def digR (ca : Int) (na : Bool) (l : List UInt8) (ea n m : Int) : DecT × Int := open Classical in
  if ¬ MayD ca na l ea then (zeroD, 52) else if m < 0 ∨ 8 ≤ m then (zeroD, 60) else if n < 1 ∨ 1000 < n then (zeroD, 61) else rndD ⟨ca.toNat, na, l, ea⟩ 1 ((l.length : Int) + ea - n) m.toNat

def StepD (c : Int) (n : Bool) (l : List UInt8) : Prop := c = 0 ∧ n = false ∧ l ≠ [] ∧ l.length ≤ 32

noncomputable def stepR (ca : Int) (na : Bool) (l : List UInt8) (ea : Int) (cb : Int) (nb : Bool) (k : List UInt8) (eb m : Int) : DecT × Int := open Classical in
  if ¬ MayD cb nb k eb then (zeroD, 52) else if ¬ MayD ca na l ea then (zeroD, 52) else if m < 0 ∨ 8 ≤ m then (zeroD, 60) else if ¬ StepD cb nb k then (zeroD, 62) else rndD ⟨ca.toNat, na, l, ea⟩ (decV k) eb m.toNat

theorem may_cls {c : Int} {n : Bool} {l : List UInt8} {e : Int} (h : MayD c n l e) : c = ((c.toNat : Nat) : Int) := by
  rcases h with ⟨h, _⟩ | ⟨h, _⟩ | ⟨h, _⟩ <;> omega

theorem may_of {c : Int} {n : Bool} {l : List UInt8} {e : Int} (h : MayD c n l e) : May ⟨c.toNat, n, l, e⟩ := by
  unfold May
  simp only
  rw [← may_cls h]
  exact h

theorem ok49 : OkT (bys ⟨#[49]⟩) := ⟨by decide, fun h => absurd h (by decide), fun k hk => by
  have h0 : k = 0 := by
    have : (bys ⟨#[49]⟩).length = 1 := rfl
    omega
  subst h0
  decide⟩

theorem may_place {c : Int} {n : Bool} {t : ByteArray} {e : Int} (h : MayD c n (bys t) e) : -3000 ≤ e ∧ e ≤ 2000 ∧ -2000 ≤ (t.size : Int) + e ∧ (t.size : Int) + e ≤ 2000 := by
  rcases h with ⟨_, ⟨h1, h2⟩ | ⟨_, h1, h2, h3, _⟩⟩ | ⟨_, h1, h2⟩ | ⟨_, _, h1, h2⟩
  · rw [bys_nil] at h1; omega
  · rw [bys_len] at h1 h2 h3; omega
  · rw [bys_nil] at h1; omega
  · rw [bys_nil] at h1; omega

theorem may_okT {n : Bool} {t : ByteArray} {e : Int} (h : MayD 0 n (bys t) e) (h0 : t.size ≠ 0) : OkT (bys t) ∧ byt (bys t) 0 ≠ 48 := by
  rcases h with ⟨_, ⟨h1, _⟩ | ⟨h1, _, _, _, h2, _, h3⟩⟩ | ⟨h1, _⟩ | ⟨h1, _⟩
  · exact absurd (bys_nil.1 h1) h0
  · exact ⟨⟨h1, fun e => absurd e h2, h3⟩, h2⟩
  · omega
  · omega

theorem mult_raw (ca : Int) (na : Bool) (ta : ByteArray) (ea : Int) (nb : Bool) (tb : ByteArray) (eb m : Int) (h : MayD ca na (bys ta) ea) (m1 : 0 ≤ m) (m2 : m < 8) (hok : OkT (bys tb)) (h48 : byt (bys tb) 0 ≠ 48) (hs : tb.size ≤ 32) (h1 : -4000 ≤ eb) (h2 : eb ≤ 4000) (w : World) (htab : Tab w) :
    Calls Tryz.prog 41 #[dcV ca na ta ea, dcV 0 nb tb eb, .int .i64 m] w fun e w' => e = .returned (decErr (rndD ⟨ca.toNat, na, bys ta, ea⟩ (decV (bys tb)) eb m.toNat)) ∧ Below w.heap.size w w' := by
  have g := mult_any ⟨ca.toNat, na, bys ta, ea⟩ (may_of h) nb tb eb m.toNat w (by omega) hok h48 hs h1 h2 htab
  unfold decVal at g
  simp only at g
  rw [mk_bys, ← may_cls h, show ((m.toNat : Nat) : Int) = m by omega] at g
  exact g

set_option maxHeartbeats 1000000 in
theorem At_no (ca : Int) (na : Bool) (ta : ByteArray) (ea p m : Int) (w : World) (h : ¬ MayD ca na (bys ta) ea) : Calls Tryz.prog 16 #[dcV ca na ta ea, .int .i64 p, .int .i64 m] w fun e w' => e = .returned (.tuple #[dcV 0 false ⟨#[]⟩ 0, .int .i64 52]) ∧ Below w.heap.size w w' := by
  have CK := hide (fun W => check_no ca na ta ea m W h)
  have Ba0 := hide ((Blk.newAt w (w.heap.size) (rfl) #[.int .i64 ca, .bool na, .string ta, .int .i64 ea] 23).alloc (.cells #[.int .i64 0, .bool false, .string ⟨#[]⟩, .int .i64 0] 23))
  have Br0 := hide (Blk.newAt (w.alloc (.cells #[.int .i64 ca, .bool na, .string ta, .int .i64 ea] 23)) (w.heap.size + 1) (by simp) #[.int .i64 0, .bool false, .string ⟨#[]⟩, .int .i64 0] 23)
  have HB0 : Hid (Below w.heap.size w ((w.alloc (.cells #[.int .i64 ca, .bool na, .string ta, .int .i64 ea] 23)).alloc (.cells #[.int .i64 0, .bool false, .string ⟨#[]⟩, .int .i64 0] 23))) := (((Below.refl _ _).alloc (Nat.le_refl _) _).alloc (by simp <;> omega) _)
  go_enter Tryz.func16, Tryz.ntmps16
  go_wp2_with fail
  refine (CK.out _).mono ?_
  rintro e w1 ⟨rfl, hb⟩
  have Ba1 := hide (Ba0.out.below hb Ba0.out.lt)
  have Br1 := hide (Br0.out.below hb Br0.out.lt)
  have HB1 := hide (HB0.out.trans (hb.mono HB0.out.size))
  clear hb Ba0 Br0 HB0 
  obtain ⟨ya0, ya1, ya2, ya3⟩ := Ba1.out.four
  obtain ⟨yr0, yr1, yr2, yr3⟩ := Br1.out.four
  have fr0 := Br1.out.free 0
  have fr1 := Br1.out.free 1
  have fr2 := Br1.out.free 2
  have fr3 := Br1.out.free 3
  go_wp2
  refine bodyPost_ret (results_dec2 rfl _ _ _ _ _ _ _ rfl (Br1.out.put4 _ _ _ _)) rfl ?_
  exact ⟨rfl, below_put4 (HB1.out) (by omega) _ _ _ _⟩

set_option maxHeartbeats 1000000 in
theorem At_mlow (ca : Int) (na : Bool) (ta : ByteArray) (ea p m : Int) (w : World) (h : MayD ca na (bys ta) ea) (hm : m < 0) : Calls Tryz.prog 16 #[dcV ca na ta ea, .int .i64 p, .int .i64 m] w fun e w' => e = .returned (.tuple #[dcV 0 false ⟨#[]⟩ 0, .int .i64 60]) ∧ Below w.heap.size w w' := by
  have CK := hide (fun W => check_low ca na ta ea m W h hm)
  have Ba0 := hide ((Blk.newAt w (w.heap.size) (rfl) #[.int .i64 ca, .bool na, .string ta, .int .i64 ea] 23).alloc (.cells #[.int .i64 0, .bool false, .string ⟨#[]⟩, .int .i64 0] 23))
  have Br0 := hide (Blk.newAt (w.alloc (.cells #[.int .i64 ca, .bool na, .string ta, .int .i64 ea] 23)) (w.heap.size + 1) (by simp) #[.int .i64 0, .bool false, .string ⟨#[]⟩, .int .i64 0] 23)
  have HB0 : Hid (Below w.heap.size w ((w.alloc (.cells #[.int .i64 ca, .bool na, .string ta, .int .i64 ea] 23)).alloc (.cells #[.int .i64 0, .bool false, .string ⟨#[]⟩, .int .i64 0] 23))) := (((Below.refl _ _).alloc (Nat.le_refl _) _).alloc (by simp <;> omega) _)
  go_enter Tryz.func16, Tryz.ntmps16
  go_wp2_with fail
  refine (CK.out _).mono ?_
  rintro e w1 ⟨rfl, hb⟩
  have Ba1 := hide (Ba0.out.below hb Ba0.out.lt)
  have Br1 := hide (Br0.out.below hb Br0.out.lt)
  have HB1 := hide (HB0.out.trans (hb.mono HB0.out.size))
  clear hb Ba0 Br0 HB0 
  obtain ⟨ya0, ya1, ya2, ya3⟩ := Ba1.out.four
  obtain ⟨yr0, yr1, yr2, yr3⟩ := Br1.out.four
  have fr0 := Br1.out.free 0
  have fr1 := Br1.out.free 1
  have fr2 := Br1.out.free 2
  have fr3 := Br1.out.free 3
  go_wp2
  refine bodyPost_ret (results_dec2 rfl _ _ _ _ _ _ _ rfl (Br1.out.put4 _ _ _ _)) rfl ?_
  exact ⟨rfl, below_put4 (HB1.out) (by omega) _ _ _ _⟩

set_option maxHeartbeats 1000000 in
theorem At_mhigh (ca : Int) (na : Bool) (ta : ByteArray) (ea p m : Int) (w : World) (h : MayD ca na (bys ta) ea) (hm : 8 ≤ m) : Calls Tryz.prog 16 #[dcV ca na ta ea, .int .i64 p, .int .i64 m] w fun e w' => e = .returned (.tuple #[dcV 0 false ⟨#[]⟩ 0, .int .i64 60]) ∧ Below w.heap.size w w' := by
  have CK := hide (fun W => check_high ca na ta ea m W h hm)
  have Ba0 := hide ((Blk.newAt w (w.heap.size) (rfl) #[.int .i64 ca, .bool na, .string ta, .int .i64 ea] 23).alloc (.cells #[.int .i64 0, .bool false, .string ⟨#[]⟩, .int .i64 0] 23))
  have Br0 := hide (Blk.newAt (w.alloc (.cells #[.int .i64 ca, .bool na, .string ta, .int .i64 ea] 23)) (w.heap.size + 1) (by simp) #[.int .i64 0, .bool false, .string ⟨#[]⟩, .int .i64 0] 23)
  have HB0 : Hid (Below w.heap.size w ((w.alloc (.cells #[.int .i64 ca, .bool na, .string ta, .int .i64 ea] 23)).alloc (.cells #[.int .i64 0, .bool false, .string ⟨#[]⟩, .int .i64 0] 23))) := (((Below.refl _ _).alloc (Nat.le_refl _) _).alloc (by simp <;> omega) _)
  go_enter Tryz.func16, Tryz.ntmps16
  go_wp2_with fail
  refine (CK.out _).mono ?_
  rintro e w1 ⟨rfl, hb⟩
  have Ba1 := hide (Ba0.out.below hb Ba0.out.lt)
  have Br1 := hide (Br0.out.below hb Br0.out.lt)
  have HB1 := hide (HB0.out.trans (hb.mono HB0.out.size))
  clear hb Ba0 Br0 HB0 
  obtain ⟨ya0, ya1, ya2, ya3⟩ := Ba1.out.four
  obtain ⟨yr0, yr1, yr2, yr3⟩ := Br1.out.four
  have fr0 := Br1.out.free 0
  have fr1 := Br1.out.free 1
  have fr2 := Br1.out.free 2
  have fr3 := Br1.out.free 3
  go_wp2
  refine bodyPost_ret (results_dec2 rfl _ _ _ _ _ _ _ rfl (Br1.out.put4 _ _ _ _)) rfl ?_
  exact ⟨rfl, below_put4 (HB1.out) (by omega) _ _ _ _⟩

set_option maxHeartbeats 1000000 in
theorem At_low (ca : Int) (na : Bool) (ta : ByteArray) (ea p m : Int) (w : World) (h : MayD ca na (bys ta) ea) (m1 : 0 ≤ m) (m2 : m < 8) (hp : p < -4000) : Calls Tryz.prog 16 #[dcV ca na ta ea, .int .i64 p, .int .i64 m] w fun e w' => e = .returned (.tuple #[dcV 0 false ⟨#[]⟩ 0, .int .i64 61]) ∧ Below w.heap.size w w' := by
  have CK := hide (fun W => check_ok ca na ta ea m W h m1 m2)
  have Ba0 := hide ((Blk.newAt w (w.heap.size) (rfl) #[.int .i64 ca, .bool na, .string ta, .int .i64 ea] 23).alloc (.cells #[.int .i64 0, .bool false, .string ⟨#[]⟩, .int .i64 0] 23))
  have Br0 := hide (Blk.newAt (w.alloc (.cells #[.int .i64 ca, .bool na, .string ta, .int .i64 ea] 23)) (w.heap.size + 1) (by simp) #[.int .i64 0, .bool false, .string ⟨#[]⟩, .int .i64 0] 23)
  have HB0 : Hid (Below w.heap.size w ((w.alloc (.cells #[.int .i64 ca, .bool na, .string ta, .int .i64 ea] 23)).alloc (.cells #[.int .i64 0, .bool false, .string ⟨#[]⟩, .int .i64 0] 23))) := (((Below.refl _ _).alloc (Nat.le_refl _) _).alloc (by simp <;> omega) _)
  go_enter Tryz.func16, Tryz.ntmps16
  go_wp2_with fail
  refine (CK.out _).mono ?_
  rintro e w1 ⟨rfl, hb⟩
  have Ba1 := hide (Ba0.out.below hb Ba0.out.lt)
  have Br1 := hide (Br0.out.below hb Br0.out.lt)
  have HB1 := hide (HB0.out.trans (hb.mono HB0.out.size))
  clear hb Ba0 Br0 HB0 
  obtain ⟨ya0, ya1, ya2, ya3⟩ := Ba1.out.four
  obtain ⟨yr0, yr1, yr2, yr3⟩ := Br1.out.four
  have fr0 := Br1.out.free 0
  have fr1 := Br1.out.free 1
  have fr2 := Br1.out.free 2
  have fr3 := Br1.out.free 3
  go_wp2
  refine bodyPost_ret (results_dec2 rfl _ _ _ _ _ _ _ rfl (Br1.out.put4 _ _ _ _)) rfl ?_
  exact ⟨rfl, below_put4 (HB1.out) (by omega) _ _ _ _⟩

set_option maxHeartbeats 1000000 in
theorem At_high (ca : Int) (na : Bool) (ta : ByteArray) (ea p m : Int) (w : World) (h : MayD ca na (bys ta) ea) (m1 : 0 ≤ m) (m2 : m < 8) (hp : 4000 < p) : Calls Tryz.prog 16 #[dcV ca na ta ea, .int .i64 p, .int .i64 m] w fun e w' => e = .returned (.tuple #[dcV 0 false ⟨#[]⟩ 0, .int .i64 61]) ∧ Below w.heap.size w w' := by
  have CK := hide (fun W => check_ok ca na ta ea m W h m1 m2)
  have Ba0 := hide ((Blk.newAt w (w.heap.size) (rfl) #[.int .i64 ca, .bool na, .string ta, .int .i64 ea] 23).alloc (.cells #[.int .i64 0, .bool false, .string ⟨#[]⟩, .int .i64 0] 23))
  have Br0 := hide (Blk.newAt (w.alloc (.cells #[.int .i64 ca, .bool na, .string ta, .int .i64 ea] 23)) (w.heap.size + 1) (by simp) #[.int .i64 0, .bool false, .string ⟨#[]⟩, .int .i64 0] 23)
  have HB0 : Hid (Below w.heap.size w ((w.alloc (.cells #[.int .i64 ca, .bool na, .string ta, .int .i64 ea] 23)).alloc (.cells #[.int .i64 0, .bool false, .string ⟨#[]⟩, .int .i64 0] 23))) := (((Below.refl _ _).alloc (Nat.le_refl _) _).alloc (by simp <;> omega) _)
  go_enter Tryz.func16, Tryz.ntmps16
  go_wp2_with fail
  refine (CK.out _).mono ?_
  rintro e w1 ⟨rfl, hb⟩
  have Ba1 := hide (Ba0.out.below hb Ba0.out.lt)
  have Br1 := hide (Br0.out.below hb Br0.out.lt)
  have HB1 := hide (HB0.out.trans (hb.mono HB0.out.size))
  clear hb Ba0 Br0 HB0 
  obtain ⟨ya0, ya1, ya2, ya3⟩ := Ba1.out.four
  obtain ⟨yr0, yr1, yr2, yr3⟩ := Br1.out.four
  have fr0 := Br1.out.free 0
  have fr1 := Br1.out.free 1
  have fr2 := Br1.out.free 2
  have fr3 := Br1.out.free 3
  go_wp2
  refine bodyPost_ret (results_dec2 rfl _ _ _ _ _ _ _ rfl (Br1.out.put4 _ _ _ _)) rfl ?_
  exact ⟨rfl, below_put4 (HB1.out) (by omega) _ _ _ _⟩

set_option maxHeartbeats 4000000 in
theorem At_in (ca : Int) (na : Bool) (ta : ByteArray) (ea p m : Int) (w : World) (h : MayD ca na (bys ta) ea) (m1 : 0 ≤ m) (m2 : m < 8) (p1 : -4000 ≤ p) (p2 : p ≤ 4000) (htab : Tab w) : Calls Tryz.prog 16 #[dcV ca na ta ea, .int .i64 p, .int .i64 m] w fun e w' => e = .returned (decErr (rndD ⟨ca.toNat, na, bys ta, ea⟩ 1 p m.toNat)) ∧ Below w.heap.size w w' := by
  have CK := hide (fun W => check_ok ca na ta ea m W h m1 m2)
  have bd := may_place h
  have MG := fun (W : World) (hT : Tab W) => mult_raw ca na ta ea false ⟨#[49]⟩ p m h m1 m2 ok49 (by decide) (by decide) (by omega) (by omega) W hT
  rw [show decV (bys ⟨#[49]⟩) = 1 from rfl] at MG
  rcases hR : rndD ⟨ca.toNat, na, bys ta, ea⟩ 1 p m.toNat with ⟨⟨cc, nn, ll, ee⟩, er⟩
  rw [hR] at MG
  unfold decErr decVal at MG ⊢
  simp only at MG ⊢
  obtain ⟨D, hD⟩ : ∃ D : ByteArray, D = ⟨ll.toArray⟩ := ⟨_, rfl⟩
  rw [← hD] at MG ⊢
  have MU := hide MG
  have HT := hide htab
  clear MG hR hD htab
  clear h bd
  have Ba0 := hide ((Blk.newAt w (w.heap.size) (rfl) #[.int .i64 ca, .bool na, .string ta, .int .i64 ea] 23).alloc (.cells #[.int .i64 0, .bool false, .string ⟨#[]⟩, .int .i64 0] 23))
  have Br0 := hide (Blk.newAt (w.alloc (.cells #[.int .i64 ca, .bool na, .string ta, .int .i64 ea] 23)) (w.heap.size + 1) (by simp) #[.int .i64 0, .bool false, .string ⟨#[]⟩, .int .i64 0] 23)
  have HB0 : Hid (Below w.heap.size w ((w.alloc (.cells #[.int .i64 ca, .bool na, .string ta, .int .i64 ea] 23)).alloc (.cells #[.int .i64 0, .bool false, .string ⟨#[]⟩, .int .i64 0] 23))) := (((Below.refl _ _).alloc (Nat.le_refl _) _).alloc (by simp <;> omega) _)
  go_enter Tryz.func16, Tryz.ntmps16
  go_wp2_with fail
  refine (CK.out _).mono ?_
  rintro e w1 ⟨rfl, hb⟩
  clear CK
  have Ba1 := hide (Ba0.out.below hb Ba0.out.lt)
  have Br1 := hide (Br0.out.below hb Br0.out.lt)
  have HB1 := hide (HB0.out.trans (hb.mono HB0.out.size))
  clear hb Ba0 Br0 HB0 
  obtain ⟨ya0, ya1, ya2, ya3⟩ := Ba1.out.four
  obtain ⟨yr0, yr1, yr2, yr3⟩ := Br1.out.four
  have HTC := hide (HT.out.below HB1.out)
  clear HT
  have HL : Hid (w.heap.size < w1.heap.size ∧ w.heap.size + 1 < w1.heap.size) := ⟨Ba1.out.lt, Br1.out.lt⟩
  obtain ⟨G, hG⟩ : ∃ G, G = w.heap.size + 1 := ⟨_, rfl⟩
  have gn0 : ¬ G = w.heap.size := by omega
  have gn1 : ¬ w.heap.size = G := by omega
  have gle : w.heap.size ≤ G := by omega
  have HG := hide hG
  rw [← hG] at Br1
  clear hG HL ya0 ya1 ya2 ya3 yr0 yr1 yr2 yr3
  have d0 : w1.cell? ⟨w.heap.size, 0, none⟩ = some (.int .i64 ca) := Ba1.out.cell 0
  have d1 : w1.cell? ⟨w.heap.size, 1, none⟩ = some (.bool na) := Ba1.out.cell 1
  have d2 : w1.cell? ⟨w.heap.size, 2, none⟩ = some (.string ta) := Ba1.out.cell 2
  have d3 : w1.cell? ⟨w.heap.size, 3, none⟩ = some (.int .i64 ea) := Ba1.out.cell 3
  have HC : Hid (∀ w', Below w1.heap.size w1 w' → w'.cell? ⟨w.heap.size, 0, none⟩ = some (.int .i64 ca) ∧ w'.cell? ⟨w.heap.size, 1, none⟩ = some (.bool na) ∧ w'.cell? ⟨w.heap.size, 2, none⟩ = some (.string ta) ∧ w'.cell? ⟨w.heap.size, 3, none⟩ = some (.int .i64 ea) ∧ w'.cell? ⟨G, 0, none⟩ = some (.int .i64 0) ∧ w'.cell? ⟨G, 1, none⟩ = some (.bool false) ∧ w'.cell? ⟨G, 2, none⟩ = some (.string ⟨#[]⟩) ∧ w'.cell? ⟨G, 3, none⟩ = some (.int .i64 0) ∧ w'.frozen? ⟨G, 0, none⟩ = false ∧ w'.frozen? ⟨G, 1, none⟩ = false ∧ w'.frozen? ⟨G, 2, none⟩ = false ∧ w'.frozen? ⟨G, 3, none⟩ = false) := by
    intro w' hb
    have Ba1q := Ba1.out.below hb Ba1.out.lt
    have Br1q := Br1.out.below hb Br1.out.lt
    exact ⟨Ba1q.cell 0, Ba1q.cell 1, Ba1q.cell 2, Ba1q.cell 3, Br1q.cell 0, Br1q.cell 1, Br1q.cell 2, Br1q.cell 3, Br1q.free 0, Br1q.free 1, Br1q.free 2, Br1q.free 3⟩
  have b0 : Hid (Below w1.heap.size w1 w1.drew) := bdrewD w1
  have C0 : Hid (∀ X, Hid (Below w1.heap.size w1 X) → Calls Tryz.prog 42 #[.int .i64 p] X fun e w' => e = .returned (.agg #[.int .i64 0, .bool false, .string ⟨#[49]⟩, .int .i64 p]) ∧ Hid (Below w1.heap.size w1 w') ∧ w'.cell? ⟨w.heap.size, 0, none⟩ = some (.int .i64 ca) ∧ w'.cell? ⟨w.heap.size, 1, none⟩ = some (.bool na) ∧ w'.cell? ⟨w.heap.size, 2, none⟩ = some (.string ta) ∧ w'.cell? ⟨w.heap.size, 3, none⟩ = some (.int .i64 ea) ∧ w'.cell? ⟨G, 0, none⟩ = some (.int .i64 0) ∧ w'.cell? ⟨G, 1, none⟩ = some (.bool false) ∧ w'.cell? ⟨G, 2, none⟩ = some (.string ⟨#[]⟩) ∧ w'.cell? ⟨G, 3, none⟩ = some (.int .i64 0) ∧ w'.frozen? ⟨G, 0, none⟩ = false ∧ w'.frozen? ⟨G, 1, none⟩ = false ∧ w'.frozen? ⟨G, 2, none⟩ = false ∧ w'.frozen? ⟨G, 3, none⟩ = false) := by
    intro X  bX 
    refine (powerOfTen_any p X).mono ?_
    rintro e w' ⟨rfl, hb⟩
    have bb := bX.out.trans (hb.mono bX.out.size)
    exact ⟨rfl, bb, HC.out _ bb⟩
  have C1 : Hid (∀ X, Hid (Below w1.heap.size w1 X) → Calls Tryz.prog 41 #[dcV ca na ta ea, dcV 0 false ⟨#[49]⟩ p, .int .i64 m] X fun e w' => e = .returned (.tuple #[.agg #[.int .i64 (cc : Int), .bool nn, .string D, .int .i64 ee], .int .i64 er]) ∧ Hid (Below w1.heap.size w1 w') ∧ w'.cell? ⟨w.heap.size, 0, none⟩ = some (.int .i64 ca) ∧ w'.cell? ⟨w.heap.size, 1, none⟩ = some (.bool na) ∧ w'.cell? ⟨w.heap.size, 2, none⟩ = some (.string ta) ∧ w'.cell? ⟨w.heap.size, 3, none⟩ = some (.int .i64 ea) ∧ w'.cell? ⟨G, 0, none⟩ = some (.int .i64 0) ∧ w'.cell? ⟨G, 1, none⟩ = some (.bool false) ∧ w'.cell? ⟨G, 2, none⟩ = some (.string ⟨#[]⟩) ∧ w'.cell? ⟨G, 3, none⟩ = some (.int .i64 0) ∧ w'.frozen? ⟨G, 0, none⟩ = false ∧ w'.frozen? ⟨G, 1, none⟩ = false ∧ w'.frozen? ⟨G, 2, none⟩ = false ∧ w'.frozen? ⟨G, 3, none⟩ = false) := by
    intro X  bX 
    refine (MU.out X (HTC.out.below bX.out)).mono ?_
    rintro e w' ⟨rfl, hb⟩
    have bb := bX.out.trans (hb.mono bX.out.size)
    exact ⟨rfl, bb, HC.out _ bb⟩
  have BRF : Hid (∀ w', Below w1.heap.size w1 w' → Below w.heap.size w w' ∧ Blk w' G #[.int .i64 0, .bool false, .string ⟨#[]⟩, .int .i64 0] 23) := fun w' hb => ⟨HB1.out.trans (hb.mono HB1.out.size), Br1.out.below hb Br1.out.lt⟩
  clear HC Ba1 Br1 HB1 HTC MU
  go_wp2_with fail
  simp only [← HG.out]
  have mk0 : True := trivial
  go_region_held3 (fun w' => w'.cell? ⟨w.heap.size, 0, none⟩ = some (.int .i64 ca) ∧ w'.cell? ⟨w.heap.size, 1, none⟩ = some (.bool na) ∧ w'.cell? ⟨w.heap.size, 2, none⟩ = some (.string ta) ∧ w'.cell? ⟨w.heap.size, 3, none⟩ = some (.int .i64 ea)) (go_keep) (first
    | (clear mk0; go_at_call 42; refine (C0.out _  b0 ).mono ?_; rintro e v1 ⟨rfl, b1, q0_0, q0_1, q0_2, q0_3, q0_4, q0_5, q0_6, q0_7, q0_8, q0_9, q0_10, q0_11⟩; have mk1 : True := trivial)
    | (clear mk1; go_at_call 41; refine (C1.out _  b1 ).mono ?_; rintro e v2 ⟨rfl, b2, q1_0, q1_1, q1_2, q1_3, q1_4, q1_5, q1_6, q1_7, q1_8, q1_9, q1_10, q1_11⟩; have mk2 : True := trivial))
  obtain ⟨hbel, hblk⟩ := BRF.out _ b2.out
  have HBL := hide hbel
  have QR := hide hblk
  clear hbel hblk BRF b0 b1 b2 C0 C1
  repeat (first | go_values | go_skip | go_guarded | go_step | go_upon)
  refine bodyPost_ret (results_dec2 rfl _ _ _ _ _ _ _ rfl (QR.out.put4 _ _ _ _)) rfl ?_
  exact ⟨rfl, below_put4 HBL.out gle _ _ _ _⟩

theorem At_any (ca : Int) (na : Bool) (ta : ByteArray) (ea p m : Int) (w : World) (htab : Tab w) : Calls Tryz.prog 16 #[dcV ca na ta ea, .int .i64 p, .int .i64 m] w fun e w' => e = .returned (decErr (atR ca na (bys ta) ea p m)) ∧ Below w.heap.size w w' := by
  unfold atR
  by_cases h : MayD ca na (bys ta) ea
  · rw [if_neg (fun g => g h)]
    by_cases h1 : m < 0
    · rw [if_pos (.inl h1)]
      exact At_mlow ca na ta ea p m w h h1
    · by_cases h2 : 8 ≤ m
      · rw [if_pos (.inr h2)]
        exact At_mhigh ca na ta ea p m w h h2
      · rw [if_neg (by omega)]
        by_cases h3 : p < -4000
        · rw [if_pos (.inl h3)]
          exact At_low ca na ta ea p m w h (by omega) (by omega) h3
        · by_cases h4 : 4000 < p
          · rw [if_pos (.inr h4)]
            exact At_high ca na ta ea p m w h (by omega) (by omega) h4
          · rw [if_neg (by omega)]
            exact At_in ca na ta ea p m w h (by omega) (by omega) (by omega) (by omega) htab
  · rw [if_pos h]
    exact At_no ca na ta ea p m w h

set_option maxHeartbeats 1000000 in
theorem Digits_no (ca : Int) (na : Bool) (ta : ByteArray) (ea n m : Int) (w : World) (h : ¬ MayD ca na (bys ta) ea) : Calls Tryz.prog 50 #[dcV ca na ta ea, .int .i64 n, .int .i64 m] w fun e w' => e = .returned (.tuple #[dcV 0 false ⟨#[]⟩ 0, .int .i64 52]) ∧ Below w.heap.size w w' := by
  have CK := hide (fun W => check_no ca na ta ea m W h)
  have Ba0 := hide ((Blk.newAt w (w.heap.size) (rfl) #[.int .i64 ca, .bool na, .string ta, .int .i64 ea] 23).alloc (.cells #[.int .i64 0, .bool false, .string ⟨#[]⟩, .int .i64 0] 23))
  have Br0 := hide (Blk.newAt (w.alloc (.cells #[.int .i64 ca, .bool na, .string ta, .int .i64 ea] 23)) (w.heap.size + 1) (by simp) #[.int .i64 0, .bool false, .string ⟨#[]⟩, .int .i64 0] 23)
  have HB0 : Hid (Below w.heap.size w ((w.alloc (.cells #[.int .i64 ca, .bool na, .string ta, .int .i64 ea] 23)).alloc (.cells #[.int .i64 0, .bool false, .string ⟨#[]⟩, .int .i64 0] 23))) := (((Below.refl _ _).alloc (Nat.le_refl _) _).alloc (by simp <;> omega) _)
  go_enter Tryz.func50, Tryz.ntmps50
  go_wp2_with fail
  refine (CK.out _).mono ?_
  rintro e w1 ⟨rfl, hb⟩
  have Ba1 := hide (Ba0.out.below hb Ba0.out.lt)
  have Br1 := hide (Br0.out.below hb Br0.out.lt)
  have HB1 := hide (HB0.out.trans (hb.mono HB0.out.size))
  clear hb Ba0 Br0 HB0 
  obtain ⟨ya0, ya1, ya2, ya3⟩ := Ba1.out.four
  obtain ⟨yr0, yr1, yr2, yr3⟩ := Br1.out.four
  have fr0 := Br1.out.free 0
  have fr1 := Br1.out.free 1
  have fr2 := Br1.out.free 2
  have fr3 := Br1.out.free 3
  go_wp2
  refine bodyPost_ret (results_dec2 rfl _ _ _ _ _ _ _ rfl (Br1.out.put4 _ _ _ _)) rfl ?_
  exact ⟨rfl, below_put4 (HB1.out) (by omega) _ _ _ _⟩

set_option maxHeartbeats 1000000 in
theorem Digits_mlow (ca : Int) (na : Bool) (ta : ByteArray) (ea n m : Int) (w : World) (h : MayD ca na (bys ta) ea) (hm : m < 0) : Calls Tryz.prog 50 #[dcV ca na ta ea, .int .i64 n, .int .i64 m] w fun e w' => e = .returned (.tuple #[dcV 0 false ⟨#[]⟩ 0, .int .i64 60]) ∧ Below w.heap.size w w' := by
  have CK := hide (fun W => check_low ca na ta ea m W h hm)
  have Ba0 := hide ((Blk.newAt w (w.heap.size) (rfl) #[.int .i64 ca, .bool na, .string ta, .int .i64 ea] 23).alloc (.cells #[.int .i64 0, .bool false, .string ⟨#[]⟩, .int .i64 0] 23))
  have Br0 := hide (Blk.newAt (w.alloc (.cells #[.int .i64 ca, .bool na, .string ta, .int .i64 ea] 23)) (w.heap.size + 1) (by simp) #[.int .i64 0, .bool false, .string ⟨#[]⟩, .int .i64 0] 23)
  have HB0 : Hid (Below w.heap.size w ((w.alloc (.cells #[.int .i64 ca, .bool na, .string ta, .int .i64 ea] 23)).alloc (.cells #[.int .i64 0, .bool false, .string ⟨#[]⟩, .int .i64 0] 23))) := (((Below.refl _ _).alloc (Nat.le_refl _) _).alloc (by simp <;> omega) _)
  go_enter Tryz.func50, Tryz.ntmps50
  go_wp2_with fail
  refine (CK.out _).mono ?_
  rintro e w1 ⟨rfl, hb⟩
  have Ba1 := hide (Ba0.out.below hb Ba0.out.lt)
  have Br1 := hide (Br0.out.below hb Br0.out.lt)
  have HB1 := hide (HB0.out.trans (hb.mono HB0.out.size))
  clear hb Ba0 Br0 HB0 
  obtain ⟨ya0, ya1, ya2, ya3⟩ := Ba1.out.four
  obtain ⟨yr0, yr1, yr2, yr3⟩ := Br1.out.four
  have fr0 := Br1.out.free 0
  have fr1 := Br1.out.free 1
  have fr2 := Br1.out.free 2
  have fr3 := Br1.out.free 3
  go_wp2
  refine bodyPost_ret (results_dec2 rfl _ _ _ _ _ _ _ rfl (Br1.out.put4 _ _ _ _)) rfl ?_
  exact ⟨rfl, below_put4 (HB1.out) (by omega) _ _ _ _⟩

set_option maxHeartbeats 1000000 in
theorem Digits_mhigh (ca : Int) (na : Bool) (ta : ByteArray) (ea n m : Int) (w : World) (h : MayD ca na (bys ta) ea) (hm : 8 ≤ m) : Calls Tryz.prog 50 #[dcV ca na ta ea, .int .i64 n, .int .i64 m] w fun e w' => e = .returned (.tuple #[dcV 0 false ⟨#[]⟩ 0, .int .i64 60]) ∧ Below w.heap.size w w' := by
  have CK := hide (fun W => check_high ca na ta ea m W h hm)
  have Ba0 := hide ((Blk.newAt w (w.heap.size) (rfl) #[.int .i64 ca, .bool na, .string ta, .int .i64 ea] 23).alloc (.cells #[.int .i64 0, .bool false, .string ⟨#[]⟩, .int .i64 0] 23))
  have Br0 := hide (Blk.newAt (w.alloc (.cells #[.int .i64 ca, .bool na, .string ta, .int .i64 ea] 23)) (w.heap.size + 1) (by simp) #[.int .i64 0, .bool false, .string ⟨#[]⟩, .int .i64 0] 23)
  have HB0 : Hid (Below w.heap.size w ((w.alloc (.cells #[.int .i64 ca, .bool na, .string ta, .int .i64 ea] 23)).alloc (.cells #[.int .i64 0, .bool false, .string ⟨#[]⟩, .int .i64 0] 23))) := (((Below.refl _ _).alloc (Nat.le_refl _) _).alloc (by simp <;> omega) _)
  go_enter Tryz.func50, Tryz.ntmps50
  go_wp2_with fail
  refine (CK.out _).mono ?_
  rintro e w1 ⟨rfl, hb⟩
  have Ba1 := hide (Ba0.out.below hb Ba0.out.lt)
  have Br1 := hide (Br0.out.below hb Br0.out.lt)
  have HB1 := hide (HB0.out.trans (hb.mono HB0.out.size))
  clear hb Ba0 Br0 HB0 
  obtain ⟨ya0, ya1, ya2, ya3⟩ := Ba1.out.four
  obtain ⟨yr0, yr1, yr2, yr3⟩ := Br1.out.four
  have fr0 := Br1.out.free 0
  have fr1 := Br1.out.free 1
  have fr2 := Br1.out.free 2
  have fr3 := Br1.out.free 3
  go_wp2
  refine bodyPost_ret (results_dec2 rfl _ _ _ _ _ _ _ rfl (Br1.out.put4 _ _ _ _)) rfl ?_
  exact ⟨rfl, below_put4 (HB1.out) (by omega) _ _ _ _⟩

set_option maxHeartbeats 1000000 in
theorem Digits_low (ca : Int) (na : Bool) (ta : ByteArray) (ea n m : Int) (w : World) (h : MayD ca na (bys ta) ea) (m1 : 0 ≤ m) (m2 : m < 8) (hp : n < 1) : Calls Tryz.prog 50 #[dcV ca na ta ea, .int .i64 n, .int .i64 m] w fun e w' => e = .returned (.tuple #[dcV 0 false ⟨#[]⟩ 0, .int .i64 61]) ∧ Below w.heap.size w w' := by
  have CK := hide (fun W => check_ok ca na ta ea m W h m1 m2)
  have Ba0 := hide ((Blk.newAt w (w.heap.size) (rfl) #[.int .i64 ca, .bool na, .string ta, .int .i64 ea] 23).alloc (.cells #[.int .i64 0, .bool false, .string ⟨#[]⟩, .int .i64 0] 23))
  have Br0 := hide (Blk.newAt (w.alloc (.cells #[.int .i64 ca, .bool na, .string ta, .int .i64 ea] 23)) (w.heap.size + 1) (by simp) #[.int .i64 0, .bool false, .string ⟨#[]⟩, .int .i64 0] 23)
  have HB0 : Hid (Below w.heap.size w ((w.alloc (.cells #[.int .i64 ca, .bool na, .string ta, .int .i64 ea] 23)).alloc (.cells #[.int .i64 0, .bool false, .string ⟨#[]⟩, .int .i64 0] 23))) := (((Below.refl _ _).alloc (Nat.le_refl _) _).alloc (by simp <;> omega) _)
  go_enter Tryz.func50, Tryz.ntmps50
  go_wp2_with fail
  refine (CK.out _).mono ?_
  rintro e w1 ⟨rfl, hb⟩
  have Ba1 := hide (Ba0.out.below hb Ba0.out.lt)
  have Br1 := hide (Br0.out.below hb Br0.out.lt)
  have HB1 := hide (HB0.out.trans (hb.mono HB0.out.size))
  clear hb Ba0 Br0 HB0 
  obtain ⟨ya0, ya1, ya2, ya3⟩ := Ba1.out.four
  obtain ⟨yr0, yr1, yr2, yr3⟩ := Br1.out.four
  have fr0 := Br1.out.free 0
  have fr1 := Br1.out.free 1
  have fr2 := Br1.out.free 2
  have fr3 := Br1.out.free 3
  go_wp2
  refine bodyPost_ret (results_dec2 rfl _ _ _ _ _ _ _ rfl (Br1.out.put4 _ _ _ _)) rfl ?_
  exact ⟨rfl, below_put4 (HB1.out) (by omega) _ _ _ _⟩

set_option maxHeartbeats 1000000 in
theorem Digits_high (ca : Int) (na : Bool) (ta : ByteArray) (ea n m : Int) (w : World) (h : MayD ca na (bys ta) ea) (m1 : 0 ≤ m) (m2 : m < 8) (hp : 1000 < n) : Calls Tryz.prog 50 #[dcV ca na ta ea, .int .i64 n, .int .i64 m] w fun e w' => e = .returned (.tuple #[dcV 0 false ⟨#[]⟩ 0, .int .i64 61]) ∧ Below w.heap.size w w' := by
  have CK := hide (fun W => check_ok ca na ta ea m W h m1 m2)
  have Ba0 := hide ((Blk.newAt w (w.heap.size) (rfl) #[.int .i64 ca, .bool na, .string ta, .int .i64 ea] 23).alloc (.cells #[.int .i64 0, .bool false, .string ⟨#[]⟩, .int .i64 0] 23))
  have Br0 := hide (Blk.newAt (w.alloc (.cells #[.int .i64 ca, .bool na, .string ta, .int .i64 ea] 23)) (w.heap.size + 1) (by simp) #[.int .i64 0, .bool false, .string ⟨#[]⟩, .int .i64 0] 23)
  have HB0 : Hid (Below w.heap.size w ((w.alloc (.cells #[.int .i64 ca, .bool na, .string ta, .int .i64 ea] 23)).alloc (.cells #[.int .i64 0, .bool false, .string ⟨#[]⟩, .int .i64 0] 23))) := (((Below.refl _ _).alloc (Nat.le_refl _) _).alloc (by simp <;> omega) _)
  go_enter Tryz.func50, Tryz.ntmps50
  go_wp2_with fail
  refine (CK.out _).mono ?_
  rintro e w1 ⟨rfl, hb⟩
  have Ba1 := hide (Ba0.out.below hb Ba0.out.lt)
  have Br1 := hide (Br0.out.below hb Br0.out.lt)
  have HB1 := hide (HB0.out.trans (hb.mono HB0.out.size))
  clear hb Ba0 Br0 HB0 
  obtain ⟨ya0, ya1, ya2, ya3⟩ := Ba1.out.four
  obtain ⟨yr0, yr1, yr2, yr3⟩ := Br1.out.four
  have fr0 := Br1.out.free 0
  have fr1 := Br1.out.free 1
  have fr2 := Br1.out.free 2
  have fr3 := Br1.out.free 3
  go_wp2
  refine bodyPost_ret (results_dec2 rfl _ _ _ _ _ _ _ rfl (Br1.out.put4 _ _ _ _)) rfl ?_
  exact ⟨rfl, below_put4 (HB1.out) (by omega) _ _ _ _⟩

set_option maxHeartbeats 4000000 in
theorem Digits_in (ca : Int) (na : Bool) (ta : ByteArray) (ea n m : Int) (w : World) (h : MayD ca na (bys ta) ea) (m1 : 0 ≤ m) (m2 : m < 8) (p1 : 1 ≤ n) (p2 : n ≤ 1000) (htab : Tab w) : Calls Tryz.prog 50 #[dcV ca na ta ea, .int .i64 n, .int .i64 m] w fun e w' => e = .returned (decErr (rndD ⟨ca.toNat, na, bys ta, ea⟩ 1 (((bys ta).length : Int) + ea - n) m.toNat)) ∧ Below w.heap.size w w' := by
  have CK := hide (fun W => check_ok ca na ta ea m W h m1 m2)
  have bd := may_place h
  have MG := fun (W : World) (hT : Tab W) => mult_raw ca na ta ea false ⟨#[49]⟩ ((ta.size : Int) + ea - n) m h m1 m2 ok49 (by decide) (by decide) (by omega) (by omega) W hT
  rw [show decV (bys ⟨#[49]⟩) = 1 from rfl] at MG
  have hw : IntKind.i64.wrap ((ta.size : Int) + ea - n) = (ta.size : Int) + ea - n := by rw [IntKind.wrap_i64]; omega
  have PL := hide (fun W => Place_yes ca na ta ea W h)
  rw [bys_len]
  rcases hR : rndD ⟨ca.toNat, na, bys ta, ea⟩ 1 ((ta.size : Int) + ea - n) m.toNat with ⟨⟨cc, nn, ll, ee⟩, er⟩
  rw [hR] at MG
  unfold decErr decVal at MG ⊢
  simp only at MG ⊢
  obtain ⟨D, hD⟩ : ∃ D : ByteArray, D = ⟨ll.toArray⟩ := ⟨_, rfl⟩
  rw [← hD] at MG ⊢
  have MU := hide MG
  have HT := hide htab
  clear MG hR hD htab
  clear h bd
  have Ba0 := hide ((Blk.newAt w (w.heap.size) (rfl) #[.int .i64 ca, .bool na, .string ta, .int .i64 ea] 23).alloc (.cells #[.int .i64 0, .bool false, .string ⟨#[]⟩, .int .i64 0] 23))
  have Br0 := hide (Blk.newAt (w.alloc (.cells #[.int .i64 ca, .bool na, .string ta, .int .i64 ea] 23)) (w.heap.size + 1) (by simp) #[.int .i64 0, .bool false, .string ⟨#[]⟩, .int .i64 0] 23)
  have HB0 : Hid (Below w.heap.size w ((w.alloc (.cells #[.int .i64 ca, .bool na, .string ta, .int .i64 ea] 23)).alloc (.cells #[.int .i64 0, .bool false, .string ⟨#[]⟩, .int .i64 0] 23))) := (((Below.refl _ _).alloc (Nat.le_refl _) _).alloc (by simp <;> omega) _)
  go_enter Tryz.func50, Tryz.ntmps50
  go_wp2_with fail
  refine (CK.out _).mono ?_
  rintro e w1 ⟨rfl, hb⟩
  clear CK
  have Ba1 := hide (Ba0.out.below hb Ba0.out.lt)
  have Br1 := hide (Br0.out.below hb Br0.out.lt)
  have HB1 := hide (HB0.out.trans (hb.mono HB0.out.size))
  clear hb Ba0 Br0 HB0 
  obtain ⟨ya0, ya1, ya2, ya3⟩ := Ba1.out.four
  obtain ⟨yr0, yr1, yr2, yr3⟩ := Br1.out.four
  have HTC := hide (HT.out.below HB1.out)
  clear HT
  have HL : Hid (w.heap.size < w1.heap.size ∧ w.heap.size + 1 < w1.heap.size) := ⟨Ba1.out.lt, Br1.out.lt⟩
  obtain ⟨G, hG⟩ : ∃ G, G = w.heap.size + 1 := ⟨_, rfl⟩
  have gn0 : ¬ G = w.heap.size := by omega
  have gn1 : ¬ w.heap.size = G := by omega
  have gle : w.heap.size ≤ G := by omega
  have HG := hide hG
  rw [← hG] at Br1
  clear hG HL ya0 ya1 ya2 ya3 yr0 yr1 yr2 yr3
  have d0 : w1.cell? ⟨w.heap.size, 0, none⟩ = some (.int .i64 ca) := Ba1.out.cell 0
  have d1 : w1.cell? ⟨w.heap.size, 1, none⟩ = some (.bool na) := Ba1.out.cell 1
  have d2 : w1.cell? ⟨w.heap.size, 2, none⟩ = some (.string ta) := Ba1.out.cell 2
  have d3 : w1.cell? ⟨w.heap.size, 3, none⟩ = some (.int .i64 ea) := Ba1.out.cell 3
  have HC : Hid (∀ w', Below w1.heap.size w1 w' → w'.cell? ⟨w.heap.size, 0, none⟩ = some (.int .i64 ca) ∧ w'.cell? ⟨w.heap.size, 1, none⟩ = some (.bool na) ∧ w'.cell? ⟨w.heap.size, 2, none⟩ = some (.string ta) ∧ w'.cell? ⟨w.heap.size, 3, none⟩ = some (.int .i64 ea) ∧ w'.cell? ⟨G, 0, none⟩ = some (.int .i64 0) ∧ w'.cell? ⟨G, 1, none⟩ = some (.bool false) ∧ w'.cell? ⟨G, 2, none⟩ = some (.string ⟨#[]⟩) ∧ w'.cell? ⟨G, 3, none⟩ = some (.int .i64 0) ∧ w'.frozen? ⟨G, 0, none⟩ = false ∧ w'.frozen? ⟨G, 1, none⟩ = false ∧ w'.frozen? ⟨G, 2, none⟩ = false ∧ w'.frozen? ⟨G, 3, none⟩ = false) := by
    intro w' hb
    have Ba1q := Ba1.out.below hb Ba1.out.lt
    have Br1q := Br1.out.below hb Br1.out.lt
    exact ⟨Ba1q.cell 0, Ba1q.cell 1, Ba1q.cell 2, Ba1q.cell 3, Br1q.cell 0, Br1q.cell 1, Br1q.cell 2, Br1q.cell 3, Br1q.free 0, Br1q.free 1, Br1q.free 2, Br1q.free 3⟩
  have b0 : Hid (Below w1.heap.size w1 w1.drew) := bdrewD w1
  have C0 : Hid (∀ X, Hid (Below w1.heap.size w1 X) → Calls Tryz.prog 39 #[dcV ca na ta ea] X fun e w' => e = .returned (.int .i64 ((ta.size : Int) + ea)) ∧ Hid (Below w1.heap.size w1 w') ∧ w'.cell? ⟨w.heap.size, 0, none⟩ = some (.int .i64 ca) ∧ w'.cell? ⟨w.heap.size, 1, none⟩ = some (.bool na) ∧ w'.cell? ⟨w.heap.size, 2, none⟩ = some (.string ta) ∧ w'.cell? ⟨w.heap.size, 3, none⟩ = some (.int .i64 ea) ∧ w'.cell? ⟨G, 0, none⟩ = some (.int .i64 0) ∧ w'.cell? ⟨G, 1, none⟩ = some (.bool false) ∧ w'.cell? ⟨G, 2, none⟩ = some (.string ⟨#[]⟩) ∧ w'.cell? ⟨G, 3, none⟩ = some (.int .i64 0) ∧ w'.frozen? ⟨G, 0, none⟩ = false ∧ w'.frozen? ⟨G, 1, none⟩ = false ∧ w'.frozen? ⟨G, 2, none⟩ = false ∧ w'.frozen? ⟨G, 3, none⟩ = false) := by
    intro X  bX 
    refine (PL.out X).mono ?_
    rintro e w' ⟨rfl, hb⟩
    have bb := bX.out.trans (hb.mono bX.out.size)
    exact ⟨rfl, bb, HC.out _ bb⟩
  have C1 : Hid (∀ X, Hid (Below w1.heap.size w1 X) → Calls Tryz.prog 42 #[.int .i64 ((ta.size : Int) + ea - n)] X fun e w' => e = .returned (.agg #[.int .i64 0, .bool false, .string ⟨#[49]⟩, .int .i64 ((ta.size : Int) + ea - n)]) ∧ Hid (Below w1.heap.size w1 w') ∧ w'.cell? ⟨w.heap.size, 0, none⟩ = some (.int .i64 ca) ∧ w'.cell? ⟨w.heap.size, 1, none⟩ = some (.bool na) ∧ w'.cell? ⟨w.heap.size, 2, none⟩ = some (.string ta) ∧ w'.cell? ⟨w.heap.size, 3, none⟩ = some (.int .i64 ea) ∧ w'.cell? ⟨G, 0, none⟩ = some (.int .i64 0) ∧ w'.cell? ⟨G, 1, none⟩ = some (.bool false) ∧ w'.cell? ⟨G, 2, none⟩ = some (.string ⟨#[]⟩) ∧ w'.cell? ⟨G, 3, none⟩ = some (.int .i64 0) ∧ w'.frozen? ⟨G, 0, none⟩ = false ∧ w'.frozen? ⟨G, 1, none⟩ = false ∧ w'.frozen? ⟨G, 2, none⟩ = false ∧ w'.frozen? ⟨G, 3, none⟩ = false) := by
    intro X  bX 
    refine (powerOfTen_any ((ta.size : Int) + ea - n) X).mono ?_
    rintro e w' ⟨rfl, hb⟩
    have bb := bX.out.trans (hb.mono bX.out.size)
    exact ⟨rfl, bb, HC.out _ bb⟩
  have C2 : Hid (∀ X, Hid (Below w1.heap.size w1 X) → Calls Tryz.prog 41 #[dcV ca na ta ea, dcV 0 false ⟨#[49]⟩ ((ta.size : Int) + ea - n), .int .i64 m] X fun e w' => e = .returned (.tuple #[.agg #[.int .i64 (cc : Int), .bool nn, .string D, .int .i64 ee], .int .i64 er]) ∧ Hid (Below w1.heap.size w1 w') ∧ w'.cell? ⟨w.heap.size, 0, none⟩ = some (.int .i64 ca) ∧ w'.cell? ⟨w.heap.size, 1, none⟩ = some (.bool na) ∧ w'.cell? ⟨w.heap.size, 2, none⟩ = some (.string ta) ∧ w'.cell? ⟨w.heap.size, 3, none⟩ = some (.int .i64 ea) ∧ w'.cell? ⟨G, 0, none⟩ = some (.int .i64 0) ∧ w'.cell? ⟨G, 1, none⟩ = some (.bool false) ∧ w'.cell? ⟨G, 2, none⟩ = some (.string ⟨#[]⟩) ∧ w'.cell? ⟨G, 3, none⟩ = some (.int .i64 0) ∧ w'.frozen? ⟨G, 0, none⟩ = false ∧ w'.frozen? ⟨G, 1, none⟩ = false ∧ w'.frozen? ⟨G, 2, none⟩ = false ∧ w'.frozen? ⟨G, 3, none⟩ = false) := by
    intro X  bX 
    refine (MU.out X (HTC.out.below bX.out)).mono ?_
    rintro e w' ⟨rfl, hb⟩
    have bb := bX.out.trans (hb.mono bX.out.size)
    exact ⟨rfl, bb, HC.out _ bb⟩
  have BRF : Hid (∀ w', Below w1.heap.size w1 w' → Below w.heap.size w w' ∧ Blk w' G #[.int .i64 0, .bool false, .string ⟨#[]⟩, .int .i64 0] 23) := fun w' hb => ⟨HB1.out.trans (hb.mono HB1.out.size), Br1.out.below hb Br1.out.lt⟩
  clear HC Ba1 Br1 HB1 HTC MU
  go_wp2_with fail
  simp only [← HG.out]
  have mk0 : True := trivial
  go_region_held3 (fun w' => w'.cell? ⟨w.heap.size, 0, none⟩ = some (.int .i64 ca) ∧ w'.cell? ⟨w.heap.size, 1, none⟩ = some (.bool na) ∧ w'.cell? ⟨w.heap.size, 2, none⟩ = some (.string ta) ∧ w'.cell? ⟨w.heap.size, 3, none⟩ = some (.int .i64 ea)) (go_keep) (first
    | (clear mk0; go_at_call 39; refine (C0.out _  b0 ).mono ?_; rintro e v1 ⟨rfl, b1, q0_0, q0_1, q0_2, q0_3, q0_4, q0_5, q0_6, q0_7, q0_8, q0_9, q0_10, q0_11⟩; have mk1 : True := trivial)
    | (clear mk1; go_at_call 42; refine (C1.out _  b1 ).mono ?_; rintro e v2 ⟨rfl, b2, q1_0, q1_1, q1_2, q1_3, q1_4, q1_5, q1_6, q1_7, q1_8, q1_9, q1_10, q1_11⟩; have mk2 : True := trivial)
    | (clear mk2; go_at_call 41; refine (C2.out _  b2 ).mono ?_; rintro e v3 ⟨rfl, b3, q2_0, q2_1, q2_2, q2_3, q2_4, q2_5, q2_6, q2_7, q2_8, q2_9, q2_10, q2_11⟩; have mk3 : True := trivial))
  obtain ⟨hbel, hblk⟩ := BRF.out _ b3.out
  have HBL := hide hbel
  have QR := hide hblk
  clear hbel hblk BRF b0 b1 b2 b3 C0 C1 C2
  repeat (first | go_values | go_skip | go_guarded | go_step | go_upon)
  refine bodyPost_ret (results_dec2 rfl _ _ _ _ _ _ _ rfl (QR.out.put4 _ _ _ _)) rfl ?_
  exact ⟨rfl, below_put4 HBL.out gle _ _ _ _⟩

theorem Digits_any (ca : Int) (na : Bool) (ta : ByteArray) (ea n m : Int) (w : World) (htab : Tab w) : Calls Tryz.prog 50 #[dcV ca na ta ea, .int .i64 n, .int .i64 m] w fun e w' => e = .returned (decErr (digR ca na (bys ta) ea n m)) ∧ Below w.heap.size w w' := by
  unfold digR
  by_cases h : MayD ca na (bys ta) ea
  · rw [if_neg (fun g => g h)]
    by_cases h1 : m < 0
    · rw [if_pos (.inl h1)]
      exact Digits_mlow ca na ta ea n m w h h1
    · by_cases h2 : 8 ≤ m
      · rw [if_pos (.inr h2)]
        exact Digits_mhigh ca na ta ea n m w h h2
      · rw [if_neg (by omega)]
        by_cases h3 : n < 1
        · rw [if_pos (.inl h3)]
          exact Digits_low ca na ta ea n m w h (by omega) (by omega) h3
        · by_cases h4 : 1000 < n
          · rw [if_pos (.inr h4)]
            exact Digits_high ca na ta ea n m w h (by omega) (by omega) h4
          · rw [if_neg (by omega)]
            exact Digits_in ca na ta ea n m w h (by omega) (by omega) (by omega) (by omega) htab
  · rw [if_pos h]
    exact Digits_no ca na ta ea n m w h

set_option maxHeartbeats 1000000 in
theorem Step_bno (ca : Int) (na : Bool) (ta : ByteArray) (ea cb : Int) (nb : Bool) (tb : ByteArray) (eb m : Int) (w : World) (hb : ¬ MayD cb nb (bys tb) eb) : Calls Tryz.prog 51 #[dcV ca na ta ea, dcV cb nb tb eb, .int .i64 m] w fun e w' => e = .returned (.tuple #[dcV 0 false ⟨#[]⟩ 0, .int .i64 52]) ∧ Below w.heap.size w w' := by
  have K0 := hide (fun W => dmay_no cb nb tb eb W hb)
  have Ba0 := hide (((Blk.newAt w (w.heap.size) (rfl) #[.int .i64 ca, .bool na, .string ta, .int .i64 ea] 23).alloc (.cells #[.int .i64 cb, .bool nb, .string tb, .int .i64 eb] 23)).alloc (.cells #[.int .i64 0, .bool false, .string ⟨#[]⟩, .int .i64 0] 23))
  have Bb0 := hide ((Blk.newAt (w.alloc (.cells #[.int .i64 ca, .bool na, .string ta, .int .i64 ea] 23)) (w.heap.size + 1) (by simp) #[.int .i64 cb, .bool nb, .string tb, .int .i64 eb] 23).alloc (.cells #[.int .i64 0, .bool false, .string ⟨#[]⟩, .int .i64 0] 23))
  have Br0 := hide (Blk.newAt ((w.alloc (.cells #[.int .i64 ca, .bool na, .string ta, .int .i64 ea] 23)).alloc (.cells #[.int .i64 cb, .bool nb, .string tb, .int .i64 eb] 23)) (w.heap.size + 1 + 1) (by simp) #[.int .i64 0, .bool false, .string ⟨#[]⟩, .int .i64 0] 23)
  have HB0 : Hid (Below w.heap.size w (((w.alloc (.cells #[.int .i64 ca, .bool na, .string ta, .int .i64 ea] 23)).alloc (.cells #[.int .i64 cb, .bool nb, .string tb, .int .i64 eb] 23)).alloc (.cells #[.int .i64 0, .bool false, .string ⟨#[]⟩, .int .i64 0] 23))) := ((((Below.refl _ _).alloc (Nat.le_refl _) _).alloc (by simp <;> omega) _).alloc (by simp <;> omega) _)
  go_enter Tryz.func51, Tryz.ntmps51
  go_wp2_with fail
  refine (K0.out _).mono ?_
  rintro e w1 ⟨rfl, hb⟩
  have Ba1 := hide (Ba0.out.below hb Ba0.out.lt)
  have Bb1 := hide (Bb0.out.below hb Bb0.out.lt)
  have Br1 := hide (Br0.out.below hb Br0.out.lt)
  have HB1 := hide (HB0.out.trans (hb.mono HB0.out.size))
  clear hb Ba0 Bb0 Br0 HB0 
  obtain ⟨ya0, ya1, ya2, ya3⟩ := Ba1.out.four
  obtain ⟨yb0, yb1, yb2, yb3⟩ := Bb1.out.four
  obtain ⟨yr0, yr1, yr2, yr3⟩ := Br1.out.four
  have fr0 := Br1.out.free 0
  have fr1 := Br1.out.free 1
  have fr2 := Br1.out.free 2
  have fr3 := Br1.out.free 3
  go_wp2
  refine bodyPost_ret (results_dec2 rfl _ _ _ _ _ _ _ rfl (Br1.out.put4 _ _ _ _)) rfl ?_
  exact ⟨rfl, below_put4 (HB1.out) (by omega) _ _ _ _⟩

set_option maxHeartbeats 1000000 in
theorem Step_no (ca : Int) (na : Bool) (ta : ByteArray) (ea cb : Int) (nb : Bool) (tb : ByteArray) (eb m : Int) (w : World) (hb : MayD cb nb (bys tb) eb) (h : ¬ MayD ca na (bys ta) ea) : Calls Tryz.prog 51 #[dcV ca na ta ea, dcV cb nb tb eb, .int .i64 m] w fun e w' => e = .returned (.tuple #[dcV 0 false ⟨#[]⟩ 0, .int .i64 52]) ∧ Below w.heap.size w w' := by
  have K0 := hide (fun W => dmay_yes cb nb tb eb W hb)
  have K1 := hide (fun W => check_no ca na ta ea m W h)
  have Ba0 := hide (((Blk.newAt w (w.heap.size) (rfl) #[.int .i64 ca, .bool na, .string ta, .int .i64 ea] 23).alloc (.cells #[.int .i64 cb, .bool nb, .string tb, .int .i64 eb] 23)).alloc (.cells #[.int .i64 0, .bool false, .string ⟨#[]⟩, .int .i64 0] 23))
  have Bb0 := hide ((Blk.newAt (w.alloc (.cells #[.int .i64 ca, .bool na, .string ta, .int .i64 ea] 23)) (w.heap.size + 1) (by simp) #[.int .i64 cb, .bool nb, .string tb, .int .i64 eb] 23).alloc (.cells #[.int .i64 0, .bool false, .string ⟨#[]⟩, .int .i64 0] 23))
  have Br0 := hide (Blk.newAt ((w.alloc (.cells #[.int .i64 ca, .bool na, .string ta, .int .i64 ea] 23)).alloc (.cells #[.int .i64 cb, .bool nb, .string tb, .int .i64 eb] 23)) (w.heap.size + 1 + 1) (by simp) #[.int .i64 0, .bool false, .string ⟨#[]⟩, .int .i64 0] 23)
  have HB0 : Hid (Below w.heap.size w (((w.alloc (.cells #[.int .i64 ca, .bool na, .string ta, .int .i64 ea] 23)).alloc (.cells #[.int .i64 cb, .bool nb, .string tb, .int .i64 eb] 23)).alloc (.cells #[.int .i64 0, .bool false, .string ⟨#[]⟩, .int .i64 0] 23))) := ((((Below.refl _ _).alloc (Nat.le_refl _) _).alloc (by simp <;> omega) _).alloc (by simp <;> omega) _)
  go_enter Tryz.func51, Tryz.ntmps51
  go_wp2_with fail
  refine (K0.out _).mono ?_
  rintro e w1 ⟨rfl, hb⟩
  have Ba1 := hide (Ba0.out.below hb Ba0.out.lt)
  have Bb1 := hide (Bb0.out.below hb Bb0.out.lt)
  have Br1 := hide (Br0.out.below hb Br0.out.lt)
  have HB1 := hide (HB0.out.trans (hb.mono HB0.out.size))
  clear hb Ba0 Bb0 Br0 HB0 
  obtain ⟨ya0, ya1, ya2, ya3⟩ := Ba1.out.four
  obtain ⟨yb0, yb1, yb2, yb3⟩ := Bb1.out.four
  obtain ⟨yr0, yr1, yr2, yr3⟩ := Br1.out.four
  go_wp2_with fail
  refine (K1.out _).mono ?_
  rintro e w2 ⟨rfl, hb⟩
  have Ba2 := hide (Ba1.out.below hb Ba1.out.lt)
  have Bb2 := hide (Bb1.out.below hb Bb1.out.lt)
  have Br2 := hide (Br1.out.below hb Br1.out.lt)
  have HB2 := hide (HB1.out.trans (hb.mono HB1.out.size))
  clear hb Ba1 Bb1 Br1 HB1 ya0 ya1 ya2 ya3 yb0 yb1 yb2 yb3 yr0 yr1 yr2 yr3
  obtain ⟨ya0, ya1, ya2, ya3⟩ := Ba2.out.four
  obtain ⟨yb0, yb1, yb2, yb3⟩ := Bb2.out.four
  obtain ⟨yr0, yr1, yr2, yr3⟩ := Br2.out.four
  have fr0 := Br2.out.free 0
  have fr1 := Br2.out.free 1
  have fr2 := Br2.out.free 2
  have fr3 := Br2.out.free 3
  go_wp2
  refine bodyPost_ret (results_dec2 rfl _ _ _ _ _ _ _ rfl (Br2.out.put4 _ _ _ _)) rfl ?_
  exact ⟨rfl, below_put4 (HB2.out) (by omega) _ _ _ _⟩

set_option maxHeartbeats 1000000 in
theorem Step_mlow (ca : Int) (na : Bool) (ta : ByteArray) (ea cb : Int) (nb : Bool) (tb : ByteArray) (eb m : Int) (w : World) (hb : MayD cb nb (bys tb) eb) (h : MayD ca na (bys ta) ea) (hm : m < 0) : Calls Tryz.prog 51 #[dcV ca na ta ea, dcV cb nb tb eb, .int .i64 m] w fun e w' => e = .returned (.tuple #[dcV 0 false ⟨#[]⟩ 0, .int .i64 60]) ∧ Below w.heap.size w w' := by
  have K0 := hide (fun W => dmay_yes cb nb tb eb W hb)
  have K1 := hide (fun W => check_low ca na ta ea m W h hm)
  have Ba0 := hide (((Blk.newAt w (w.heap.size) (rfl) #[.int .i64 ca, .bool na, .string ta, .int .i64 ea] 23).alloc (.cells #[.int .i64 cb, .bool nb, .string tb, .int .i64 eb] 23)).alloc (.cells #[.int .i64 0, .bool false, .string ⟨#[]⟩, .int .i64 0] 23))
  have Bb0 := hide ((Blk.newAt (w.alloc (.cells #[.int .i64 ca, .bool na, .string ta, .int .i64 ea] 23)) (w.heap.size + 1) (by simp) #[.int .i64 cb, .bool nb, .string tb, .int .i64 eb] 23).alloc (.cells #[.int .i64 0, .bool false, .string ⟨#[]⟩, .int .i64 0] 23))
  have Br0 := hide (Blk.newAt ((w.alloc (.cells #[.int .i64 ca, .bool na, .string ta, .int .i64 ea] 23)).alloc (.cells #[.int .i64 cb, .bool nb, .string tb, .int .i64 eb] 23)) (w.heap.size + 1 + 1) (by simp) #[.int .i64 0, .bool false, .string ⟨#[]⟩, .int .i64 0] 23)
  have HB0 : Hid (Below w.heap.size w (((w.alloc (.cells #[.int .i64 ca, .bool na, .string ta, .int .i64 ea] 23)).alloc (.cells #[.int .i64 cb, .bool nb, .string tb, .int .i64 eb] 23)).alloc (.cells #[.int .i64 0, .bool false, .string ⟨#[]⟩, .int .i64 0] 23))) := ((((Below.refl _ _).alloc (Nat.le_refl _) _).alloc (by simp <;> omega) _).alloc (by simp <;> omega) _)
  go_enter Tryz.func51, Tryz.ntmps51
  go_wp2_with fail
  refine (K0.out _).mono ?_
  rintro e w1 ⟨rfl, hb⟩
  have Ba1 := hide (Ba0.out.below hb Ba0.out.lt)
  have Bb1 := hide (Bb0.out.below hb Bb0.out.lt)
  have Br1 := hide (Br0.out.below hb Br0.out.lt)
  have HB1 := hide (HB0.out.trans (hb.mono HB0.out.size))
  clear hb Ba0 Bb0 Br0 HB0 
  obtain ⟨ya0, ya1, ya2, ya3⟩ := Ba1.out.four
  obtain ⟨yb0, yb1, yb2, yb3⟩ := Bb1.out.four
  obtain ⟨yr0, yr1, yr2, yr3⟩ := Br1.out.four
  go_wp2_with fail
  refine (K1.out _).mono ?_
  rintro e w2 ⟨rfl, hb⟩
  have Ba2 := hide (Ba1.out.below hb Ba1.out.lt)
  have Bb2 := hide (Bb1.out.below hb Bb1.out.lt)
  have Br2 := hide (Br1.out.below hb Br1.out.lt)
  have HB2 := hide (HB1.out.trans (hb.mono HB1.out.size))
  clear hb Ba1 Bb1 Br1 HB1 ya0 ya1 ya2 ya3 yb0 yb1 yb2 yb3 yr0 yr1 yr2 yr3
  obtain ⟨ya0, ya1, ya2, ya3⟩ := Ba2.out.four
  obtain ⟨yb0, yb1, yb2, yb3⟩ := Bb2.out.four
  obtain ⟨yr0, yr1, yr2, yr3⟩ := Br2.out.four
  have fr0 := Br2.out.free 0
  have fr1 := Br2.out.free 1
  have fr2 := Br2.out.free 2
  have fr3 := Br2.out.free 3
  go_wp2
  refine bodyPost_ret (results_dec2 rfl _ _ _ _ _ _ _ rfl (Br2.out.put4 _ _ _ _)) rfl ?_
  exact ⟨rfl, below_put4 (HB2.out) (by omega) _ _ _ _⟩

set_option maxHeartbeats 1000000 in
theorem Step_mhigh (ca : Int) (na : Bool) (ta : ByteArray) (ea cb : Int) (nb : Bool) (tb : ByteArray) (eb m : Int) (w : World) (hb : MayD cb nb (bys tb) eb) (h : MayD ca na (bys ta) ea) (hm : 8 ≤ m) : Calls Tryz.prog 51 #[dcV ca na ta ea, dcV cb nb tb eb, .int .i64 m] w fun e w' => e = .returned (.tuple #[dcV 0 false ⟨#[]⟩ 0, .int .i64 60]) ∧ Below w.heap.size w w' := by
  have K0 := hide (fun W => dmay_yes cb nb tb eb W hb)
  have K1 := hide (fun W => check_high ca na ta ea m W h hm)
  have Ba0 := hide (((Blk.newAt w (w.heap.size) (rfl) #[.int .i64 ca, .bool na, .string ta, .int .i64 ea] 23).alloc (.cells #[.int .i64 cb, .bool nb, .string tb, .int .i64 eb] 23)).alloc (.cells #[.int .i64 0, .bool false, .string ⟨#[]⟩, .int .i64 0] 23))
  have Bb0 := hide ((Blk.newAt (w.alloc (.cells #[.int .i64 ca, .bool na, .string ta, .int .i64 ea] 23)) (w.heap.size + 1) (by simp) #[.int .i64 cb, .bool nb, .string tb, .int .i64 eb] 23).alloc (.cells #[.int .i64 0, .bool false, .string ⟨#[]⟩, .int .i64 0] 23))
  have Br0 := hide (Blk.newAt ((w.alloc (.cells #[.int .i64 ca, .bool na, .string ta, .int .i64 ea] 23)).alloc (.cells #[.int .i64 cb, .bool nb, .string tb, .int .i64 eb] 23)) (w.heap.size + 1 + 1) (by simp) #[.int .i64 0, .bool false, .string ⟨#[]⟩, .int .i64 0] 23)
  have HB0 : Hid (Below w.heap.size w (((w.alloc (.cells #[.int .i64 ca, .bool na, .string ta, .int .i64 ea] 23)).alloc (.cells #[.int .i64 cb, .bool nb, .string tb, .int .i64 eb] 23)).alloc (.cells #[.int .i64 0, .bool false, .string ⟨#[]⟩, .int .i64 0] 23))) := ((((Below.refl _ _).alloc (Nat.le_refl _) _).alloc (by simp <;> omega) _).alloc (by simp <;> omega) _)
  go_enter Tryz.func51, Tryz.ntmps51
  go_wp2_with fail
  refine (K0.out _).mono ?_
  rintro e w1 ⟨rfl, hb⟩
  have Ba1 := hide (Ba0.out.below hb Ba0.out.lt)
  have Bb1 := hide (Bb0.out.below hb Bb0.out.lt)
  have Br1 := hide (Br0.out.below hb Br0.out.lt)
  have HB1 := hide (HB0.out.trans (hb.mono HB0.out.size))
  clear hb Ba0 Bb0 Br0 HB0 
  obtain ⟨ya0, ya1, ya2, ya3⟩ := Ba1.out.four
  obtain ⟨yb0, yb1, yb2, yb3⟩ := Bb1.out.four
  obtain ⟨yr0, yr1, yr2, yr3⟩ := Br1.out.four
  go_wp2_with fail
  refine (K1.out _).mono ?_
  rintro e w2 ⟨rfl, hb⟩
  have Ba2 := hide (Ba1.out.below hb Ba1.out.lt)
  have Bb2 := hide (Bb1.out.below hb Bb1.out.lt)
  have Br2 := hide (Br1.out.below hb Br1.out.lt)
  have HB2 := hide (HB1.out.trans (hb.mono HB1.out.size))
  clear hb Ba1 Bb1 Br1 HB1 ya0 ya1 ya2 ya3 yb0 yb1 yb2 yb3 yr0 yr1 yr2 yr3
  obtain ⟨ya0, ya1, ya2, ya3⟩ := Ba2.out.four
  obtain ⟨yb0, yb1, yb2, yb3⟩ := Bb2.out.four
  obtain ⟨yr0, yr1, yr2, yr3⟩ := Br2.out.four
  have fr0 := Br2.out.free 0
  have fr1 := Br2.out.free 1
  have fr2 := Br2.out.free 2
  have fr3 := Br2.out.free 3
  go_wp2
  refine bodyPost_ret (results_dec2 rfl _ _ _ _ _ _ _ rfl (Br2.out.put4 _ _ _ _)) rfl ?_
  exact ⟨rfl, below_put4 (HB2.out) (by omega) _ _ _ _⟩

set_option maxHeartbeats 1000000 in
theorem Step_bad (ca : Int) (na : Bool) (ta : ByteArray) (ea cb : Int) (nb : Bool) (tb : ByteArray) (eb m : Int) (w : World) (hb : MayD cb nb (bys tb) eb) (h : MayD ca na (bys ta) ea) (m1 : 0 ≤ m) (m2 : m < 8) (hq : ∀ W, Calls Tryz.prog 99 #[dcV cb nb tb eb] W fun e w' => e = .returned (.bool false) ∧ Below W.heap.size W w') : Calls Tryz.prog 51 #[dcV ca na ta ea, dcV cb nb tb eb, .int .i64 m] w fun e w' => e = .returned (.tuple #[dcV 0 false ⟨#[]⟩ 0, .int .i64 62]) ∧ Below w.heap.size w w' := by
  have K0 := hide (fun W => dmay_yes cb nb tb eb W hb)
  have K1 := hide (fun W => check_ok ca na ta ea m W h m1 m2)
  have K2 := hide hq
  have Ba0 := hide (((Blk.newAt w (w.heap.size) (rfl) #[.int .i64 ca, .bool na, .string ta, .int .i64 ea] 23).alloc (.cells #[.int .i64 cb, .bool nb, .string tb, .int .i64 eb] 23)).alloc (.cells #[.int .i64 0, .bool false, .string ⟨#[]⟩, .int .i64 0] 23))
  have Bb0 := hide ((Blk.newAt (w.alloc (.cells #[.int .i64 ca, .bool na, .string ta, .int .i64 ea] 23)) (w.heap.size + 1) (by simp) #[.int .i64 cb, .bool nb, .string tb, .int .i64 eb] 23).alloc (.cells #[.int .i64 0, .bool false, .string ⟨#[]⟩, .int .i64 0] 23))
  have Br0 := hide (Blk.newAt ((w.alloc (.cells #[.int .i64 ca, .bool na, .string ta, .int .i64 ea] 23)).alloc (.cells #[.int .i64 cb, .bool nb, .string tb, .int .i64 eb] 23)) (w.heap.size + 1 + 1) (by simp) #[.int .i64 0, .bool false, .string ⟨#[]⟩, .int .i64 0] 23)
  have HB0 : Hid (Below w.heap.size w (((w.alloc (.cells #[.int .i64 ca, .bool na, .string ta, .int .i64 ea] 23)).alloc (.cells #[.int .i64 cb, .bool nb, .string tb, .int .i64 eb] 23)).alloc (.cells #[.int .i64 0, .bool false, .string ⟨#[]⟩, .int .i64 0] 23))) := ((((Below.refl _ _).alloc (Nat.le_refl _) _).alloc (by simp <;> omega) _).alloc (by simp <;> omega) _)
  go_enter Tryz.func51, Tryz.ntmps51
  go_wp2_with fail
  refine (K0.out _).mono ?_
  rintro e w1 ⟨rfl, hb⟩
  have Ba1 := hide (Ba0.out.below hb Ba0.out.lt)
  have Bb1 := hide (Bb0.out.below hb Bb0.out.lt)
  have Br1 := hide (Br0.out.below hb Br0.out.lt)
  have HB1 := hide (HB0.out.trans (hb.mono HB0.out.size))
  clear hb Ba0 Bb0 Br0 HB0 
  obtain ⟨ya0, ya1, ya2, ya3⟩ := Ba1.out.four
  obtain ⟨yb0, yb1, yb2, yb3⟩ := Bb1.out.four
  obtain ⟨yr0, yr1, yr2, yr3⟩ := Br1.out.four
  go_wp2_with fail
  refine (K1.out _).mono ?_
  rintro e w2 ⟨rfl, hb⟩
  have Ba2 := hide (Ba1.out.below hb Ba1.out.lt)
  have Bb2 := hide (Bb1.out.below hb Bb1.out.lt)
  have Br2 := hide (Br1.out.below hb Br1.out.lt)
  have HB2 := hide (HB1.out.trans (hb.mono HB1.out.size))
  clear hb Ba1 Bb1 Br1 HB1 ya0 ya1 ya2 ya3 yb0 yb1 yb2 yb3 yr0 yr1 yr2 yr3
  obtain ⟨ya0, ya1, ya2, ya3⟩ := Ba2.out.four
  obtain ⟨yb0, yb1, yb2, yb3⟩ := Bb2.out.four
  obtain ⟨yr0, yr1, yr2, yr3⟩ := Br2.out.four
  go_wp2_with fail
  refine (K2.out _).mono ?_
  rintro e w3 ⟨rfl, hb⟩
  have Ba3 := hide (Ba2.out.below hb Ba2.out.lt)
  have Bb3 := hide (Bb2.out.below hb Bb2.out.lt)
  have Br3 := hide (Br2.out.below hb Br2.out.lt)
  have HB3 := hide (HB2.out.trans (hb.mono HB2.out.size))
  clear hb Ba2 Bb2 Br2 HB2 ya0 ya1 ya2 ya3 yb0 yb1 yb2 yb3 yr0 yr1 yr2 yr3
  obtain ⟨ya0, ya1, ya2, ya3⟩ := Ba3.out.four
  obtain ⟨yb0, yb1, yb2, yb3⟩ := Bb3.out.four
  obtain ⟨yr0, yr1, yr2, yr3⟩ := Br3.out.four
  have fr0 := Br3.out.free 0
  have fr1 := Br3.out.free 1
  have fr2 := Br3.out.free 2
  have fr3 := Br3.out.free 3
  go_wp2
  refine bodyPost_ret (results_dec2 rfl _ _ _ _ _ _ _ rfl (Br3.out.put4 _ _ _ _)) rfl ?_
  exact ⟨rfl, below_put4 (HB3.out) (by omega) _ _ _ _⟩

set_option maxHeartbeats 2000000 in
theorem Step_in (ca : Int) (na : Bool) (ta : ByteArray) (ea : Int) (tb : ByteArray) (eb m : Int) (w : World) (hb : MayD 0 false (bys tb) eb) (h : MayD ca na (bys ta) ea) (m1 : 0 ≤ m) (m2 : m < 8) (hq : tb.size ≠ 0) (hl : tb.size ≤ 32) (htab : Tab w) : Calls Tryz.prog 51 #[dcV ca na ta ea, dcV 0 false tb eb, .int .i64 m] w fun e w' => e = .returned (decErr (rndD ⟨ca.toNat, na, bys ta, ea⟩ (decV (bys tb)) eb m.toNat)) ∧ Below w.heap.size w w' := by
  have K0 := hide (fun W => dmay_yes 0 false tb eb W hb)
  have K1 := hide (fun W => check_ok ca na ta ea m W h m1 m2)
  have K2 := hide (fun W => isStep_yes tb eb W hq hl)
  have bd := may_place hb
  have hok := may_okT hb hq
  have MG := fun (W : World) (hT : Tab W) => mult_raw ca na ta ea false tb eb m h m1 m2 hok.1 hok.2 hl (by omega) (by omega) W hT
  rcases hR : rndD ⟨ca.toNat, na, bys ta, ea⟩ (decV (bys tb)) eb m.toNat with ⟨⟨cc, nn, ll, ee⟩, er⟩
  rw [hR] at MG
  unfold decErr decVal at MG ⊢
  simp only at MG ⊢
  obtain ⟨D, hD⟩ : ∃ D : ByteArray, D = ⟨ll.toArray⟩ := ⟨_, rfl⟩
  rw [← hD] at MG ⊢
  have MU := hide MG
  have HT := hide htab
  clear MG hR hD htab
  clear h hb bd hok hq hl
  have Ba0 := hide (((Blk.newAt w (w.heap.size) (rfl) #[.int .i64 ca, .bool na, .string ta, .int .i64 ea] 23).alloc (.cells #[.int .i64 0, .bool false, .string tb, .int .i64 eb] 23)).alloc (.cells #[.int .i64 0, .bool false, .string ⟨#[]⟩, .int .i64 0] 23))
  have Bb0 := hide ((Blk.newAt (w.alloc (.cells #[.int .i64 ca, .bool na, .string ta, .int .i64 ea] 23)) (w.heap.size + 1) (by simp) #[.int .i64 0, .bool false, .string tb, .int .i64 eb] 23).alloc (.cells #[.int .i64 0, .bool false, .string ⟨#[]⟩, .int .i64 0] 23))
  have Br0 := hide (Blk.newAt ((w.alloc (.cells #[.int .i64 ca, .bool na, .string ta, .int .i64 ea] 23)).alloc (.cells #[.int .i64 0, .bool false, .string tb, .int .i64 eb] 23)) (w.heap.size + 1 + 1) (by simp) #[.int .i64 0, .bool false, .string ⟨#[]⟩, .int .i64 0] 23)
  have HB0 : Hid (Below w.heap.size w (((w.alloc (.cells #[.int .i64 ca, .bool na, .string ta, .int .i64 ea] 23)).alloc (.cells #[.int .i64 0, .bool false, .string tb, .int .i64 eb] 23)).alloc (.cells #[.int .i64 0, .bool false, .string ⟨#[]⟩, .int .i64 0] 23))) := ((((Below.refl _ _).alloc (Nat.le_refl _) _).alloc (by simp <;> omega) _).alloc (by simp <;> omega) _)
  go_enter Tryz.func51, Tryz.ntmps51
  go_wp2_with fail
  refine (K0.out _).mono ?_
  rintro e w1 ⟨rfl, hb⟩
  clear K0
  have Ba1 := hide (Ba0.out.below hb Ba0.out.lt)
  have Bb1 := hide (Bb0.out.below hb Bb0.out.lt)
  have Br1 := hide (Br0.out.below hb Br0.out.lt)
  have HB1 := hide (HB0.out.trans (hb.mono HB0.out.size))
  clear hb Ba0 Bb0 Br0 HB0 
  obtain ⟨ya0, ya1, ya2, ya3⟩ := Ba1.out.four
  obtain ⟨yb0, yb1, yb2, yb3⟩ := Bb1.out.four
  obtain ⟨yr0, yr1, yr2, yr3⟩ := Br1.out.four
  go_wp2_with fail
  refine (K1.out _).mono ?_
  rintro e w2 ⟨rfl, hb⟩
  clear K1
  have Ba2 := hide (Ba1.out.below hb Ba1.out.lt)
  have Bb2 := hide (Bb1.out.below hb Bb1.out.lt)
  have Br2 := hide (Br1.out.below hb Br1.out.lt)
  have HB2 := hide (HB1.out.trans (hb.mono HB1.out.size))
  clear hb Ba1 Bb1 Br1 HB1 ya0 ya1 ya2 ya3 yb0 yb1 yb2 yb3 yr0 yr1 yr2 yr3
  obtain ⟨ya0, ya1, ya2, ya3⟩ := Ba2.out.four
  obtain ⟨yb0, yb1, yb2, yb3⟩ := Bb2.out.four
  obtain ⟨yr0, yr1, yr2, yr3⟩ := Br2.out.four
  go_wp2_with fail
  refine (K2.out _).mono ?_
  rintro e w3 ⟨rfl, hb⟩
  clear K2
  have Ba3 := hide (Ba2.out.below hb Ba2.out.lt)
  have Bb3 := hide (Bb2.out.below hb Bb2.out.lt)
  have Br3 := hide (Br2.out.below hb Br2.out.lt)
  have HB3 := hide (HB2.out.trans (hb.mono HB2.out.size))
  clear hb Ba2 Bb2 Br2 HB2 ya0 ya1 ya2 ya3 yb0 yb1 yb2 yb3 yr0 yr1 yr2 yr3
  obtain ⟨ya0, ya1, ya2, ya3⟩ := Ba3.out.four
  obtain ⟨yb0, yb1, yb2, yb3⟩ := Bb3.out.four
  obtain ⟨yr0, yr1, yr2, yr3⟩ := Br3.out.four
  have HTC := hide (HT.out.below HB3.out)
  clear HT
  have MM := hide (MU.out _ HTC.out)
  clear HTC MU
  go_wp2_with fail
  refine (MM.out).mono ?_
  rintro e w4 ⟨rfl, hb⟩
  clear MM
  have Ba4 := hide (Ba3.out.below hb Ba3.out.lt)
  have Bb4 := hide (Bb3.out.below hb Bb3.out.lt)
  have Br4 := hide (Br3.out.below hb Br3.out.lt)
  have HB4 := hide (HB3.out.trans (hb.mono HB3.out.size))
  clear hb Ba3 Bb3 Br3 HB3 ya0 ya1 ya2 ya3 yb0 yb1 yb2 yb3 yr0 yr1 yr2 yr3
  obtain ⟨ya0, ya1, ya2, ya3⟩ := Ba4.out.four
  obtain ⟨yb0, yb1, yb2, yb3⟩ := Bb4.out.four
  obtain ⟨yr0, yr1, yr2, yr3⟩ := Br4.out.four
  have fr0 := Br4.out.free 0
  have fr1 := Br4.out.free 1
  have fr2 := Br4.out.free 2
  have fr3 := Br4.out.free 3
  go_wp2
  refine bodyPost_ret (results_dec2 rfl _ _ _ _ _ _ _ rfl (Br4.out.put4 _ _ _ _)) rfl ?_
  exact ⟨rfl, below_put4 (HB4.out) (by omega) _ _ _ _⟩

theorem Step_any (ca : Int) (na : Bool) (ta : ByteArray) (ea cb : Int) (nb : Bool) (tb : ByteArray) (eb m : Int) (w : World) (htab : Tab w) : Calls Tryz.prog 51 #[dcV ca na ta ea, dcV cb nb tb eb, .int .i64 m] w fun e w' => e = .returned (decErr (stepR ca na (bys ta) ea cb nb (bys tb) eb m)) ∧ Below w.heap.size w w' := by
  unfold stepR
  by_cases hb : MayD cb nb (bys tb) eb
  · rw [if_neg (fun g => g hb)]
    by_cases h : MayD ca na (bys ta) ea
    · rw [if_neg (fun g => g h)]
      by_cases h1 : m < 0
      · rw [if_pos (.inl h1)]
        exact Step_mlow ca na ta ea cb nb tb eb m w hb h h1
      · by_cases h2 : 8 ≤ m
        · rw [if_pos (.inr h2)]
          exact Step_mhigh ca na ta ea cb nb tb eb m w hb h h2
        · rw [if_neg (by omega)]
          by_cases hs : StepD cb nb (bys tb)
          · rw [if_neg (fun g => g hs)]
            obtain ⟨rfl, rfl, s3, s4⟩ := hs
            rw [bys_len] at s4
            exact Step_in ca na ta ea tb eb m w hb h (by omega) (by omega) (fun g => s3 ((bys_nil).2 g)) s4 htab
          · rw [if_pos hs]
            refine Step_bad ca na ta ea cb nb tb eb m w hb h (by omega) (by omega) (fun W => ?_)
            by_cases c1 : cb = 0
            · subst c1
              cases nb
              · by_cases c3 : tb.size = 0
                · obtain rfl : tb = ⟨#[]⟩ := by
                    obtain ⟨⟨l⟩⟩ := tb
                    have : l = [] := List.length_eq_zero_iff.1 c3
                    subst this; rfl
                  exact isStep_nil eb W
                · refine isStep_long tb eb W ?_
                  have : ¬ tb.size ≤ 32 := fun g => hs ⟨rfl, rfl, fun e => c3 (bys_nil.1 e), by rw [bys_len]; exact g⟩
                  omega
              · exact isStep_neg tb eb W
            · exact isStep_cls cb nb tb eb W c1
    · rw [if_pos h]
      exact Step_no ca na ta ea cb nb tb eb m w hb h
  · rw [if_pos hb]
    exact Step_bno ca na ta ea cb nb tb eb m w hb

end Go.Proofs.YtckijnlolmbdiaaGreatDoor

namespace Go.Proofs.YtckijnlolmbdiaaGreatDoor

structure PrecT where
  kind : Int
  minF : Int
  maxF : Int
  minS : Int
  maxS : Int
  strict : Bool
  sc : Int
  sn : Bool
  sd : List UInt8
  se : Int
  mode : Int
  hide : Bool
  imin : Int
  imax : Int

structure ShownT where
  cls : Int
  neg : Bool
  int : List UInt8
  frac : List UInt8
  exp : Int
  compact : Bool

def zeroS : ShownT := ⟨0, false, [], [], 0, false⟩

def NoFrac (p : PrecT) : Prop := p.minF = 0 ∧ p.maxF = 0
def NoSig (p : PrecT) : Prop := p.minS = 0 ∧ p.maxS = 0
def NoStep (p : PrecT) : Prop := p.sc = 0 ∧ p.sn = false ∧ p.sd = [] ∧ p.se = 0
def FracOk (p : PrecT) : Prop := (0 ≤ p.minF ∧ p.minF ≤ p.maxF) ∧ p.maxF ≤ 99
def SigOk (p : PrecT) : Prop := (1 ≤ p.minS ∧ p.minS ≤ p.maxS) ∧ p.maxS ≤ 99
def StepOk (p : PrecT) : Prop := MayD p.sc p.sn p.sd p.se ∧ StepD p.sc p.sn p.sd
def IntOk (p : PrecT) : Prop := (0 ≤ p.imin ∧ p.imin ≤ 99) ∧ (p.imax = 0 ∨ (p.imin ≤ p.imax ∧ p.imax ≤ 99))
def FieldsAll (p : PrecT) : Prop := NoFrac p ∧ NoSig p ∧ p.strict = false ∧ NoStep p
def FieldsFrac (p : PrecT) : Prop := FracOk p ∧ NoSig p ∧ p.strict = false ∧ NoStep p
def FieldsSig (p : PrecT) : Prop := NoFrac p ∧ SigOk p ∧ p.strict = false ∧ NoStep p
def FieldsBoth (p : PrecT) : Prop := FracOk p ∧ SigOk p ∧ NoStep p
def FieldsStep (p : PrecT) : Prop := (0 ≤ p.minF ∧ p.minF ≤ 99) ∧ p.maxF = 0 ∧ NoSig p ∧ p.strict = false ∧ StepOk p
def KindOk (p : PrecT) : Prop := (p.kind = 0 ∧ FieldsAll p) ∨ (p.kind = 1 ∧ FieldsFrac p) ∨ (p.kind = 2 ∧ FieldsSig p) ∨ (p.kind = 3 ∧ FieldsBoth p) ∨ (p.kind = 4 ∧ FieldsStep p)

def MayP (p : PrecT) : Prop := (0 ≤ p.mode ∧ p.mode ≤ 7) ∧ IntOk p ∧ KindOk p

noncomputable def checkP (p : PrecT) : Int := open Classical in if MayP p then 0 else 70

def bothAt (p : PrecT) (pl : Int) : Int := if p.strict then max (-p.maxF) (pl - p.maxS) else min (-p.maxF) (pl - p.maxS)

noncomputable def roundP (p : PrecT) (c : Int) (n : Bool) (l : List UInt8) (e : Int) : DecT × Int :=
  if p.kind = 0 then (⟨c.toNat, n, l, e⟩, 0) else if p.kind = 1 then atR c n l e (-p.maxF) p.mode else if p.kind = 2 then digR c n l e p.maxS p.mode
  else if p.kind = 3 then atR c n l e (bothAt p ((l.length : Int) + e)) p.mode else stepR c n l e p.sc p.sn p.sd p.se p.mode

def sigL (p : PrecT) (r : DecT) : Int := if r.dig = [] then p.minS - 1 else max 0 (p.minS - ((r.dig.length : Int) + r.exp))

def leastP (p : PrecT) (r : DecT) : Int :=
  if p.kind = 0 then 0 else if p.kind = 1 then p.minF else if p.kind = 2 then sigL p r else if p.kind = 3 then max p.minF (sigL p r) else p.minF

def nought (n : Int) : List UInt8 := List.replicate n.toNat 48

def aheadD (l : List UInt8) (e : Int) : List UInt8 := if (l.length : Int) + e ≤ 0 then [] else if 0 ≤ e then l ++ nought e else l.take ((l.length : Int) + e).toNat

def behindD (l : List UInt8) (e : Int) : List UInt8 := if (l.length : Int) + e ≤ 0 then nought (-((l.length : Int) + e)) ++ l else if 0 ≤ e then [] else l.drop ((l.length : Int) + e).toNat

def fillI (p : PrecT) (a : List UInt8) : List UInt8 := nought (p.imin - a.length) ++ a
def wholeP (p : PrecT) (a : List UInt8) : List UInt8 := if 0 < p.imax ∧ p.imax < ((fillI p a).length : Int) then (fillI p a).drop (((fillI p a).length : Int) - p.imax).toNat else fillI p a

def fracP (p : PrecT) (b : List UInt8) (n : Int) : List UInt8 := if p.hide = true ∧ b = [] then [] else b ++ nought (n - b.length)

def digitsP (p : PrecT) (r : DecT) (n : Int) : List UInt8 × List UInt8 :=
  if wholeP p (aheadD r.dig r.exp) = [] ∧ fracP p (behindD r.dig r.exp) n = [] then ([48], []) else (wholeP p (aheadD r.dig r.exp), fracP p (behindD r.dig r.exp) n)

def shownP (p : PrecT) (r : DecT) : ShownT := if r.cls = 0 then ⟨0, r.neg, (digitsP p r (leastP p r)).1, (digitsP p r (leastP p r)).2, 0, false⟩ else ⟨r.cls, r.neg, [], [], 0, false⟩

noncomputable def showP (c : Int) (n : Bool) (l : List UInt8) (e : Int) (p : PrecT) : ShownT × Int := open Classical in
  if ¬ MayD c n l e then (zeroS, 52) else if ¬ MayP p then (zeroS, 70) else if (roundP p c n l e).2 ≠ 0 then (zeroS, (roundP p c n l e).2) else (shownP p (roundP p c n l e).1, 0)

def MayS (s : ShownT) : Prop := (-2001 ≤ s.exp ∧ s.exp ≤ 2001) ∧ ((s.cls = 0 ∧ (s.int ≠ [] ∨ s.frac ≠ []) ∧ (s.int.length ≤ 4096 ∧ DigB s.int) ∧ (s.frac.length ≤ 4096 ∧ DigB s.frac)) ∨ (s.cls = 1 ∧ s.int = [] ∧ s.frac = []) ∨ (s.cls = 2 ∧ s.int = [] ∧ s.frac = [] ∧ s.neg = false))

noncomputable def valueS (s : ShownT) : DecT × Int := open Classical in
  if ¬ MayS s then (zeroD, 71) else if s.cls ≠ 0 then (⟨s.cls.toNat, s.neg, [], 0⟩, 0) else tellF s.neg (decV (s.int ++ s.frac)) (s.exp - s.frac.length)

theorem step_err (c : Int) (n : Bool) (l : List UInt8) (e m : Int) (h1 : 0 ≤ m) (h2 : m < 8) : (MayD c n l e ∧ StepD c n l → (stepR 0 false [] 0 c n l e m).2 = 0) ∧ (¬ (MayD c n l e ∧ StepD c n l) → (stepR 0 false [] 0 c n l e m).2 ≠ 0) := by
  have hz : MayD 0 false [] 0 := .inl ⟨rfl, .inl ⟨rfl, rfl⟩⟩
  unfold stepR
  by_cases h : MayD c n l e
  · rw [if_neg (fun g => g h), if_neg (fun g => g hz), if_neg (by omega)]
    by_cases h3 : StepD c n l
    · rw [if_neg (fun g => g h3), rndD_zero rfl]
      exact ⟨fun _ => rfl, fun g => absurd ⟨h, h3⟩ g⟩
    · rw [if_pos h3]
      exact ⟨fun g => absurd g.2 h3, fun _ => by simp⟩
  · rw [if_pos h]
    exact ⟨fun g => absurd g.1 h, fun _ => by simp⟩

end Go.Proofs.YtckijnlolmbdiaaGreatDoor

namespace Go.Proofs.YtckijnlolmbdiaaGreatDoor
open Go.RowKit

section
variable {ca : Int} {na : Bool} {l : List UInt8} {ea p m : Int}

theorem atR_in (h : MayD ca na l ea) (hm : ¬ (m < 0 ∨ 8 ≤ m)) (hp : ¬ (p < -4000 ∨ 4000 < p)) : atR ca na l ea p m = rndD ⟨ca.toNat, na, l, ea⟩ 1 p m.toNat := by unfold atR; rw [if_neg (fun g => g h), if_neg hm, if_neg hp]
theorem digR_in (h : MayD ca na l ea) (hm : ¬ (m < 0 ∨ 8 ≤ m)) (hp : ¬ (p < 1 ∨ 1000 < p)) : digR ca na l ea p m = rndD ⟨ca.toNat, na, l, ea⟩ 1 ((l.length : Int) + ea - p) m.toNat := by unfold digR; rw [if_neg (fun g => g h), if_neg hm, if_neg hp]

variable {cb : Int} {nb : Bool} {k : List UInt8} {eb : Int}
theorem stepR_in (hb : MayD cb nb k eb) (h : MayD ca na l ea) (hm : ¬ (m < 0 ∨ 8 ≤ m)) (hs : StepD cb nb k) : stepR ca na l ea cb nb k eb m = rndD ⟨ca.toNat, na, l, ea⟩ (decV k) eb m.toNat := by unfold stepR; rw [if_neg (fun g => g hb), if_neg (fun g => g h), if_neg hm, if_neg (fun g => g hs)]
end

theorem tellF_mayR (neg : Bool) (N : Nat) (e : Int) : May (tellF neg N e).1 := by
  by_cases h : May (finD neg N e)
  · rw [tellF_yes h]; exact h
  · rw [tellF_no h]; exact may_zero false

theorem rndD_may {d : DecT} (h : May d) (N : Nat) (x : Int) (m : Nat) : May (rndD d N x m).1 := by
  by_cases hz : d.dig = []
  · rw [rndD_zero hz]; exact h
  · rw [rndD_fin hz]; exact tellF_mayR _ _ _

end Go.Proofs.YtckijnlolmbdiaaGreatDoor

namespace Go.Proofs.YtckijnlolmbdiaaGreatDoor

def unitN (p : PrecT) : Nat := if p.kind = 4 then decV p.sd else 1
def unitX (p : PrecT) (pl : Int) : Int := if p.kind = 1 then -p.maxF else if p.kind = 2 then pl - p.maxS else if p.kind = 3 then bothAt p pl else p.se

theorem mayP_kind {p : PrecT} (h : MayP p) : p.kind = 0 ∨ p.kind = 1 ∨ p.kind = 2 ∨ p.kind = 3 ∨ p.kind = 4 := by
  rcases h.2.2 with ⟨g, _⟩ | ⟨g, _⟩ | ⟨g, _⟩ | ⟨g, _⟩ | ⟨g, _⟩
  · exact .inl g
  · exact .inr (.inl g)
  · exact .inr (.inr (.inl g))
  · exact .inr (.inr (.inr (.inl g)))
  · exact .inr (.inr (.inr (.inr g)))

theorem mayP_1 {p : PrecT} (h : MayP p) (k : p.kind = 1) : FieldsFrac p := by
  rcases h.2.2 with ⟨g, _⟩ | ⟨g, q⟩ | ⟨g, _⟩ | ⟨g, _⟩ | ⟨g, _⟩ <;> first | exact q | omega
theorem mayP_2 {p : PrecT} (h : MayP p) (k : p.kind = 2) : FieldsSig p := by
  rcases h.2.2 with ⟨g, _⟩ | ⟨g, _⟩ | ⟨g, q⟩ | ⟨g, _⟩ | ⟨g, _⟩ <;> first | exact q | omega
theorem mayP_3 {p : PrecT} (h : MayP p) (k : p.kind = 3) : FieldsBoth p := by
  rcases h.2.2 with ⟨g, _⟩ | ⟨g, _⟩ | ⟨g, _⟩ | ⟨g, q⟩ | ⟨g, _⟩ <;> first | exact q | omega
theorem mayP_4 {p : PrecT} (h : MayP p) (k : p.kind = 4) : FieldsStep p := by
  rcases h.2.2 with ⟨g, _⟩ | ⟨g, _⟩ | ⟨g, _⟩ | ⟨g, _⟩ | ⟨g, q⟩ <;> first | exact q | omega

theorem may_pl {c : Int} {n : Bool} {l : List UInt8} {e : Int} (h : MayD c n l e) : -3000 ≤ e ∧ e ≤ 2000 ∧ -2000 ≤ (l.length : Int) + e ∧ (l.length : Int) + e ≤ 2000 ∧ l.length ≤ 1000 := by
  rcases h with ⟨_, ⟨h1, h2⟩ | ⟨_, h1, h2, h3, _⟩⟩ | ⟨_, h1, h2⟩ | ⟨_, _, h1, h2⟩
  · rw [h1]; simp; omega
  · omega
  · rw [h1]; simp; omega
  · rw [h1]; simp; omega

theorem bothAt_in {p : PrecT} {pl : Int} (h : FieldsBoth p) (h1 : -2000 ≤ pl) (h2 : pl ≤ 2000) : -3000 ≤ bothAt p pl ∧ bothAt p pl ≤ 3000 := by
  obtain ⟨⟨⟨a1, a2⟩, a3⟩, ⟨⟨b1, b2⟩, b3⟩, _⟩ := h
  unfold bothAt
  split <;> omega

theorem roundP_0 {p : PrecT} {c : Int} {n : Bool} {l : List UInt8} {e : Int} (k : p.kind = 0) : roundP p c n l e = (⟨c.toNat, n, l, e⟩, 0) := by
  unfold roundP; rw [if_pos k]
theorem roundP_1 {p : PrecT} {c : Int} {n : Bool} {l : List UInt8} {e : Int} (k : p.kind = 1) : roundP p c n l e = atR c n l e (-p.maxF) p.mode := by
  unfold roundP; rw [if_neg (by omega), if_pos k]
theorem roundP_2 {p : PrecT} {c : Int} {n : Bool} {l : List UInt8} {e : Int} (k : p.kind = 2) : roundP p c n l e = digR c n l e p.maxS p.mode := by
  unfold roundP; rw [if_neg (by omega), if_neg (by omega), if_pos k]
theorem roundP_3 {p : PrecT} {c : Int} {n : Bool} {l : List UInt8} {e : Int} (k : p.kind = 3) : roundP p c n l e = atR c n l e (bothAt p ((l.length : Int) + e)) p.mode := by
  unfold roundP; rw [if_neg (by omega), if_neg (by omega), if_neg (by omega), if_pos k]
theorem roundP_4 {p : PrecT} {c : Int} {n : Bool} {l : List UInt8} {e : Int} (k : p.kind = 4) : roundP p c n l e = stepR c n l e p.sc p.sn p.sd p.se p.mode := by
  unfold roundP; rw [if_neg (by omega), if_neg (by omega), if_neg (by omega), if_neg (by omega)]

theorem roundP_rnd {p : PrecT} {c : Int} {n : Bool} {l : List UInt8} {e : Int} (hp : MayP p) (h : MayD c n l e) (k : p.kind ≠ 0) :
    roundP p c n l e = rndD ⟨c.toNat, n, l, e⟩ (unitN p) (unitX p ((l.length : Int) + e)) p.mode.toNat := by
  obtain ⟨_, _, b3, b4, _⟩ := may_pl h
  have hm : ¬ (p.mode < 0 ∨ 8 ≤ p.mode) := by have := hp.1; omega
  rcases mayP_kind hp with g | g | g | g | g
  · exact absurd g k
  · obtain ⟨⟨⟨a1, a2⟩, a3⟩, _⟩ := mayP_1 hp g
    rw [roundP_1 g, atR_in h hm (by omega)]
    unfold unitN unitX
    rw [if_neg (by omega), if_pos g]
  · obtain ⟨_, ⟨⟨a1, a2⟩, a3⟩, _⟩ := mayP_2 hp g
    rw [roundP_2 g, digR_in h hm (by omega)]
    unfold unitN unitX
    rw [if_neg (by omega), if_neg (by omega), if_pos g]
  · have := bothAt_in (mayP_3 hp g) b3 b4
    rw [roundP_3 g, atR_in h hm (by omega)]
    unfold unitN unitX
    rw [if_neg (by omega), if_neg (by omega), if_neg (by omega), if_pos g]
  · obtain ⟨_, _, _, _, hb, hs⟩ := mayP_4 hp g
    rw [roundP_4 g, stepR_in hb h hm hs]
    unfold unitN unitX
    rw [if_pos g, if_neg (by omega), if_neg (by omega), if_neg (by omega)]

theorem roundP_may {p : PrecT} {c : Int} {n : Bool} {l : List UInt8} {e : Int} (hp : MayP p) (h : MayD c n l e) : May (roundP p c n l e).1 := by
  by_cases k : p.kind = 0
  · rw [roundP_0 k]; exact may_of h
  · rw [roundP_rnd hp h k]; exact rndD_may (may_of h) _ _ _

theorem leastP_in {p : PrecT} (hp : MayP p) {r : DecT} (hr : May r) : 0 ≤ leastP p r ∧ leastP p r ≤ 3000 := by
  have b := may_pl (show MayD (r.cls : Int) r.neg r.dig r.exp from hr)
  have hs : ∀ (_ : SigOk p), 0 ≤ sigL p r ∧ sigL p r ≤ 3000 := by
    rintro ⟨⟨a1, a2⟩, a3⟩
    unfold sigL
    split <;> omega
  unfold leastP
  rcases mayP_kind hp with g | g | g | g | g
  · rw [if_pos g]; omega
  · obtain ⟨⟨⟨a1, a2⟩, a3⟩, _⟩ := mayP_1 hp g
    rw [if_neg (by omega), if_pos g]; omega
  · obtain ⟨_, q, _⟩ := mayP_2 hp g
    rw [if_neg (by omega), if_neg (by omega), if_pos g]; exact hs q
  · obtain ⟨⟨⟨a1, a2⟩, a3⟩, q, _⟩ := mayP_3 hp g
    have := hs q
    rw [if_neg (by omega), if_neg (by omega), if_neg (by omega), if_pos g]; omega
  · obtain ⟨⟨a1, a2⟩, _⟩ := mayP_4 hp g
    rw [if_neg (by omega), if_neg (by omega), if_neg (by omega), if_neg (by omega)]; omega

theorem showP_no {c : Int} {n : Bool} {l : List UInt8} {e : Int} {p : PrecT} (h : ¬ MayD c n l e) : showP c n l e p = (zeroS, 52) := by unfold showP; rw [if_pos h]
theorem showP_bad {c : Int} {n : Bool} {l : List UInt8} {e : Int} {p : PrecT} (h : MayD c n l e) (hp : ¬ MayP p) : showP c n l e p = (zeroS, 70) := by unfold showP; rw [if_neg (fun g => g h), if_pos hp]
theorem showP_err {c : Int} {n : Bool} {l : List UInt8} {e : Int} {p : PrecT} (h : MayD c n l e) (hp : MayP p) (hr : (roundP p c n l e).2 ≠ 0) : showP c n l e p = (zeroS, (roundP p c n l e).2) := by
  unfold showP; rw [if_neg (fun g => g h), if_neg (fun g => g hp), if_pos hr]
theorem showP_in {c : Int} {n : Bool} {l : List UInt8} {e : Int} {p : PrecT} (h : MayD c n l e) (hp : MayP p) (hr : (roundP p c n l e).2 = 0) : showP c n l e p = (shownP p (roundP p c n l e).1, 0) := by
  unfold showP; rw [if_neg (fun g => g h), if_neg (fun g => g hp), if_neg (fun g => g hr)]

end Go.Proofs.YtckijnlolmbdiaaGreatDoor

namespace Go.Proofs.YtckijnlolmbdiaaGreatDoor
open Go.RowKit

theorem Blk.three {w : World} {b : Nat} {x0 x1 x2 : Value} {t : TypeId} (h : Blk w b #[x0, x1, x2] t) : w.cell? ⟨b, 0, none⟩ = some x0 ∧ w.cell? ⟨b, 1, none⟩ = some x1 ∧ w.cell? ⟨b, 2, none⟩ = some x2 := ⟨h.cell 0, h.cell 1, h.cell 2⟩
theorem Blk.six {w : World} {b : Nat} {x0 x1 x2 x3 x4 x5 : Value} {t : TypeId} (h : Blk w b #[x0, x1, x2, x3, x4, x5] t) : w.cell? ⟨b, 0, none⟩ = some x0 ∧ w.cell? ⟨b, 1, none⟩ = some x1 ∧ w.cell? ⟨b, 2, none⟩ = some x2 ∧ w.cell? ⟨b, 3, none⟩ = some x3 ∧ w.cell? ⟨b, 4, none⟩ = some x4 ∧ w.cell? ⟨b, 5, none⟩ = some x5 := ⟨h.cell 0, h.cell 1, h.cell 2, h.cell 3, h.cell 4, h.cell 5⟩
theorem Blk.fourteen {w : World} {b : Nat} {x0 x1 x2 x3 x4 x5 x6 x7 x8 x9 x10 x11 x12 x13 : Value} {t : TypeId} (h : Blk w b #[x0, x1, x2, x3, x4, x5, x6, x7, x8, x9, x10, x11, x12, x13] t) : w.cell? ⟨b, 0, none⟩ = some x0 ∧ w.cell? ⟨b, 1, none⟩ = some x1 ∧ w.cell? ⟨b, 2, none⟩ = some x2 ∧ w.cell? ⟨b, 3, none⟩ = some x3 ∧ w.cell? ⟨b, 4, none⟩ = some x4 ∧ w.cell? ⟨b, 5, none⟩ = some x5 ∧ w.cell? ⟨b, 6, none⟩ = some x6 ∧ w.cell? ⟨b, 7, none⟩ = some x7 ∧ w.cell? ⟨b, 8, none⟩ = some x8 ∧ w.cell? ⟨b, 9, none⟩ = some x9 ∧ w.cell? ⟨b, 10, none⟩ = some x10 ∧ w.cell? ⟨b, 11, none⟩ = some x11 ∧ w.cell? ⟨b, 12, none⟩ = some x12 ∧ w.cell? ⟨b, 13, none⟩ = some x13 := ⟨h.cell 0, h.cell 1, h.cell 2, h.cell 3, h.cell 4, h.cell 5, h.cell 6, h.cell 7, h.cell 8, h.cell 9, h.cell 10, h.cell 11, h.cell 12, h.cell 13⟩

theorem Blk.put6 {w : World} {b : Nat} {t : TypeId} {x0 x1 x2 x3 x4 x5 : Value} (h : Blk w b #[x0, x1, x2, x3, x4, x5] t) (y0 y1 y2 y3 y4 y5 : Value) : Blk ((((((w.setCell ⟨b, 0, none⟩ y0).setCell ⟨b, 1, none⟩ y1).setCell ⟨b, 2, none⟩ y2).setCell ⟨b, 3, none⟩ y3).setCell ⟨b, 4, none⟩ y4).setCell ⟨b, 5, none⟩ y5) b #[y0, y1, y2, y3, y4, y5] t := by
  unfold Blk at *
  simp only [World.setCell, Array.getElem?_modify, if_true, h, Option.map_some]
  rfl

theorem below_put6 {w W : World} {H : Nat} (h : Below w.heap.size w W) (hH : w.heap.size ≤ H) (y0 y1 y2 y3 y4 y5 : Value) : Below w.heap.size w ((((((W.setCell ⟨H, 0, none⟩ y0).setCell ⟨H, 1, none⟩ y1).setCell ⟨H, 2, none⟩ y2).setCell ⟨H, 3, none⟩ y3).setCell ⟨H, 4, none⟩ y4).setCell ⟨H, 5, none⟩ y5) :=
  (((((h.setCell hH _).setCell hH _).setCell hH _).setCell hH _).setCell hH _).setCell hH _

theorem results_shn2 {fn : Func} {a c : Tmp} (h : fn.results = #[.cell a 36, .tmp c]) (tmps : Array Value) (H : Nat) (x0 x1 x2 x3 x4 x5 : Value) (w : World) (ht : tmps.getD a undef = .pointer (some ⟨H, 0, none⟩)) (hp : Blk w H #[x0, x1, x2, x3, x4, x5] 36) :
    (results fn tmps).run Tryz.prog w = .ok (.tuple #[.agg #[x0, x1, x2, x3, x4, x5], tmps.getD c undef]) w := by
  have c0 := hp.cell 0
  have c1 := hp.cell 1
  have c2 := hp.cell 2
  have c3 := hp.cell 3
  have c4 := hp.cell 4
  have c5 := hp.cell 5
  simp at c0 c1 c2 c3 c4 c5
  rw [Array.getD_eq_getD_getElem?] at ht
  simp [results, h, ht, go_sem, c0, c1, c2, c3, c4, c5]

end Go.Proofs.YtckijnlolmbdiaaGreatDoor
