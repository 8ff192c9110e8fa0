/-
  What cmp.Or, dec's cmpAmounts and Cmp do.
-/
import Derived.Test.YtifpacgacbpalaaGreatDoorDSmall
import Derived.Test.YtifpacgacbpalaaGreatDoorZQ22
import Derived.Test.YtifpacgacbpalaaGreatDoorZQ24
import Derived.Deep.RegionHeld3
namespace Go.Proofs.YtifpacgacbpalaaGreatDoor
open Go.RowKit

set_option maxHeartbeats 1000000 in
theorem or_any (b : Nat) (x y : Int) (w : World) (h0 : w.cell? ⟨b, 0, none⟩ = some (.int .i64 x)) (h1 : w.cell? ⟨b, 1, none⟩ = some (.int .i64 y)) :
    Calls Tryz.prog 61 #[.slice (some ⟨b, 0, none⟩) 2 2] w fun e w' => e = .returned (.int .i64 (orI x y)) ∧ w = w' := by
  go_enter Tryz.func61, Tryz.ntmps61
  go_wp2
  go_loopw [8] (fun i wr => wr = w ∧ (i = .int .i64 0 ∨ (i = .int .i64 1 ∧ x = 0) ∨ (i = .int .i64 2 ∧ x = 0 ∧ y = 0))) (fun i _ => 2 - (intOf i).toNat)
  case atStart => exact ⟨rfl, .inl rfl⟩
  case round =>
    obtain ⟨rfl, rfl | ⟨rfl, rfl⟩ | ⟨rfl, rfl, rfl⟩⟩ := hrel
    · by_cases hx : x = 0
      · subst hx
        go_wp2
        exact ⟨by simp, by simp [intOf]⟩
      · have hx' : (x != 0) = true := by simpa using hx
        have HR : Hid (orI x y = x) := if_neg hx
        go_wp2
        go_ret
        exact ⟨by rw [HR.out]; rfl, rfl⟩
    · by_cases hy : y = 0
      · subst hy
        go_wp2
        exact ⟨by simp, by simp [intOf]⟩
      · have hy' : (y != 0) = true := by simpa using hy
        go_wp2
        go_ret
        exact ⟨rfl, rfl⟩
    · go_wp2
      go_ret
      exact ⟨rfl, rfl⟩

theorem or_alloc (X : World) (x y : Int) (T : TypeId) : Calls Tryz.prog 61 #[.slice (some ⟨X.heap.size, 0, none⟩) 2 2] (X.alloc (.cells #[.int .i64 x, .int .i64 y] T)) fun e w' => e = .returned (.int .i64 (orI x y)) ∧ Below X.heap.size X w' := by
  have b := Blk.new X #[.int .i64 x, .int .i64 y] T
  refine (or_any X.heap.size x y _ (b.cell 0) (b.cell 1)).mono ?_
  rintro e w' ⟨rfl, rfl⟩
  exact ⟨rfl, (Below.refl _ _).alloc (Nat.le_refl _) _⟩

set_option maxRecDepth 100000 in
set_option maxHeartbeats 2000000 in
theorem cmpA_any (ca : Int) (na : Bool) (ta : ByteArray) (ea : Int) (cb : Int) (nb : Bool) (tb : ByteArray) (eb : Int) (w : World) (a1 : ta.size ≤ 10000) (a2 : -10000 ≤ ea) (a3 : ea ≤ 10000) (b1 : tb.size ≤ 10000) (b2 : -10000 ≤ eb) (b3 : eb ≤ 10000) : Calls Tryz.prog 38 #[dcV ca na ta ea, dcV cb nb tb eb] w fun e w' => e = .returned (.int .i64 (orI (Lib.compareInt ((ta.size : Int) + ea) ((tb.size : Int) + eb)) (Lib.compareBytes (bys ta) (bys tb)))) ∧ Below w.heap.size w w' := by
  have PA := hide (fun W => place_any ca na ta ea W a1 a2 a3)
  have PB := hide (fun W => place_any cb nb tb eb W b1 b2 b3)
  obtain ⟨pa, hpa⟩ : ∃ p, p = (ta.size : Int) + ea := ⟨_, rfl⟩
  obtain ⟨pb, hpb⟩ : ∃ p, p = (tb.size : Int) + eb := ⟨_, rfl⟩
  rw [← hpa] at PA
  rw [← hpb] at PB
  have CI := hide (fun W => Tryz.cmp_Compare_int pa pb W)
  have CS := hide (fun W => Tryz.strings_Compare ta tb W)
  rw [← hpa, ← hpb]
  obtain ⟨x, hx⟩ : ∃ x, x = Lib.compareInt pa pb := ⟨_, rfl⟩
  obtain ⟨y, hy⟩ : ∃ y, y = Lib.compareBytes ta.data.toList tb.data.toList := ⟨_, rfl⟩
  rw [← hx] at CI
  rw [← hy] at CS
  have hy2 : Lib.compareBytes (bys ta) (bys tb) = y := hy.symm
  rw [hy2, ← hx]
  clear hpa hpb hx hy hy2 a1 a2 a3 b1 b2 b3
  have Ba0 := hide ((Blk.newAt w (w.heap.size) (rfl) #[.int .i64 ca, .bool na, .string ta, .int .i64 ea] 23).alloc (.cells #[.int .i64 cb, .bool nb, .string tb, .int .i64 eb] 23))
  have Bb0 := hide (Blk.newAt (w.alloc (.cells #[.int .i64 ca, .bool na, .string ta, .int .i64 ea] 23)) (w.heap.size + 1) (by simp) #[.int .i64 cb, .bool nb, .string tb, .int .i64 eb] 23)
  have HB0 : Hid (Below w.heap.size w ((w.alloc (.cells #[.int .i64 ca, .bool na, .string ta, .int .i64 ea] 23)).alloc (.cells #[.int .i64 cb, .bool nb, .string tb, .int .i64 eb] 23))) := (((Below.refl _ _).alloc (Nat.le_refl _) _).alloc (by simp <;> omega) _)
  obtain ⟨W, hW⟩ : ∃ W, W = ((w.alloc (.cells #[.int .i64 ca, .bool na, .string ta, .int .i64 ea] 23)).alloc (.cells #[.int .i64 cb, .bool nb, .string tb, .int .i64 eb] 23)) := ⟨_, rfl⟩
  rw [← hW] at HB0 Ba0 Bb0 
  have HW := hide hW
  clear hW
  have ya0 : W.cell? ⟨w.heap.size, 0, none⟩ = some (.int .i64 ca) := Ba0.out.cell 0
  have ya1 : W.cell? ⟨w.heap.size, 1, none⟩ = some (.bool na) := Ba0.out.cell 1
  have ya2 : W.cell? ⟨w.heap.size, 2, none⟩ = some (.string ta) := Ba0.out.cell 2
  have ya3 : W.cell? ⟨w.heap.size, 3, none⟩ = some (.int .i64 ea) := Ba0.out.cell 3
  have yb0 : W.cell? ⟨w.heap.size + 1, 0, none⟩ = some (.int .i64 cb) := Bb0.out.cell 0
  have yb1 : W.cell? ⟨w.heap.size + 1, 1, none⟩ = some (.bool nb) := Bb0.out.cell 1
  have yb2 : W.cell? ⟨w.heap.size + 1, 2, none⟩ = some (.string tb) := Bb0.out.cell 2
  have yb3 : W.cell? ⟨w.heap.size + 1, 3, none⟩ = some (.int .i64 eb) := Bb0.out.cell 3
  go_enter Tryz.func38, Tryz.ntmps38
  have b0 : Hid (Below W.heap.size W W.drew) := bdrewD W
  have C0 : Hid (∀ X, Hid (Below W.heap.size W X) → Calls Tryz.prog 29 #[dcV ca na ta ea] X fun e w' => e = .returned (.int .i64 pa) ∧ Hid (Below W.heap.size W w') ∧ w'.cell? ⟨w.heap.size, 0, none⟩ = some (.int .i64 ca) ∧ w'.cell? ⟨w.heap.size, 1, none⟩ = some (.bool na) ∧ w'.cell? ⟨w.heap.size, 2, none⟩ = some (.string ta) ∧ w'.cell? ⟨w.heap.size, 3, none⟩ = some (.int .i64 ea) ∧ w'.cell? ⟨w.heap.size + 1, 0, none⟩ = some (.int .i64 cb) ∧ w'.cell? ⟨w.heap.size + 1, 1, none⟩ = some (.bool nb) ∧ w'.cell? ⟨w.heap.size + 1, 2, none⟩ = some (.string tb) ∧ w'.cell? ⟨w.heap.size + 1, 3, none⟩ = some (.int .i64 eb)) := by
    intro X bX
    refine (PA.out X).mono ?_
    rintro e w' ⟨rfl, hb⟩
    have bb := bX.out.trans (hb.mono bX.out.size)
    have Baq := Ba0.out.below bb Ba0.out.lt
    have Bbq := Bb0.out.below bb Bb0.out.lt
    exact ⟨rfl, bb, Baq.cell 0, Baq.cell 1, Baq.cell 2, Baq.cell 3, Bbq.cell 0, Bbq.cell 1, Bbq.cell 2, Bbq.cell 3⟩
  have C1 : Hid (∀ X, Hid (Below W.heap.size W X) → Calls Tryz.prog 29 #[dcV cb nb tb eb] X fun e w' => e = .returned (.int .i64 pb) ∧ Hid (Below W.heap.size W w') ∧ w'.cell? ⟨w.heap.size, 0, none⟩ = some (.int .i64 ca) ∧ w'.cell? ⟨w.heap.size, 1, none⟩ = some (.bool na) ∧ w'.cell? ⟨w.heap.size, 2, none⟩ = some (.string ta) ∧ w'.cell? ⟨w.heap.size, 3, none⟩ = some (.int .i64 ea) ∧ w'.cell? ⟨w.heap.size + 1, 0, none⟩ = some (.int .i64 cb) ∧ w'.cell? ⟨w.heap.size + 1, 1, none⟩ = some (.bool nb) ∧ w'.cell? ⟨w.heap.size + 1, 2, none⟩ = some (.string tb) ∧ w'.cell? ⟨w.heap.size + 1, 3, none⟩ = some (.int .i64 eb)) := by
    intro X bX
    refine (PB.out X).mono ?_
    rintro e w' ⟨rfl, hb⟩
    have bb := bX.out.trans (hb.mono bX.out.size)
    have Baq := Ba0.out.below bb Ba0.out.lt
    have Bbq := Bb0.out.below bb Bb0.out.lt
    exact ⟨rfl, bb, Baq.cell 0, Baq.cell 1, Baq.cell 2, Baq.cell 3, Bbq.cell 0, Bbq.cell 1, Bbq.cell 2, Bbq.cell 3⟩
  have C2 : Hid (∀ X, Hid (Below W.heap.size W X) → Calls Tryz.prog 36 #[.int .i64 pa, .int .i64 pb] X fun e w' => e = .returned (.int .i64 x) ∧ Hid (Below W.heap.size W w') ∧ w'.cell? ⟨w.heap.size, 0, none⟩ = some (.int .i64 ca) ∧ w'.cell? ⟨w.heap.size, 1, none⟩ = some (.bool na) ∧ w'.cell? ⟨w.heap.size, 2, none⟩ = some (.string ta) ∧ w'.cell? ⟨w.heap.size, 3, none⟩ = some (.int .i64 ea) ∧ w'.cell? ⟨w.heap.size + 1, 0, none⟩ = some (.int .i64 cb) ∧ w'.cell? ⟨w.heap.size + 1, 1, none⟩ = some (.bool nb) ∧ w'.cell? ⟨w.heap.size + 1, 2, none⟩ = some (.string tb) ∧ w'.cell? ⟨w.heap.size + 1, 3, none⟩ = some (.int .i64 eb)) := by
    intro X bX
    refine (Calls.mono (CI.out X) (fun e w' h => (⟨h.1, h.2 ▸ Below.refl _ _⟩ : _ ∧ Below X.heap.size X w'))).mono ?_
    rintro e w' ⟨rfl, hb⟩
    have bb := bX.out.trans (hb.mono bX.out.size)
    have Baq := Ba0.out.below bb Ba0.out.lt
    have Bbq := Bb0.out.below bb Bb0.out.lt
    exact ⟨rfl, bb, Baq.cell 0, Baq.cell 1, Baq.cell 2, Baq.cell 3, Bbq.cell 0, Bbq.cell 1, Bbq.cell 2, Bbq.cell 3⟩
  have C3 : Hid (∀ X, Hid (Below W.heap.size W X) → Calls Tryz.prog 62 #[.string ta, .string tb] X fun e w' => e = .returned (.int .i64 y) ∧ Hid (Below W.heap.size W w') ∧ w'.cell? ⟨w.heap.size, 0, none⟩ = some (.int .i64 ca) ∧ w'.cell? ⟨w.heap.size, 1, none⟩ = some (.bool na) ∧ w'.cell? ⟨w.heap.size, 2, none⟩ = some (.string ta) ∧ w'.cell? ⟨w.heap.size, 3, none⟩ = some (.int .i64 ea) ∧ w'.cell? ⟨w.heap.size + 1, 0, none⟩ = some (.int .i64 cb) ∧ w'.cell? ⟨w.heap.size + 1, 1, none⟩ = some (.bool nb) ∧ w'.cell? ⟨w.heap.size + 1, 2, none⟩ = some (.string tb) ∧ w'.cell? ⟨w.heap.size + 1, 3, none⟩ = some (.int .i64 eb)) := by
    intro X bX
    refine (Calls.mono (CS.out X) (fun e w' h => (⟨h.1, h.2 ▸ Below.refl _ _⟩ : _ ∧ Below X.heap.size X w'))).mono ?_
    rintro e w' ⟨rfl, hb⟩
    have bb := bX.out.trans (hb.mono bX.out.size)
    have Baq := Ba0.out.below bb Ba0.out.lt
    have Bbq := Bb0.out.below bb Bb0.out.lt
    exact ⟨rfl, bb, Baq.cell 0, Baq.cell 1, Baq.cell 2, Baq.cell 3, Bbq.cell 0, Bbq.cell 1, Bbq.cell 2, Bbq.cell 3⟩
  have C4 : Hid (∀ X T, Hid (Below W.heap.size W X) → Calls Tryz.prog 61 #[.slice (some ⟨X.heap.size, 0, none⟩) 2 2] (X.alloc (.cells #[.int .i64 x, .int .i64 y] T)) fun e w' => e = .returned (.int .i64 (orI x y)) ∧ Hid (Below W.heap.size W w') ∧ w'.cell? ⟨w.heap.size, 0, none⟩ = some (.int .i64 ca) ∧ w'.cell? ⟨w.heap.size, 1, none⟩ = some (.bool na) ∧ w'.cell? ⟨w.heap.size, 2, none⟩ = some (.string ta) ∧ w'.cell? ⟨w.heap.size, 3, none⟩ = some (.int .i64 ea) ∧ w'.cell? ⟨w.heap.size + 1, 0, none⟩ = some (.int .i64 cb) ∧ w'.cell? ⟨w.heap.size + 1, 1, none⟩ = some (.bool nb) ∧ w'.cell? ⟨w.heap.size + 1, 2, none⟩ = some (.string tb) ∧ w'.cell? ⟨w.heap.size + 1, 3, none⟩ = some (.int .i64 eb)) := by
    intro X T bX
    refine (or_alloc X x y T).mono ?_
    rintro e w' ⟨rfl, hb⟩
    have bb := bX.out.trans (hb.mono bX.out.size)
    have Baq := Ba0.out.below bb Ba0.out.lt
    have Bbq := Bb0.out.below bb Bb0.out.lt
    exact ⟨rfl, bb, Baq.cell 0, Baq.cell 1, Baq.cell 2, Baq.cell 3, Bbq.cell 0, Bbq.cell 1, Bbq.cell 2, Bbq.cell 3⟩
  go_wp2_with fail
  simp only [← HW.out]
  have mk0 : True := trivial
  go_region_held3 (fun w' => w'.cell? ⟨w.heap.size, 0, none⟩ = some (.int .i64 ca) ∧ w'.cell? ⟨w.heap.size, 1, none⟩ = some (.bool na) ∧ w'.cell? ⟨w.heap.size, 2, none⟩ = some (.string ta) ∧ w'.cell? ⟨w.heap.size, 3, none⟩ = some (.int .i64 ea) ∧ w'.cell? ⟨w.heap.size + 1, 0, none⟩ = some (.int .i64 cb) ∧ w'.cell? ⟨w.heap.size + 1, 1, none⟩ = some (.bool nb) ∧ w'.cell? ⟨w.heap.size + 1, 2, none⟩ = some (.string tb) ∧ w'.cell? ⟨w.heap.size + 1, 3, none⟩ = some (.int .i64 eb)) (go_keep) (first
    | (clear mk0; go_at_call 29; refine (C0.out _ b0).mono ?_; rintro e w1 ⟨rfl, b1, q0_0, q0_1, q0_2, q0_3, q0_4, q0_5, q0_6, q0_7⟩; have mk1 : True := trivial)
    | (clear mk1; go_at_call 29; refine (C1.out _ b1).mono ?_; rintro e w2 ⟨rfl, b2, q1_0, q1_1, q1_2, q1_3, q1_4, q1_5, q1_6, q1_7⟩; have mk2 : True := trivial)
    | (clear mk2; go_at_call 36; refine (C2.out _ b2).mono ?_; rintro e w3 ⟨rfl, b3, q2_0, q2_1, q2_2, q2_3, q2_4, q2_5, q2_6, q2_7⟩; have mk3 : True := trivial)
    | (clear mk3; go_at_call 62; refine (C3.out _ b3).mono ?_; rintro e w4 ⟨rfl, b4, q3_0, q3_1, q3_2, q3_3, q3_4, q3_5, q3_6, q3_7⟩; have mk4 : True := trivial)
    | (clear mk4; go_at_call 61; refine (C4.out _ _ b4).mono ?_; rintro e w5 ⟨rfl, b5, q4_0, q4_1, q4_2, q4_3, q4_4, q4_5, q4_6, q4_7⟩; have mk5 : True := trivial))
  have FIN := hide (HB0.out.trans (b5.out.mono HB0.out.size))
  clear b5
  go_wp2
  go_ret
  exact ⟨rfl, FIN.out⟩

theorem rank_d (d : DecT) (w : World) (h : May d) : Calls Tryz.prog 37 #[decVal d] w fun e w' => e = .returned (.int .i64 (rankI d)) ∧ Below w.heap.size w w' := by
  rcases may_cases h with ⟨n, rfl⟩ | h | ⟨n, rfl⟩ | rfl
  · cases n
    · exact rank_zero_false w
    · exact rank_zero_true w
  · have h1 : (⟨d.dig.toArray⟩ : ByteArray).size ≠ 0 := by rw [size_mk0]; exact fun e => h.ne (List.length_eq_zero_iff.1 e)
    obtain ⟨c, n, l, e⟩ := d
    have hc := h.cls
    have hn := h.ne
    simp only at hc hn h1
    subst hc
    cases n
    · have g := rank_fin_false ⟨l.toArray⟩ e h1 w
      have e1 : rankI ⟨0, false, l, e⟩ = 1 := by simp [rankI, hn]
      rw [e1]; exact g
    · have g := rank_fin_true ⟨l.toArray⟩ e h1 w
      have e1 : rankI ⟨0, true, l, e⟩ = -1 := by simp [rankI, hn]
      rw [e1]; exact g
  · cases n
    · exact rank_inf_false w
    · exact rank_inf_true w
  · exact rank_nan w

set_option maxHeartbeats 1000000 in
theorem Cmp_no1 (ca : Int) (na : Bool) (ta : ByteArray) (ea : Int) (cb : Int) (nb : Bool) (tb : ByteArray) (eb : Int) (w : World) (ha : ¬ MayD ca na (bys ta) ea) : Calls Tryz.prog 18 #[dcV ca na ta ea, dcV cb nb tb eb] w fun e w' => e = .returned (.tuple #[.int .i64 0, .int .i64 52]) ∧ Below w.heap.size w w' := by
  have MA := hide (fun W => dmay_no ca na ta ea W ha)
  clear ha
  have Ba0 := hide ((Blk.newAt w (w.heap.size) (rfl) #[.int .i64 ca, .bool na, .string ta, .int .i64 ea] 23).alloc (.cells #[.int .i64 cb, .bool nb, .string tb, .int .i64 eb] 23))
  have Bb0 := hide (Blk.newAt (w.alloc (.cells #[.int .i64 ca, .bool na, .string ta, .int .i64 ea] 23)) (w.heap.size + 1) (by simp) #[.int .i64 cb, .bool nb, .string tb, .int .i64 eb] 23)
  have HB0 : Hid (Below w.heap.size w ((w.alloc (.cells #[.int .i64 ca, .bool na, .string ta, .int .i64 ea] 23)).alloc (.cells #[.int .i64 cb, .bool nb, .string tb, .int .i64 eb] 23))) := (((Below.refl _ _).alloc (Nat.le_refl _) _).alloc (by simp <;> omega) _)
  go_enter Tryz.func18, Tryz.ntmps18
  go_wp2_with fail
  refine (MA.out _).mono ?_
  rintro e w1 ⟨rfl, hb⟩
  have Ba1 := hide (Ba0.out.below hb Ba0.out.lt)
  have Bb1 := hide (Bb0.out.below hb Bb0.out.lt)
  have HB1 := hide (HB0.out.trans (hb.mono HB0.out.size))
  clear hb Ba0 Bb0 HB0 
  have ya0 : w1.cell? ⟨w.heap.size, 0, none⟩ = some (.int .i64 ca) := Ba1.out.cell 0
  have ya1 : w1.cell? ⟨w.heap.size, 1, none⟩ = some (.bool na) := Ba1.out.cell 1
  have ya2 : w1.cell? ⟨w.heap.size, 2, none⟩ = some (.string ta) := Ba1.out.cell 2
  have ya3 : w1.cell? ⟨w.heap.size, 3, none⟩ = some (.int .i64 ea) := Ba1.out.cell 3
  have yb0 : w1.cell? ⟨w.heap.size + 1, 0, none⟩ = some (.int .i64 cb) := Bb1.out.cell 0
  have yb1 : w1.cell? ⟨w.heap.size + 1, 1, none⟩ = some (.bool nb) := Bb1.out.cell 1
  have yb2 : w1.cell? ⟨w.heap.size + 1, 2, none⟩ = some (.string tb) := Bb1.out.cell 2
  have yb3 : w1.cell? ⟨w.heap.size + 1, 3, none⟩ = some (.int .i64 eb) := Bb1.out.cell 3
  go_wp2
  go_ret2
  exact ⟨rfl, HB1.out⟩

set_option maxHeartbeats 1000000 in
theorem Cmp_no2 (ca : Int) (na : Bool) (ta : ByteArray) (ea : Int) (cb : Int) (nb : Bool) (tb : ByteArray) (eb : Int) (w : World) (ha : MayD ca na (bys ta) ea) (hb0 : ¬ MayD cb nb (bys tb) eb) : Calls Tryz.prog 18 #[dcV ca na ta ea, dcV cb nb tb eb] w fun e w' => e = .returned (.tuple #[.int .i64 0, .int .i64 52]) ∧ Below w.heap.size w w' := by
  have MA := hide (fun W => dmay_yes ca na ta ea W ha)
  have MB := hide (fun W => dmay_no cb nb tb eb W hb0)
  clear ha hb0
  have Ba0 := hide ((Blk.newAt w (w.heap.size) (rfl) #[.int .i64 ca, .bool na, .string ta, .int .i64 ea] 23).alloc (.cells #[.int .i64 cb, .bool nb, .string tb, .int .i64 eb] 23))
  have Bb0 := hide (Blk.newAt (w.alloc (.cells #[.int .i64 ca, .bool na, .string ta, .int .i64 ea] 23)) (w.heap.size + 1) (by simp) #[.int .i64 cb, .bool nb, .string tb, .int .i64 eb] 23)
  have HB0 : Hid (Below w.heap.size w ((w.alloc (.cells #[.int .i64 ca, .bool na, .string ta, .int .i64 ea] 23)).alloc (.cells #[.int .i64 cb, .bool nb, .string tb, .int .i64 eb] 23))) := (((Below.refl _ _).alloc (Nat.le_refl _) _).alloc (by simp <;> omega) _)
  go_enter Tryz.func18, Tryz.ntmps18
  go_wp2_with fail
  refine (MA.out _).mono ?_
  rintro e w1 ⟨rfl, hb⟩
  have Ba1 := hide (Ba0.out.below hb Ba0.out.lt)
  have Bb1 := hide (Bb0.out.below hb Bb0.out.lt)
  have HB1 := hide (HB0.out.trans (hb.mono HB0.out.size))
  clear hb Ba0 Bb0 HB0 
  have ya0 : w1.cell? ⟨w.heap.size, 0, none⟩ = some (.int .i64 ca) := Ba1.out.cell 0
  have ya1 : w1.cell? ⟨w.heap.size, 1, none⟩ = some (.bool na) := Ba1.out.cell 1
  have ya2 : w1.cell? ⟨w.heap.size, 2, none⟩ = some (.string ta) := Ba1.out.cell 2
  have ya3 : w1.cell? ⟨w.heap.size, 3, none⟩ = some (.int .i64 ea) := Ba1.out.cell 3
  have yb0 : w1.cell? ⟨w.heap.size + 1, 0, none⟩ = some (.int .i64 cb) := Bb1.out.cell 0
  have yb1 : w1.cell? ⟨w.heap.size + 1, 1, none⟩ = some (.bool nb) := Bb1.out.cell 1
  have yb2 : w1.cell? ⟨w.heap.size + 1, 2, none⟩ = some (.string tb) := Bb1.out.cell 2
  have yb3 : w1.cell? ⟨w.heap.size + 1, 3, none⟩ = some (.int .i64 eb) := Bb1.out.cell 3
  go_wp2_with fail
  refine (MB.out _).mono ?_
  rintro e w2 ⟨rfl, hb⟩
  have Ba2 := hide (Ba1.out.below hb Ba1.out.lt)
  have Bb2 := hide (Bb1.out.below hb Bb1.out.lt)
  have HB2 := hide (HB1.out.trans (hb.mono HB1.out.size))
  clear hb Ba1 Bb1 HB1 ya0 ya1 ya2 ya3 yb0 yb1 yb2 yb3
  have ya0 : w2.cell? ⟨w.heap.size, 0, none⟩ = some (.int .i64 ca) := Ba2.out.cell 0
  have ya1 : w2.cell? ⟨w.heap.size, 1, none⟩ = some (.bool na) := Ba2.out.cell 1
  have ya2 : w2.cell? ⟨w.heap.size, 2, none⟩ = some (.string ta) := Ba2.out.cell 2
  have ya3 : w2.cell? ⟨w.heap.size, 3, none⟩ = some (.int .i64 ea) := Ba2.out.cell 3
  have yb0 : w2.cell? ⟨w.heap.size + 1, 0, none⟩ = some (.int .i64 cb) := Bb2.out.cell 0
  have yb1 : w2.cell? ⟨w.heap.size + 1, 1, none⟩ = some (.bool nb) := Bb2.out.cell 1
  have yb2 : w2.cell? ⟨w.heap.size + 1, 2, none⟩ = some (.string tb) := Bb2.out.cell 2
  have yb3 : w2.cell? ⟨w.heap.size + 1, 3, none⟩ = some (.int .i64 eb) := Bb2.out.cell 3
  go_wp2
  go_ret2
  exact ⟨rfl, HB2.out⟩

set_option maxRecDepth 100000 in
set_option maxHeartbeats 2000000 in
theorem Cmp_rank (ca : Int) (na : Bool) (ta : ByteArray) (ea : Int) (cb : Int) (nb : Bool) (tb : ByteArray) (eb : Int) (w : World) (ra rb : Int) (ha : MayD ca na (bys ta) ea) (hb0 : MayD cb nb (bys tb) eb) (hra : ∀ W, Calls Tryz.prog 37 #[dcV ca na ta ea] W fun e w' => e = .returned (.int .i64 ra) ∧ Below W.heap.size W w') (hrb : ∀ W, Calls Tryz.prog 37 #[dcV cb nb tb eb] W fun e w' => e = .returned (.int .i64 rb) ∧ Below W.heap.size W w') (h : Lib.compareInt ra rb ≠ 0) : Calls Tryz.prog 18 #[dcV ca na ta ea, dcV cb nb tb eb] w fun e w' => e = .returned (.tuple #[.int .i64 (Lib.compareInt ra rb), .int .i64 0]) ∧ Below w.heap.size w w' := by
  have MA := hide (fun W => dmay_yes ca na ta ea W ha)
  have MB := hide (fun W => dmay_yes cb nb tb eb W hb0)
  have RA := hide hra
  have RB := hide hrb
  have CI := hide (fun W => Tryz.cmp_Compare_int ra rb W)
  obtain ⟨o, ho⟩ : ∃ o, o = Lib.compareInt ra rb := ⟨_, rfl⟩
  rw [← ho] at CI h ⊢
  have h' : (o != 0) = true := by simpa using h
  clear ha hb0 hra hrb ho h
  have Ba0 := hide ((Blk.newAt w (w.heap.size) (rfl) #[.int .i64 ca, .bool na, .string ta, .int .i64 ea] 23).alloc (.cells #[.int .i64 cb, .bool nb, .string tb, .int .i64 eb] 23))
  have Bb0 := hide (Blk.newAt (w.alloc (.cells #[.int .i64 ca, .bool na, .string ta, .int .i64 ea] 23)) (w.heap.size + 1) (by simp) #[.int .i64 cb, .bool nb, .string tb, .int .i64 eb] 23)
  have HB0 : Hid (Below w.heap.size w ((w.alloc (.cells #[.int .i64 ca, .bool na, .string ta, .int .i64 ea] 23)).alloc (.cells #[.int .i64 cb, .bool nb, .string tb, .int .i64 eb] 23))) := (((Below.refl _ _).alloc (Nat.le_refl _) _).alloc (by simp <;> omega) _)
  go_enter Tryz.func18, Tryz.ntmps18
  go_wp2_with fail
  refine (MA.out _).mono ?_
  rintro e w1 ⟨rfl, hb⟩
  have Ba1 := hide (Ba0.out.below hb Ba0.out.lt)
  have Bb1 := hide (Bb0.out.below hb Bb0.out.lt)
  have HB1 := hide (HB0.out.trans (hb.mono HB0.out.size))
  clear hb Ba0 Bb0 HB0 
  have ya0 : w1.cell? ⟨w.heap.size, 0, none⟩ = some (.int .i64 ca) := Ba1.out.cell 0
  have ya1 : w1.cell? ⟨w.heap.size, 1, none⟩ = some (.bool na) := Ba1.out.cell 1
  have ya2 : w1.cell? ⟨w.heap.size, 2, none⟩ = some (.string ta) := Ba1.out.cell 2
  have ya3 : w1.cell? ⟨w.heap.size, 3, none⟩ = some (.int .i64 ea) := Ba1.out.cell 3
  have yb0 : w1.cell? ⟨w.heap.size + 1, 0, none⟩ = some (.int .i64 cb) := Bb1.out.cell 0
  have yb1 : w1.cell? ⟨w.heap.size + 1, 1, none⟩ = some (.bool nb) := Bb1.out.cell 1
  have yb2 : w1.cell? ⟨w.heap.size + 1, 2, none⟩ = some (.string tb) := Bb1.out.cell 2
  have yb3 : w1.cell? ⟨w.heap.size + 1, 3, none⟩ = some (.int .i64 eb) := Bb1.out.cell 3
  go_wp2_with fail
  refine (MB.out _).mono ?_
  rintro e w2 ⟨rfl, hb⟩
  have Ba2 := hide (Ba1.out.below hb Ba1.out.lt)
  have Bb2 := hide (Bb1.out.below hb Bb1.out.lt)
  have HB2 := hide (HB1.out.trans (hb.mono HB1.out.size))
  clear hb Ba1 Bb1 HB1 ya0 ya1 ya2 ya3 yb0 yb1 yb2 yb3
  have ya0 : w2.cell? ⟨w.heap.size, 0, none⟩ = some (.int .i64 ca) := Ba2.out.cell 0
  have ya1 : w2.cell? ⟨w.heap.size, 1, none⟩ = some (.bool na) := Ba2.out.cell 1
  have ya2 : w2.cell? ⟨w.heap.size, 2, none⟩ = some (.string ta) := Ba2.out.cell 2
  have ya3 : w2.cell? ⟨w.heap.size, 3, none⟩ = some (.int .i64 ea) := Ba2.out.cell 3
  have yb0 : w2.cell? ⟨w.heap.size + 1, 0, none⟩ = some (.int .i64 cb) := Bb2.out.cell 0
  have yb1 : w2.cell? ⟨w.heap.size + 1, 1, none⟩ = some (.bool nb) := Bb2.out.cell 1
  have yb2 : w2.cell? ⟨w.heap.size + 1, 2, none⟩ = some (.string tb) := Bb2.out.cell 2
  have yb3 : w2.cell? ⟨w.heap.size + 1, 3, none⟩ = some (.int .i64 eb) := Bb2.out.cell 3
  have b0 : Hid (Below w2.heap.size w2 w2.drew) := bdrewD w2
  have C0 : Hid (∀ X, Hid (Below w2.heap.size w2 X) → Calls Tryz.prog 37 #[dcV ca na ta ea] X fun e w' => e = .returned (.int .i64 ra) ∧ Hid (Below w2.heap.size w2 w') ∧ w'.cell? ⟨w.heap.size, 0, none⟩ = some (.int .i64 ca) ∧ w'.cell? ⟨w.heap.size, 1, none⟩ = some (.bool na) ∧ w'.cell? ⟨w.heap.size, 2, none⟩ = some (.string ta) ∧ w'.cell? ⟨w.heap.size, 3, none⟩ = some (.int .i64 ea) ∧ w'.cell? ⟨w.heap.size + 1, 0, none⟩ = some (.int .i64 cb) ∧ w'.cell? ⟨w.heap.size + 1, 1, none⟩ = some (.bool nb) ∧ w'.cell? ⟨w.heap.size + 1, 2, none⟩ = some (.string tb) ∧ w'.cell? ⟨w.heap.size + 1, 3, none⟩ = some (.int .i64 eb)) := by
    intro X bX
    refine (RA.out X).mono ?_
    rintro e w' ⟨rfl, hb⟩
    have bb := bX.out.trans (hb.mono bX.out.size)
    have Baq := Ba2.out.below bb Ba2.out.lt
    have Bbq := Bb2.out.below bb Bb2.out.lt
    exact ⟨rfl, bb, Baq.cell 0, Baq.cell 1, Baq.cell 2, Baq.cell 3, Bbq.cell 0, Bbq.cell 1, Bbq.cell 2, Bbq.cell 3⟩
  have C1 : Hid (∀ X, Hid (Below w2.heap.size w2 X) → Calls Tryz.prog 37 #[dcV cb nb tb eb] X fun e w' => e = .returned (.int .i64 rb) ∧ Hid (Below w2.heap.size w2 w') ∧ w'.cell? ⟨w.heap.size, 0, none⟩ = some (.int .i64 ca) ∧ w'.cell? ⟨w.heap.size, 1, none⟩ = some (.bool na) ∧ w'.cell? ⟨w.heap.size, 2, none⟩ = some (.string ta) ∧ w'.cell? ⟨w.heap.size, 3, none⟩ = some (.int .i64 ea) ∧ w'.cell? ⟨w.heap.size + 1, 0, none⟩ = some (.int .i64 cb) ∧ w'.cell? ⟨w.heap.size + 1, 1, none⟩ = some (.bool nb) ∧ w'.cell? ⟨w.heap.size + 1, 2, none⟩ = some (.string tb) ∧ w'.cell? ⟨w.heap.size + 1, 3, none⟩ = some (.int .i64 eb)) := by
    intro X bX
    refine (RB.out X).mono ?_
    rintro e w' ⟨rfl, hb⟩
    have bb := bX.out.trans (hb.mono bX.out.size)
    have Baq := Ba2.out.below bb Ba2.out.lt
    have Bbq := Bb2.out.below bb Bb2.out.lt
    exact ⟨rfl, bb, Baq.cell 0, Baq.cell 1, Baq.cell 2, Baq.cell 3, Bbq.cell 0, Bbq.cell 1, Bbq.cell 2, Bbq.cell 3⟩
  have C2 : Hid (∀ X, Hid (Below w2.heap.size w2 X) → Calls Tryz.prog 36 #[.int .i64 ra, .int .i64 rb] X fun e w' => e = .returned (.int .i64 o) ∧ Hid (Below w2.heap.size w2 w') ∧ w'.cell? ⟨w.heap.size, 0, none⟩ = some (.int .i64 ca) ∧ w'.cell? ⟨w.heap.size, 1, none⟩ = some (.bool na) ∧ w'.cell? ⟨w.heap.size, 2, none⟩ = some (.string ta) ∧ w'.cell? ⟨w.heap.size, 3, none⟩ = some (.int .i64 ea) ∧ w'.cell? ⟨w.heap.size + 1, 0, none⟩ = some (.int .i64 cb) ∧ w'.cell? ⟨w.heap.size + 1, 1, none⟩ = some (.bool nb) ∧ w'.cell? ⟨w.heap.size + 1, 2, none⟩ = some (.string tb) ∧ w'.cell? ⟨w.heap.size + 1, 3, none⟩ = some (.int .i64 eb)) := by
    intro X bX
    refine (Calls.mono (CI.out X) (fun e w' h => (⟨h.1, h.2 ▸ Below.refl _ _⟩ : _ ∧ Below X.heap.size X w'))).mono ?_
    rintro e w' ⟨rfl, hb⟩
    have bb := bX.out.trans (hb.mono bX.out.size)
    have Baq := Ba2.out.below bb Ba2.out.lt
    have Bbq := Bb2.out.below bb Bb2.out.lt
    exact ⟨rfl, bb, Baq.cell 0, Baq.cell 1, Baq.cell 2, Baq.cell 3, Bbq.cell 0, Bbq.cell 1, Bbq.cell 2, Bbq.cell 3⟩
  go_wp2_with fail
  have mk0 : True := trivial
  go_region_held3 (fun w' => w'.cell? ⟨w.heap.size, 0, none⟩ = some (.int .i64 ca) ∧ w'.cell? ⟨w.heap.size, 1, none⟩ = some (.bool na) ∧ w'.cell? ⟨w.heap.size, 2, none⟩ = some (.string ta) ∧ w'.cell? ⟨w.heap.size, 3, none⟩ = some (.int .i64 ea) ∧ w'.cell? ⟨w.heap.size + 1, 0, none⟩ = some (.int .i64 cb) ∧ w'.cell? ⟨w.heap.size + 1, 1, none⟩ = some (.bool nb) ∧ w'.cell? ⟨w.heap.size + 1, 2, none⟩ = some (.string tb) ∧ w'.cell? ⟨w.heap.size + 1, 3, none⟩ = some (.int .i64 eb)) (go_keep) (first
    | (clear mk0; go_at_call 37; refine (C0.out _ b0).mono ?_; rintro e w3 ⟨rfl, b1, q0_0, q0_1, q0_2, q0_3, q0_4, q0_5, q0_6, q0_7⟩; have mk1 : True := trivial)
    | (clear mk1; go_at_call 37; refine (C1.out _ b1).mono ?_; rintro e w4 ⟨rfl, b2, q1_0, q1_1, q1_2, q1_3, q1_4, q1_5, q1_6, q1_7⟩; have mk2 : True := trivial)
    | (clear mk2; go_at_call 36; refine (C2.out _ b2).mono ?_; rintro e w5 ⟨rfl, b3, q2_0, q2_1, q2_2, q2_3, q2_4, q2_5, q2_6, q2_7⟩; have mk3 : True := trivial))
  have Ba5 := hide (Ba2.out.below b3.out Ba2.out.lt)
  have Bb5 := hide (Bb2.out.below b3.out Bb2.out.lt)
  have HB5 := hide (HB2.out.trans (b3.out.mono HB2.out.size))
  clear mk3 b0 b1 b2 b3 C0 C1 C2 q0_0 q0_1 q0_2 q0_3 q0_4 q0_5 q0_6 q0_7 q1_0 q1_1 q1_2 q1_3 q1_4 q1_5 q1_6 q1_7 q2_0 q2_1 q2_2 q2_3 q2_4 q2_5 q2_6 q2_7 Ba2 Bb2 HB2 ya0 ya1 ya2 ya3 yb0 yb1 yb2 yb3
  have ya0 : w5.cell? ⟨w.heap.size, 0, none⟩ = some (.int .i64 ca) := Ba5.out.cell 0
  have ya1 : w5.cell? ⟨w.heap.size, 1, none⟩ = some (.bool na) := Ba5.out.cell 1
  have ya2 : w5.cell? ⟨w.heap.size, 2, none⟩ = some (.string ta) := Ba5.out.cell 2
  have ya3 : w5.cell? ⟨w.heap.size, 3, none⟩ = some (.int .i64 ea) := Ba5.out.cell 3
  have yb0 : w5.cell? ⟨w.heap.size + 1, 0, none⟩ = some (.int .i64 cb) := Bb5.out.cell 0
  have yb1 : w5.cell? ⟨w.heap.size + 1, 1, none⟩ = some (.bool nb) := Bb5.out.cell 1
  have yb2 : w5.cell? ⟨w.heap.size + 1, 2, none⟩ = some (.string tb) := Bb5.out.cell 2
  have yb3 : w5.cell? ⟨w.heap.size + 1, 3, none⟩ = some (.int .i64 eb) := Bb5.out.cell 3
  go_wp2
  go_ret2
  exact ⟨rfl, HB5.out⟩

set_option maxRecDepth 100000 in
set_option maxHeartbeats 2000000 in
theorem Cmp_false (ca : Int) (ta : ByteArray) (ea : Int) (cb : Int) (nb : Bool) (tb : ByteArray) (eb : Int) (w : World) (ra rb : Int) (ha : MayD ca false (bys ta) ea) (hb0 : MayD cb nb (bys tb) eb) (hra : ∀ W, Calls Tryz.prog 37 #[dcV ca false ta ea] W fun e w' => e = .returned (.int .i64 ra) ∧ Below W.heap.size W w') (hrb : ∀ W, Calls Tryz.prog 37 #[dcV cb nb tb eb] W fun e w' => e = .returned (.int .i64 rb) ∧ Below W.heap.size W w') (h : Lib.compareInt ra rb = 0) : Calls Tryz.prog 18 #[dcV ca false ta ea, dcV cb nb tb eb] w fun e w' => e = .returned (.tuple #[.int .i64 (orI (Lib.compareInt ((ta.size : Int) + ea) ((tb.size : Int) + eb)) (Lib.compareBytes (bys ta) (bys tb))), .int .i64 0]) ∧ Below w.heap.size w w' := by
  have MA := hide (fun W => dmay_yes ca false ta ea W ha)
  have MB := hide (fun W => dmay_yes cb nb tb eb W hb0)
  have RA := hide hra
  have RB := hide hrb
  have CI := hide (fun W => Tryz.cmp_Compare_int ra rb W)
  rw [h] at CI
  obtain ⟨o, ho⟩ : ∃ o : Int, o = 0 := ⟨_, rfl⟩
  obtain ⟨a1, a2, a3⟩ := may_bounds ha
  obtain ⟨b1, b2, b3⟩ := may_bounds hb0
  have CA := hide (fun W => cmpA_any ca false ta ea cb nb tb eb W a1 a2 a3 b1 b2 b3)
  obtain ⟨v, hv⟩ : ∃ v, v = orI (Lib.compareInt ((ta.size : Int) + ea) ((tb.size : Int) + eb)) (Lib.compareBytes (bys ta) (bys tb)) := ⟨_, rfl⟩
  rw [← hv] at CA ⊢
  clear ha hb0 hra hrb h hv ho a1 a2 a3 b1 b2 b3
  have Ba0 := hide ((Blk.newAt w (w.heap.size) (rfl) #[.int .i64 ca, .bool false, .string ta, .int .i64 ea] 23).alloc (.cells #[.int .i64 cb, .bool nb, .string tb, .int .i64 eb] 23))
  have Bb0 := hide (Blk.newAt (w.alloc (.cells #[.int .i64 ca, .bool false, .string ta, .int .i64 ea] 23)) (w.heap.size + 1) (by simp) #[.int .i64 cb, .bool nb, .string tb, .int .i64 eb] 23)
  have HB0 : Hid (Below w.heap.size w ((w.alloc (.cells #[.int .i64 ca, .bool false, .string ta, .int .i64 ea] 23)).alloc (.cells #[.int .i64 cb, .bool nb, .string tb, .int .i64 eb] 23))) := (((Below.refl _ _).alloc (Nat.le_refl _) _).alloc (by simp <;> omega) _)
  go_enter Tryz.func18, Tryz.ntmps18
  go_wp2_with fail
  refine (MA.out _).mono ?_
  rintro e w1 ⟨rfl, hb⟩
  have Ba1 := hide (Ba0.out.below hb Ba0.out.lt)
  have Bb1 := hide (Bb0.out.below hb Bb0.out.lt)
  have HB1 := hide (HB0.out.trans (hb.mono HB0.out.size))
  clear hb Ba0 Bb0 HB0 
  have ya0 : w1.cell? ⟨w.heap.size, 0, none⟩ = some (.int .i64 ca) := Ba1.out.cell 0
  have ya1 : w1.cell? ⟨w.heap.size, 1, none⟩ = some (.bool false) := Ba1.out.cell 1
  have ya2 : w1.cell? ⟨w.heap.size, 2, none⟩ = some (.string ta) := Ba1.out.cell 2
  have ya3 : w1.cell? ⟨w.heap.size, 3, none⟩ = some (.int .i64 ea) := Ba1.out.cell 3
  have yb0 : w1.cell? ⟨w.heap.size + 1, 0, none⟩ = some (.int .i64 cb) := Bb1.out.cell 0
  have yb1 : w1.cell? ⟨w.heap.size + 1, 1, none⟩ = some (.bool nb) := Bb1.out.cell 1
  have yb2 : w1.cell? ⟨w.heap.size + 1, 2, none⟩ = some (.string tb) := Bb1.out.cell 2
  have yb3 : w1.cell? ⟨w.heap.size + 1, 3, none⟩ = some (.int .i64 eb) := Bb1.out.cell 3
  go_wp2_with fail
  refine (MB.out _).mono ?_
  rintro e w2 ⟨rfl, hb⟩
  have Ba2 := hide (Ba1.out.below hb Ba1.out.lt)
  have Bb2 := hide (Bb1.out.below hb Bb1.out.lt)
  have HB2 := hide (HB1.out.trans (hb.mono HB1.out.size))
  clear hb Ba1 Bb1 HB1 ya0 ya1 ya2 ya3 yb0 yb1 yb2 yb3
  have ya0 : w2.cell? ⟨w.heap.size, 0, none⟩ = some (.int .i64 ca) := Ba2.out.cell 0
  have ya1 : w2.cell? ⟨w.heap.size, 1, none⟩ = some (.bool false) := Ba2.out.cell 1
  have ya2 : w2.cell? ⟨w.heap.size, 2, none⟩ = some (.string ta) := Ba2.out.cell 2
  have ya3 : w2.cell? ⟨w.heap.size, 3, none⟩ = some (.int .i64 ea) := Ba2.out.cell 3
  have yb0 : w2.cell? ⟨w.heap.size + 1, 0, none⟩ = some (.int .i64 cb) := Bb2.out.cell 0
  have yb1 : w2.cell? ⟨w.heap.size + 1, 1, none⟩ = some (.bool nb) := Bb2.out.cell 1
  have yb2 : w2.cell? ⟨w.heap.size + 1, 2, none⟩ = some (.string tb) := Bb2.out.cell 2
  have yb3 : w2.cell? ⟨w.heap.size + 1, 3, none⟩ = some (.int .i64 eb) := Bb2.out.cell 3
  have b0 : Hid (Below w2.heap.size w2 w2.drew) := bdrewD w2
  have C0 : Hid (∀ X, Hid (Below w2.heap.size w2 X) → Calls Tryz.prog 37 #[dcV ca false ta ea] X fun e w' => e = .returned (.int .i64 ra) ∧ Hid (Below w2.heap.size w2 w') ∧ w'.cell? ⟨w.heap.size, 0, none⟩ = some (.int .i64 ca) ∧ w'.cell? ⟨w.heap.size, 1, none⟩ = some (.bool false) ∧ w'.cell? ⟨w.heap.size, 2, none⟩ = some (.string ta) ∧ w'.cell? ⟨w.heap.size, 3, none⟩ = some (.int .i64 ea) ∧ w'.cell? ⟨w.heap.size + 1, 0, none⟩ = some (.int .i64 cb) ∧ w'.cell? ⟨w.heap.size + 1, 1, none⟩ = some (.bool nb) ∧ w'.cell? ⟨w.heap.size + 1, 2, none⟩ = some (.string tb) ∧ w'.cell? ⟨w.heap.size + 1, 3, none⟩ = some (.int .i64 eb)) := by
    intro X bX
    refine (RA.out X).mono ?_
    rintro e w' ⟨rfl, hb⟩
    have bb := bX.out.trans (hb.mono bX.out.size)
    have Baq := Ba2.out.below bb Ba2.out.lt
    have Bbq := Bb2.out.below bb Bb2.out.lt
    exact ⟨rfl, bb, Baq.cell 0, Baq.cell 1, Baq.cell 2, Baq.cell 3, Bbq.cell 0, Bbq.cell 1, Bbq.cell 2, Bbq.cell 3⟩
  have C1 : Hid (∀ X, Hid (Below w2.heap.size w2 X) → Calls Tryz.prog 37 #[dcV cb nb tb eb] X fun e w' => e = .returned (.int .i64 rb) ∧ Hid (Below w2.heap.size w2 w') ∧ w'.cell? ⟨w.heap.size, 0, none⟩ = some (.int .i64 ca) ∧ w'.cell? ⟨w.heap.size, 1, none⟩ = some (.bool false) ∧ w'.cell? ⟨w.heap.size, 2, none⟩ = some (.string ta) ∧ w'.cell? ⟨w.heap.size, 3, none⟩ = some (.int .i64 ea) ∧ w'.cell? ⟨w.heap.size + 1, 0, none⟩ = some (.int .i64 cb) ∧ w'.cell? ⟨w.heap.size + 1, 1, none⟩ = some (.bool nb) ∧ w'.cell? ⟨w.heap.size + 1, 2, none⟩ = some (.string tb) ∧ w'.cell? ⟨w.heap.size + 1, 3, none⟩ = some (.int .i64 eb)) := by
    intro X bX
    refine (RB.out X).mono ?_
    rintro e w' ⟨rfl, hb⟩
    have bb := bX.out.trans (hb.mono bX.out.size)
    have Baq := Ba2.out.below bb Ba2.out.lt
    have Bbq := Bb2.out.below bb Bb2.out.lt
    exact ⟨rfl, bb, Baq.cell 0, Baq.cell 1, Baq.cell 2, Baq.cell 3, Bbq.cell 0, Bbq.cell 1, Bbq.cell 2, Bbq.cell 3⟩
  have C2 : Hid (∀ X, Hid (Below w2.heap.size w2 X) → Calls Tryz.prog 36 #[.int .i64 ra, .int .i64 rb] X fun e w' => e = .returned (.int .i64 0) ∧ Hid (Below w2.heap.size w2 w') ∧ w'.cell? ⟨w.heap.size, 0, none⟩ = some (.int .i64 ca) ∧ w'.cell? ⟨w.heap.size, 1, none⟩ = some (.bool false) ∧ w'.cell? ⟨w.heap.size, 2, none⟩ = some (.string ta) ∧ w'.cell? ⟨w.heap.size, 3, none⟩ = some (.int .i64 ea) ∧ w'.cell? ⟨w.heap.size + 1, 0, none⟩ = some (.int .i64 cb) ∧ w'.cell? ⟨w.heap.size + 1, 1, none⟩ = some (.bool nb) ∧ w'.cell? ⟨w.heap.size + 1, 2, none⟩ = some (.string tb) ∧ w'.cell? ⟨w.heap.size + 1, 3, none⟩ = some (.int .i64 eb)) := by
    intro X bX
    refine (Calls.mono (CI.out X) (fun e w' h => (⟨h.1, h.2 ▸ Below.refl _ _⟩ : _ ∧ Below X.heap.size X w'))).mono ?_
    rintro e w' ⟨rfl, hb⟩
    have bb := bX.out.trans (hb.mono bX.out.size)
    have Baq := Ba2.out.below bb Ba2.out.lt
    have Bbq := Bb2.out.below bb Bb2.out.lt
    exact ⟨rfl, bb, Baq.cell 0, Baq.cell 1, Baq.cell 2, Baq.cell 3, Bbq.cell 0, Bbq.cell 1, Bbq.cell 2, Bbq.cell 3⟩
  go_wp2_with fail
  have mk0 : True := trivial
  go_region_held3 (fun w' => w'.cell? ⟨w.heap.size, 0, none⟩ = some (.int .i64 ca) ∧ w'.cell? ⟨w.heap.size, 1, none⟩ = some (.bool false) ∧ w'.cell? ⟨w.heap.size, 2, none⟩ = some (.string ta) ∧ w'.cell? ⟨w.heap.size, 3, none⟩ = some (.int .i64 ea) ∧ w'.cell? ⟨w.heap.size + 1, 0, none⟩ = some (.int .i64 cb) ∧ w'.cell? ⟨w.heap.size + 1, 1, none⟩ = some (.bool nb) ∧ w'.cell? ⟨w.heap.size + 1, 2, none⟩ = some (.string tb) ∧ w'.cell? ⟨w.heap.size + 1, 3, none⟩ = some (.int .i64 eb)) (go_keep) (first
    | (clear mk0; go_at_call 37; refine (C0.out _ b0).mono ?_; rintro e w3 ⟨rfl, b1, q0_0, q0_1, q0_2, q0_3, q0_4, q0_5, q0_6, q0_7⟩; have mk1 : True := trivial)
    | (clear mk1; go_at_call 37; refine (C1.out _ b1).mono ?_; rintro e w4 ⟨rfl, b2, q1_0, q1_1, q1_2, q1_3, q1_4, q1_5, q1_6, q1_7⟩; have mk2 : True := trivial)
    | (clear mk2; go_at_call 36; refine (C2.out _ b2).mono ?_; rintro e w5 ⟨rfl, b3, q2_0, q2_1, q2_2, q2_3, q2_4, q2_5, q2_6, q2_7⟩; have mk3 : True := trivial))
  have Ba5 := hide (Ba2.out.below b3.out Ba2.out.lt)
  have Bb5 := hide (Bb2.out.below b3.out Bb2.out.lt)
  have HB5 := hide (HB2.out.trans (b3.out.mono HB2.out.size))
  clear mk3 b0 b1 b2 b3 C0 C1 C2 q0_0 q0_1 q0_2 q0_3 q0_4 q0_5 q0_6 q0_7 q1_0 q1_1 q1_2 q1_3 q1_4 q1_5 q1_6 q1_7 q2_0 q2_1 q2_2 q2_3 q2_4 q2_5 q2_6 q2_7 Ba2 Bb2 HB2 ya0 ya1 ya2 ya3 yb0 yb1 yb2 yb3
  have ya0 : w5.cell? ⟨w.heap.size, 0, none⟩ = some (.int .i64 ca) := Ba5.out.cell 0
  have ya1 : w5.cell? ⟨w.heap.size, 1, none⟩ = some (.bool false) := Ba5.out.cell 1
  have ya2 : w5.cell? ⟨w.heap.size, 2, none⟩ = some (.string ta) := Ba5.out.cell 2
  have ya3 : w5.cell? ⟨w.heap.size, 3, none⟩ = some (.int .i64 ea) := Ba5.out.cell 3
  have yb0 : w5.cell? ⟨w.heap.size + 1, 0, none⟩ = some (.int .i64 cb) := Bb5.out.cell 0
  have yb1 : w5.cell? ⟨w.heap.size + 1, 1, none⟩ = some (.bool nb) := Bb5.out.cell 1
  have yb2 : w5.cell? ⟨w.heap.size + 1, 2, none⟩ = some (.string tb) := Bb5.out.cell 2
  have yb3 : w5.cell? ⟨w.heap.size + 1, 3, none⟩ = some (.int .i64 eb) := Bb5.out.cell 3
  go_wp2_with fail
  refine (CA.out _).mono ?_
  rintro e w6 ⟨rfl, hb⟩
  have Ba6 := hide (Ba5.out.below hb Ba5.out.lt)
  have Bb6 := hide (Bb5.out.below hb Bb5.out.lt)
  have HB6 := hide (HB5.out.trans (hb.mono HB5.out.size))
  clear hb Ba5 Bb5 HB5 ya0 ya1 ya2 ya3 yb0 yb1 yb2 yb3
  have ya0 : w6.cell? ⟨w.heap.size, 0, none⟩ = some (.int .i64 ca) := Ba6.out.cell 0
  have ya1 : w6.cell? ⟨w.heap.size, 1, none⟩ = some (.bool false) := Ba6.out.cell 1
  have ya2 : w6.cell? ⟨w.heap.size, 2, none⟩ = some (.string ta) := Ba6.out.cell 2
  have ya3 : w6.cell? ⟨w.heap.size, 3, none⟩ = some (.int .i64 ea) := Ba6.out.cell 3
  have yb0 : w6.cell? ⟨w.heap.size + 1, 0, none⟩ = some (.int .i64 cb) := Bb6.out.cell 0
  have yb1 : w6.cell? ⟨w.heap.size + 1, 1, none⟩ = some (.bool nb) := Bb6.out.cell 1
  have yb2 : w6.cell? ⟨w.heap.size + 1, 2, none⟩ = some (.string tb) := Bb6.out.cell 2
  have yb3 : w6.cell? ⟨w.heap.size + 1, 3, none⟩ = some (.int .i64 eb) := Bb6.out.cell 3
  go_wp2
  go_ret2
  exact ⟨rfl, HB6.out⟩

set_option maxRecDepth 100000 in
set_option maxHeartbeats 2000000 in
theorem Cmp_true (ca : Int) (ta : ByteArray) (ea : Int) (cb : Int) (nb : Bool) (tb : ByteArray) (eb : Int) (w : World) (ra rb : Int) (ha : MayD ca true (bys ta) ea) (hb0 : MayD cb nb (bys tb) eb) (hra : ∀ W, Calls Tryz.prog 37 #[dcV ca true ta ea] W fun e w' => e = .returned (.int .i64 ra) ∧ Below W.heap.size W w') (hrb : ∀ W, Calls Tryz.prog 37 #[dcV cb nb tb eb] W fun e w' => e = .returned (.int .i64 rb) ∧ Below W.heap.size W w') (h : Lib.compareInt ra rb = 0) : Calls Tryz.prog 18 #[dcV ca true ta ea, dcV cb nb tb eb] w fun e w' => e = .returned (.tuple #[.int .i64 (orI (Lib.compareInt ((tb.size : Int) + eb) ((ta.size : Int) + ea)) (Lib.compareBytes (bys tb) (bys ta))), .int .i64 0]) ∧ Below w.heap.size w w' := by
  have MA := hide (fun W => dmay_yes ca true ta ea W ha)
  have MB := hide (fun W => dmay_yes cb nb tb eb W hb0)
  have RA := hide hra
  have RB := hide hrb
  have CI := hide (fun W => Tryz.cmp_Compare_int ra rb W)
  rw [h] at CI
  obtain ⟨o, ho⟩ : ∃ o : Int, o = 0 := ⟨_, rfl⟩
  obtain ⟨a1, a2, a3⟩ := may_bounds ha
  obtain ⟨b1, b2, b3⟩ := may_bounds hb0
  have CA := hide (fun W => cmpA_any cb nb tb eb ca true ta ea W b1 b2 b3 a1 a2 a3)
  obtain ⟨v, hv⟩ : ∃ v, v = orI (Lib.compareInt ((tb.size : Int) + eb) ((ta.size : Int) + ea)) (Lib.compareBytes (bys tb) (bys ta)) := ⟨_, rfl⟩
  rw [← hv] at CA ⊢
  clear ha hb0 hra hrb h hv ho a1 a2 a3 b1 b2 b3
  have Ba0 := hide ((Blk.newAt w (w.heap.size) (rfl) #[.int .i64 ca, .bool true, .string ta, .int .i64 ea] 23).alloc (.cells #[.int .i64 cb, .bool nb, .string tb, .int .i64 eb] 23))
  have Bb0 := hide (Blk.newAt (w.alloc (.cells #[.int .i64 ca, .bool true, .string ta, .int .i64 ea] 23)) (w.heap.size + 1) (by simp) #[.int .i64 cb, .bool nb, .string tb, .int .i64 eb] 23)
  have HB0 : Hid (Below w.heap.size w ((w.alloc (.cells #[.int .i64 ca, .bool true, .string ta, .int .i64 ea] 23)).alloc (.cells #[.int .i64 cb, .bool nb, .string tb, .int .i64 eb] 23))) := (((Below.refl _ _).alloc (Nat.le_refl _) _).alloc (by simp <;> omega) _)
  go_enter Tryz.func18, Tryz.ntmps18
  go_wp2_with fail
  refine (MA.out _).mono ?_
  rintro e w1 ⟨rfl, hb⟩
  have Ba1 := hide (Ba0.out.below hb Ba0.out.lt)
  have Bb1 := hide (Bb0.out.below hb Bb0.out.lt)
  have HB1 := hide (HB0.out.trans (hb.mono HB0.out.size))
  clear hb Ba0 Bb0 HB0 
  have ya0 : w1.cell? ⟨w.heap.size, 0, none⟩ = some (.int .i64 ca) := Ba1.out.cell 0
  have ya1 : w1.cell? ⟨w.heap.size, 1, none⟩ = some (.bool true) := Ba1.out.cell 1
  have ya2 : w1.cell? ⟨w.heap.size, 2, none⟩ = some (.string ta) := Ba1.out.cell 2
  have ya3 : w1.cell? ⟨w.heap.size, 3, none⟩ = some (.int .i64 ea) := Ba1.out.cell 3
  have yb0 : w1.cell? ⟨w.heap.size + 1, 0, none⟩ = some (.int .i64 cb) := Bb1.out.cell 0
  have yb1 : w1.cell? ⟨w.heap.size + 1, 1, none⟩ = some (.bool nb) := Bb1.out.cell 1
  have yb2 : w1.cell? ⟨w.heap.size + 1, 2, none⟩ = some (.string tb) := Bb1.out.cell 2
  have yb3 : w1.cell? ⟨w.heap.size + 1, 3, none⟩ = some (.int .i64 eb) := Bb1.out.cell 3
  go_wp2_with fail
  refine (MB.out _).mono ?_
  rintro e w2 ⟨rfl, hb⟩
  have Ba2 := hide (Ba1.out.below hb Ba1.out.lt)
  have Bb2 := hide (Bb1.out.below hb Bb1.out.lt)
  have HB2 := hide (HB1.out.trans (hb.mono HB1.out.size))
  clear hb Ba1 Bb1 HB1 ya0 ya1 ya2 ya3 yb0 yb1 yb2 yb3
  have ya0 : w2.cell? ⟨w.heap.size, 0, none⟩ = some (.int .i64 ca) := Ba2.out.cell 0
  have ya1 : w2.cell? ⟨w.heap.size, 1, none⟩ = some (.bool true) := Ba2.out.cell 1
  have ya2 : w2.cell? ⟨w.heap.size, 2, none⟩ = some (.string ta) := Ba2.out.cell 2
  have ya3 : w2.cell? ⟨w.heap.size, 3, none⟩ = some (.int .i64 ea) := Ba2.out.cell 3
  have yb0 : w2.cell? ⟨w.heap.size + 1, 0, none⟩ = some (.int .i64 cb) := Bb2.out.cell 0
  have yb1 : w2.cell? ⟨w.heap.size + 1, 1, none⟩ = some (.bool nb) := Bb2.out.cell 1
  have yb2 : w2.cell? ⟨w.heap.size + 1, 2, none⟩ = some (.string tb) := Bb2.out.cell 2
  have yb3 : w2.cell? ⟨w.heap.size + 1, 3, none⟩ = some (.int .i64 eb) := Bb2.out.cell 3
  have b0 : Hid (Below w2.heap.size w2 w2.drew) := bdrewD w2
  have C0 : Hid (∀ X, Hid (Below w2.heap.size w2 X) → Calls Tryz.prog 37 #[dcV ca true ta ea] X fun e w' => e = .returned (.int .i64 ra) ∧ Hid (Below w2.heap.size w2 w') ∧ w'.cell? ⟨w.heap.size, 0, none⟩ = some (.int .i64 ca) ∧ w'.cell? ⟨w.heap.size, 1, none⟩ = some (.bool true) ∧ w'.cell? ⟨w.heap.size, 2, none⟩ = some (.string ta) ∧ w'.cell? ⟨w.heap.size, 3, none⟩ = some (.int .i64 ea) ∧ w'.cell? ⟨w.heap.size + 1, 0, none⟩ = some (.int .i64 cb) ∧ w'.cell? ⟨w.heap.size + 1, 1, none⟩ = some (.bool nb) ∧ w'.cell? ⟨w.heap.size + 1, 2, none⟩ = some (.string tb) ∧ w'.cell? ⟨w.heap.size + 1, 3, none⟩ = some (.int .i64 eb)) := by
    intro X bX
    refine (RA.out X).mono ?_
    rintro e w' ⟨rfl, hb⟩
    have bb := bX.out.trans (hb.mono bX.out.size)
    have Baq := Ba2.out.below bb Ba2.out.lt
    have Bbq := Bb2.out.below bb Bb2.out.lt
    exact ⟨rfl, bb, Baq.cell 0, Baq.cell 1, Baq.cell 2, Baq.cell 3, Bbq.cell 0, Bbq.cell 1, Bbq.cell 2, Bbq.cell 3⟩
  have C1 : Hid (∀ X, Hid (Below w2.heap.size w2 X) → Calls Tryz.prog 37 #[dcV cb nb tb eb] X fun e w' => e = .returned (.int .i64 rb) ∧ Hid (Below w2.heap.size w2 w') ∧ w'.cell? ⟨w.heap.size, 0, none⟩ = some (.int .i64 ca) ∧ w'.cell? ⟨w.heap.size, 1, none⟩ = some (.bool true) ∧ w'.cell? ⟨w.heap.size, 2, none⟩ = some (.string ta) ∧ w'.cell? ⟨w.heap.size, 3, none⟩ = some (.int .i64 ea) ∧ w'.cell? ⟨w.heap.size + 1, 0, none⟩ = some (.int .i64 cb) ∧ w'.cell? ⟨w.heap.size + 1, 1, none⟩ = some (.bool nb) ∧ w'.cell? ⟨w.heap.size + 1, 2, none⟩ = some (.string tb) ∧ w'.cell? ⟨w.heap.size + 1, 3, none⟩ = some (.int .i64 eb)) := by
    intro X bX
    refine (RB.out X).mono ?_
    rintro e w' ⟨rfl, hb⟩
    have bb := bX.out.trans (hb.mono bX.out.size)
    have Baq := Ba2.out.below bb Ba2.out.lt
    have Bbq := Bb2.out.below bb Bb2.out.lt
    exact ⟨rfl, bb, Baq.cell 0, Baq.cell 1, Baq.cell 2, Baq.cell 3, Bbq.cell 0, Bbq.cell 1, Bbq.cell 2, Bbq.cell 3⟩
  have C2 : Hid (∀ X, Hid (Below w2.heap.size w2 X) → Calls Tryz.prog 36 #[.int .i64 ra, .int .i64 rb] X fun e w' => e = .returned (.int .i64 0) ∧ Hid (Below w2.heap.size w2 w') ∧ w'.cell? ⟨w.heap.size, 0, none⟩ = some (.int .i64 ca) ∧ w'.cell? ⟨w.heap.size, 1, none⟩ = some (.bool true) ∧ w'.cell? ⟨w.heap.size, 2, none⟩ = some (.string ta) ∧ w'.cell? ⟨w.heap.size, 3, none⟩ = some (.int .i64 ea) ∧ w'.cell? ⟨w.heap.size + 1, 0, none⟩ = some (.int .i64 cb) ∧ w'.cell? ⟨w.heap.size + 1, 1, none⟩ = some (.bool nb) ∧ w'.cell? ⟨w.heap.size + 1, 2, none⟩ = some (.string tb) ∧ w'.cell? ⟨w.heap.size + 1, 3, none⟩ = some (.int .i64 eb)) := by
    intro X bX
    refine (Calls.mono (CI.out X) (fun e w' h => (⟨h.1, h.2 ▸ Below.refl _ _⟩ : _ ∧ Below X.heap.size X w'))).mono ?_
    rintro e w' ⟨rfl, hb⟩
    have bb := bX.out.trans (hb.mono bX.out.size)
    have Baq := Ba2.out.below bb Ba2.out.lt
    have Bbq := Bb2.out.below bb Bb2.out.lt
    exact ⟨rfl, bb, Baq.cell 0, Baq.cell 1, Baq.cell 2, Baq.cell 3, Bbq.cell 0, Bbq.cell 1, Bbq.cell 2, Bbq.cell 3⟩
  go_wp2_with fail
  have mk0 : True := trivial
  go_region_held3 (fun w' => w'.cell? ⟨w.heap.size, 0, none⟩ = some (.int .i64 ca) ∧ w'.cell? ⟨w.heap.size, 1, none⟩ = some (.bool true) ∧ w'.cell? ⟨w.heap.size, 2, none⟩ = some (.string ta) ∧ w'.cell? ⟨w.heap.size, 3, none⟩ = some (.int .i64 ea) ∧ w'.cell? ⟨w.heap.size + 1, 0, none⟩ = some (.int .i64 cb) ∧ w'.cell? ⟨w.heap.size + 1, 1, none⟩ = some (.bool nb) ∧ w'.cell? ⟨w.heap.size + 1, 2, none⟩ = some (.string tb) ∧ w'.cell? ⟨w.heap.size + 1, 3, none⟩ = some (.int .i64 eb)) (go_keep) (first
    | (clear mk0; go_at_call 37; refine (C0.out _ b0).mono ?_; rintro e w3 ⟨rfl, b1, q0_0, q0_1, q0_2, q0_3, q0_4, q0_5, q0_6, q0_7⟩; have mk1 : True := trivial)
    | (clear mk1; go_at_call 37; refine (C1.out _ b1).mono ?_; rintro e w4 ⟨rfl, b2, q1_0, q1_1, q1_2, q1_3, q1_4, q1_5, q1_6, q1_7⟩; have mk2 : True := trivial)
    | (clear mk2; go_at_call 36; refine (C2.out _ b2).mono ?_; rintro e w5 ⟨rfl, b3, q2_0, q2_1, q2_2, q2_3, q2_4, q2_5, q2_6, q2_7⟩; have mk3 : True := trivial))
  have Ba5 := hide (Ba2.out.below b3.out Ba2.out.lt)
  have Bb5 := hide (Bb2.out.below b3.out Bb2.out.lt)
  have HB5 := hide (HB2.out.trans (b3.out.mono HB2.out.size))
  clear mk3 b0 b1 b2 b3 C0 C1 C2 q0_0 q0_1 q0_2 q0_3 q0_4 q0_5 q0_6 q0_7 q1_0 q1_1 q1_2 q1_3 q1_4 q1_5 q1_6 q1_7 q2_0 q2_1 q2_2 q2_3 q2_4 q2_5 q2_6 q2_7 Ba2 Bb2 HB2 ya0 ya1 ya2 ya3 yb0 yb1 yb2 yb3
  have ya0 : w5.cell? ⟨w.heap.size, 0, none⟩ = some (.int .i64 ca) := Ba5.out.cell 0
  have ya1 : w5.cell? ⟨w.heap.size, 1, none⟩ = some (.bool true) := Ba5.out.cell 1
  have ya2 : w5.cell? ⟨w.heap.size, 2, none⟩ = some (.string ta) := Ba5.out.cell 2
  have ya3 : w5.cell? ⟨w.heap.size, 3, none⟩ = some (.int .i64 ea) := Ba5.out.cell 3
  have yb0 : w5.cell? ⟨w.heap.size + 1, 0, none⟩ = some (.int .i64 cb) := Bb5.out.cell 0
  have yb1 : w5.cell? ⟨w.heap.size + 1, 1, none⟩ = some (.bool nb) := Bb5.out.cell 1
  have yb2 : w5.cell? ⟨w.heap.size + 1, 2, none⟩ = some (.string tb) := Bb5.out.cell 2
  have yb3 : w5.cell? ⟨w.heap.size + 1, 3, none⟩ = some (.int .i64 eb) := Bb5.out.cell 3
  have fa0 := Ba5.out.free 0
  have fa1 := Ba5.out.free 1
  have fa2 := Ba5.out.free 2
  have fa3 := Ba5.out.free 3
  have fb0 := Bb5.out.free 0
  have fb1 := Bb5.out.free 1
  have fb2 := Bb5.out.free 2
  have fb3 := Bb5.out.free 3
  go_wp2_with fail
  refine (CA.out _).mono ?_
  rintro e w6 ⟨rfl, hb⟩
  have HB6 : Hid (Below w.heap.size w w6) := (below_put4 (below_put4 HB5.out (Nat.le_refl _) _ _ _ _) (Nat.le_succ _) _ _ _ _).trans (hb.mono (below_put4 (below_put4 HB5.out (Nat.le_refl _) _ _ _ _) (Nat.le_succ _) _ _ _ _).size)
  clear hb HB5
  go_wp2
  go_ret2
  exact ⟨rfl, HB6.out⟩

theorem Cmp_d (a b : DecT) (w : World) (ha : May a) (hb : May b) : Calls Tryz.prog 18 #[decVal a, decVal b] w fun e w' => e = .returned (.tuple #[.int .i64 (cmpI (wD a) (wD b)), .int .i64 0]) ∧ Below w.heap.size w w' := by
  have hra := fun W => rank_d a W ha
  have hrb := fun W => rank_d b W hb
  have ha' : MayD (a.cls : Int) a.neg (bys ⟨a.dig.toArray⟩) a.exp := by rw [bys_mk]; exact ha
  have hb' : MayD (b.cls : Int) b.neg (bys ⟨b.dig.toArray⟩) b.exp := by rw [bys_mk]; exact hb
  by_cases h : Lib.compareInt (rankI a) (rankI b) = 0
  · have e := same_cmp ha hb (rank_same h)
    have sa : (⟨a.dig.toArray⟩ : ByteArray).size = a.dig.length := size_mk0 _
    have sb : (⟨b.dig.toArray⟩ : ByteArray).size = b.dig.length := size_mk0 _
    rw [← e]
    unfold amtI
    obtain ⟨c, n, l, x⟩ := a
    cases n
    · have g := Cmp_false (c : Int) ⟨l.toArray⟩ x (b.cls : Int) b.neg ⟨b.dig.toArray⟩ b.exp w _ _ ha' hb' hra hrb h
      rw [sa, sb, bys_mk, bys_mk] at g
      exact g
    · have g := Cmp_true (c : Int) ⟨l.toArray⟩ x (b.cls : Int) b.neg ⟨b.dig.toArray⟩ b.exp w _ _ ha' hb' hra hrb h
      rw [sa, sb, bys_mk, bys_mk] at g
      exact g
  · rw [← rank_cmp ha hb h]
    exact Cmp_rank (a.cls : Int) a.neg ⟨a.dig.toArray⟩ a.exp (b.cls : Int) b.neg ⟨b.dig.toArray⟩ b.exp w _ _ ha' hb' hra hrb h

end Go.Proofs.YtifpacgacbpalaaGreatDoor
