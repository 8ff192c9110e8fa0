/-
  What dec's sum does.
-/
import Derived.Test.YtifpacgacbpalaaGreatDoorZQ14
import Derived.Test.YtifpacgacbpalaaGreatDoorZQ22
import Derived.Deep.CutRange
namespace Go.Proofs.YtifpacgacbpalaaGreatDoor
open Go.RowKit

/-- Where the ways through such a region meet: a variable's pointer and the world. -/
structure Cut1 (W : World) (z : Int) (v : Value) (W' : World) : Prop where
  ex : ∃ (H : Nat) (s : Bool) (o : Option Addr) (l c : Nat), v = .pointer (some ⟨H, 0, none⟩) ∧ Blk W' H #[.bool s, .slice o l c] 87 ∧ W.heap.size ≤ H ∧ Zt W' (.agg #[.bool s, .slice o l c]) z ∧ Below W.heap.size W W'

theorem Blk.put2 {w : World} {b : Nat} {t : TypeId} {x0 x1 : Value} (h : Blk w b #[x0, x1] t) (y0 y1 : Value) : Blk ((w.setCell ⟨b, 0, none⟩ y0).setCell ⟨b, 1, none⟩ y1) b #[y0, y1] t := Pair.put h y0 y1

theorem cut_old {W w3 : World} {z : Int} {H base l c : Nat} {s : Bool} {o : Option Addr} {x y : Value} (hb : Below W.heap.size W w3) (q : Blk w3 H #[x, y] 87) (hH : W.heap.size ≤ H) (hz : Zt w3 (.agg #[.bool s, .slice o l c]) z) (hf : Far base (.slice o l c)) (hl : H < base) :
    Cut1 W z (.pointer (some ⟨H, 0, none⟩)) ((w3.setCell ⟨H, 0, none⟩ (.bool s)).setCell ⟨H, 1, none⟩ (.slice o l c)) :=
  ⟨H, s, o, l, c, rfl, q.put2 _ _, hH, (hz.put hf hl _).put hf hl _, (hb.setCell hH _).setCell hH _⟩

theorem cut_new {W w3 : World} {z : Int} {l c : Nat} {s : Bool} {o : Option Addr} (hb : Below W.heap.size W w3) (hz : Zt w3 (.agg #[.bool s, .slice o l c]) z) :
    Cut1 W z (.pointer (some ⟨w3.heap.size, 0, none⟩)) (w3.alloc (.cells #[.bool s, .slice o l c] 87)) :=
  ⟨w3.heap.size, s, o, l, c, rfl, Blk.new _ _ _, hb.size, hz.below ((Below.refl _ _).alloc (Nat.le_refl _) _), hb.alloc hb.size _⟩

set_option maxRecDepth 100000 in
set_option maxHeartbeats 4000000 in
theorem sum_gen (na : Bool) (ta : ByteArray) (ea : Int) (nb : Bool) (tb : ByteArray) (eb : Int) (za zb : Int) (w : World) (ca : ∀ W, Calls Tryz.prog 68 #[dcV 0 na ta ea, .int .i64 (min ea eb)] W (ZtPost W za)) (cb : ∀ W, Calls Tryz.prog 68 #[dcV 0 nb tb eb, .int .i64 (min ea eb)] W (ZtPost W zb)) (sa : Sm za.natAbs) (sb : Sm zb.natAbs) (htab : Tab w) (hsz : (Lib.decDigits (za + zb).natAbs).length ≤ 100000) (hxb : -10000 ≤ ea ∧ ea ≤ 10000 ∧ -10000 ≤ eb ∧ eb ≤ 10000) : Calls Tryz.prog 42 #[dcV 0 na ta ea, dcV 0 nb tb eb] w fun e w' => e = .returned (decErr (tellF (decide (za + zb < 0) || (na && nb)) (za + zb).natAbs (min ea eb))) ∧ Below w.heap.size w w' := by
  have CCA := hide ca
  have CCB := hide cb
  have SA := hide sa
  have SB := hide sb
  have HT := hide htab
  have HSZ := hide hsz
  have HXB : Hid (-10000 ≤ ea ∧ ea ≤ 10000 ∧ -10000 ≤ eb ∧ eb ≤ 10000) := hxb
  obtain ⟨x, hx⟩ : ∃ x, x = min ea eb := ⟨_, rfl⟩
  have HX := hide hx
  rw [← hx] at CCA CCB ⊢
  clear ca cb sa sb htab hx hsz hxb
  have Ba0 := hide (((Blk.newAt w (w.heap.size) (rfl) #[.int .i64 0, .bool na, .string ta, .int .i64 ea] 23).alloc (.cells #[.int .i64 0, .bool nb, .string tb, .int .i64 eb] 23)).alloc (.cells #[.int .i64 0, .bool false, .string ⟨#[]⟩, .int .i64 0] 23))
  have Bb0 := hide ((Blk.newAt (w.alloc (.cells #[.int .i64 0, .bool na, .string ta, .int .i64 ea] 23)) (w.heap.size + 1) (by simp) #[.int .i64 0, .bool nb, .string tb, .int .i64 eb] 23).alloc (.cells #[.int .i64 0, .bool false, .string ⟨#[]⟩, .int .i64 0] 23))
  have Br0 := hide (Blk.newAt ((w.alloc (.cells #[.int .i64 0, .bool na, .string ta, .int .i64 ea] 23)).alloc (.cells #[.int .i64 0, .bool nb, .string tb, .int .i64 eb] 23)) (w.heap.size + 1 + 1) (by simp) #[.int .i64 0, .bool false, .string ⟨#[]⟩, .int .i64 0] 23)
  have HB0 : Hid (Below w.heap.size w (((w.alloc (.cells #[.int .i64 0, .bool na, .string ta, .int .i64 ea] 23)).alloc (.cells #[.int .i64 0, .bool nb, .string tb, .int .i64 eb] 23)).alloc (.cells #[.int .i64 0, .bool false, .string ⟨#[]⟩, .int .i64 0] 23))) := ((((Below.refl _ _).alloc (Nat.le_refl _) _).alloc (by simp <;> omega) _).alloc (by simp <;> omega) _)
  have HTW := hide (HT.out.below HB0.out)
  obtain ⟨W, hW⟩ : ∃ W, W = (((w.alloc (.cells #[.int .i64 0, .bool na, .string ta, .int .i64 ea] 23)).alloc (.cells #[.int .i64 0, .bool nb, .string tb, .int .i64 eb] 23)).alloc (.cells #[.int .i64 0, .bool false, .string ⟨#[]⟩, .int .i64 0] 23)) := ⟨_, rfl⟩
  rw [← hW] at HB0 Ba0 Bb0 Br0 HTW
  have HW := hide hW
  clear hW
  have ya0 : W.cell? ⟨w.heap.size, 0, none⟩ = some (.int .i64 0) := Ba0.out.cell 0
  have ya1 : W.cell? ⟨w.heap.size, 1, none⟩ = some (.bool na) := Ba0.out.cell 1
  have ya2 : W.cell? ⟨w.heap.size, 2, none⟩ = some (.string ta) := Ba0.out.cell 2
  have ya3 : W.cell? ⟨w.heap.size, 3, none⟩ = some (.int .i64 ea) := Ba0.out.cell 3
  have yb0 : W.cell? ⟨w.heap.size + 1, 0, none⟩ = some (.int .i64 0) := Bb0.out.cell 0
  have yb1 : W.cell? ⟨w.heap.size + 1, 1, none⟩ = some (.bool nb) := Bb0.out.cell 1
  have yb2 : W.cell? ⟨w.heap.size + 1, 2, none⟩ = some (.string tb) := Bb0.out.cell 2
  have yb3 : W.cell? ⟨w.heap.size + 1, 3, none⟩ = some (.int .i64 eb) := Bb0.out.cell 3
  have yr0 : W.cell? ⟨w.heap.size + 1 + 1, 0, none⟩ = some (.int .i64 0) := Br0.out.cell 0
  have yr1 : W.cell? ⟨w.heap.size + 1 + 1, 1, none⟩ = some (.bool false) := Br0.out.cell 1
  have yr2 : W.cell? ⟨w.heap.size + 1 + 1, 2, none⟩ = some (.string ⟨#[]⟩) := Br0.out.cell 2
  have yr3 : W.cell? ⟨w.heap.size + 1 + 1, 3, none⟩ = some (.int .i64 0) := Br0.out.cell 3
  have HL : Hid (w.heap.size < W.heap.size ∧ w.heap.size + 1 < W.heap.size ∧ w.heap.size + 1 + 1 < W.heap.size) := ⟨Ba0.out.lt, Bb0.out.lt, Br0.out.lt⟩
  clear HT
  go_enter Tryz.func42, Tryz.ntmps42
  go_wp2_with fail
  simp only [← HW.out]
  simp only [← HX.out]
  go_cut [7] from 8 to 19 (fun v7 wx => Cut1 W (za + zb) v7 wx)
  case first =>
    have C0 : Hid (∀ X, Hid (Below W.heap.size W X) → Calls Tryz.prog 68 #[dcV 0 na ta ea, .int .i64 x] X fun e w' => (∃ s o l c, e = .returned (.agg #[.bool s, .slice o l c]) ∧ Hid (Zt w' (.agg #[.bool s, .slice o l c]) za ∧ Far X.heap.size (.slice o l c))) ∧ Hid (Below X.heap.size X w') ∧ Hid (Below W.heap.size W w') ∧ w'.cell? ⟨w.heap.size, 0, none⟩ = some (.int .i64 0) ∧ w'.cell? ⟨w.heap.size, 1, none⟩ = some (.bool na) ∧ w'.cell? ⟨w.heap.size, 2, none⟩ = some (.string ta) ∧ w'.cell? ⟨w.heap.size, 3, none⟩ = some (.int .i64 ea) ∧ w'.cell? ⟨w.heap.size + 1, 0, none⟩ = some (.int .i64 0) ∧ w'.cell? ⟨w.heap.size + 1, 1, none⟩ = some (.bool nb) ∧ w'.cell? ⟨w.heap.size + 1, 2, none⟩ = some (.string tb) ∧ w'.cell? ⟨w.heap.size + 1, 3, none⟩ = some (.int .i64 eb)) := by
      intro X bX
      refine (CCA.out X).mono ?_
      rintro e w' ⟨s, o, l, c, rfl, hz, hb, hf⟩
      have bb := bX.out.trans (hb.mono bX.out.size)
      have Baq := Ba0.out.below bb Ba0.out.lt
      have Bbq := Bb0.out.below bb Bb0.out.lt
      exact ⟨⟨s, o, l, c, rfl, hz.out, hf.out⟩, hb, bb, Baq.cell 0, Baq.cell 1, Baq.cell 2, Baq.cell 3, Bbq.cell 0, Bbq.cell 1, Bbq.cell 2, Bbq.cell 3⟩
    have C1 : Hid (∀ X, Hid (Below W.heap.size W X) → Calls Tryz.prog 68 #[dcV 0 nb tb eb, .int .i64 x] X fun e w' => (∃ s o l c, e = .returned (.agg #[.bool s, .slice o l c]) ∧ Hid (Zt w' (.agg #[.bool s, .slice o l c]) zb ∧ Far X.heap.size (.slice o l c))) ∧ Hid (Below X.heap.size X w') ∧ Hid (Below W.heap.size W w') ∧ w'.cell? ⟨w.heap.size, 0, none⟩ = some (.int .i64 0) ∧ w'.cell? ⟨w.heap.size, 1, none⟩ = some (.bool na) ∧ w'.cell? ⟨w.heap.size, 2, none⟩ = some (.string ta) ∧ w'.cell? ⟨w.heap.size, 3, none⟩ = some (.int .i64 ea) ∧ w'.cell? ⟨w.heap.size + 1, 0, none⟩ = some (.int .i64 0) ∧ w'.cell? ⟨w.heap.size + 1, 1, none⟩ = some (.bool nb) ∧ w'.cell? ⟨w.heap.size + 1, 2, none⟩ = some (.string tb) ∧ w'.cell? ⟨w.heap.size + 1, 3, none⟩ = some (.int .i64 eb)) := by
      intro X bX
      refine (CCB.out X).mono ?_
      rintro e w' ⟨s, o, l, c, rfl, hz, hb, hf⟩
      have bb := bX.out.trans (hb.mono bX.out.size)
      have Baq := Ba0.out.below bb Ba0.out.lt
      have Bbq := Bb0.out.below bb Bb0.out.lt
      exact ⟨⟨s, o, l, c, rfl, hz.out, hf.out⟩, hb, bb, Baq.cell 0, Baq.cell 1, Baq.cell 2, Baq.cell 3, Bbq.cell 0, Bbq.cell 1, Bbq.cell 2, Bbq.cell 3⟩
    have C2 : Hid (∀ X (s1 : Bool) (o1 : Option Addr) (l1 c1 : Nat) (s2 : Bool) (o2 : Option Addr) (l2 c2 : Nat), Hid (Below W.heap.size W X) → Zt X (.agg #[.bool s1, .slice o1 l1 c1]) za → Zt X (.agg #[.bool s2, .slice o2 l2 c2]) zb → Calls Tryz.prog 67 #[.agg #[.bool s1, .slice o1 l1 c1], .agg #[.bool s2, .slice o2 l2 c2]] X fun e w' => (∃ s o l c, e = .returned (.agg #[.bool s, .slice o l c]) ∧ Hid (Zt w' (.agg #[.bool s, .slice o l c]) (za + zb) ∧ Far X.heap.size (.slice o l c))) ∧ Hid (Below X.heap.size X w') ∧ Hid (Below W.heap.size W w') ∧ w'.cell? ⟨w.heap.size, 0, none⟩ = some (.int .i64 0) ∧ w'.cell? ⟨w.heap.size, 1, none⟩ = some (.bool na) ∧ w'.cell? ⟨w.heap.size, 2, none⟩ = some (.string ta) ∧ w'.cell? ⟨w.heap.size, 3, none⟩ = some (.int .i64 ea) ∧ w'.cell? ⟨w.heap.size + 1, 0, none⟩ = some (.int .i64 0) ∧ w'.cell? ⟨w.heap.size + 1, 1, none⟩ = some (.bool nb) ∧ w'.cell? ⟨w.heap.size + 1, 2, none⟩ = some (.string tb) ∧ w'.cell? ⟨w.heap.size + 1, 3, none⟩ = some (.int .i64 eb)) := by
      intro X s1 o1 l1 c1 s2 o2 l2 c2 bX Zp Zq
      refine (zt_add _ _ za zb X Zp Zq SA.out SB.out).mono ?_
      rintro e w' ⟨s, o, l, c, rfl, hz, hb, hf⟩
      have bb := bX.out.trans (hb.mono bX.out.size)
      have Baq := Ba0.out.below bb Ba0.out.lt
      have Bbq := Bb0.out.below bb Bb0.out.lt
      exact ⟨⟨s, o, l, c, rfl, hz.out, hf.out⟩, hb, bb, Baq.cell 0, Baq.cell 1, Baq.cell 2, Baq.cell 3, Bbq.cell 0, Bbq.cell 1, Bbq.cell 2, Bbq.cell 3⟩
    have b0 : Hid (Below W.heap.size W W.drew) := bdrewD W
    have naW : ¬ w.heap.size = W.heap.size := (by have := HL.out; omega)
    have maW : ¬ W.heap.size = w.heap.size := (by have := HL.out; omega)
    have nbW : ¬ w.heap.size + 1 = W.heap.size := (by have := HL.out; omega)
    have mbW : ¬ W.heap.size = w.heap.size + 1 := (by have := HL.out; omega)
    clear CCA CCB SA SB HTW HSZ HXB
    have mk0 : True := trivial
    go_region_held3 (fun w' => w'.cell? ⟨w.heap.size, 0, none⟩ = some (.int .i64 0) ∧ w'.cell? ⟨w.heap.size, 1, none⟩ = some (.bool na) ∧ w'.cell? ⟨w.heap.size, 2, none⟩ = some (.string ta) ∧ w'.cell? ⟨w.heap.size, 3, none⟩ = some (.int .i64 ea) ∧ w'.cell? ⟨w.heap.size + 1, 0, none⟩ = some (.int .i64 0) ∧ w'.cell? ⟨w.heap.size + 1, 1, none⟩ = some (.bool nb) ∧ w'.cell? ⟨w.heap.size + 1, 2, none⟩ = some (.string tb) ∧ w'.cell? ⟨w.heap.size + 1, 3, none⟩ = some (.int .i64 eb)) (go_keep) (first
      | (clear mk0; go_at_call 68; refine (C0.out _ (bal b0 (Obj.cells #[Value.bool false, Value.slice none 0 0] 87))).mono ?_; rintro e w1 ⟨⟨s1, o1, l1, c1, rfl, Z1⟩, R1, b1, q1_0, q1_1, q1_2, q1_3, q1_4, q1_5, q1_6, q1_7⟩; have QN := (Blk.newAt W.drew W.heap.size rfl #[.bool false, .slice none 0 0] 87).below R1.out (Blk.newAt W.drew W.heap.size rfl #[.bool false, .slice none 0 0] 87).lt; have h0 : w1.cell? ⟨W.heap.size, 0, none⟩ = some (.bool false) := QN.cell 0; have h1 : w1.cell? ⟨W.heap.size, 1, none⟩ = some (.slice none 0 0) := QN.cell 1; have h2 := QN.free 0; have h3 := QN.free 1; have HH : Hid (W.heap.size < w1.heap.size) := QN.lt; have QH := hide QN; clear QN; have mk1A : True := trivial)
      | (clear mk0; go_at_call 68; refine (C0.out _ b0).mono ?_; rintro e w1 ⟨⟨s1, o1, l1, c1, rfl, Z1⟩, R1, b1, q1_0, q1_1, q1_2, q1_3, q1_4, q1_5, q1_6, q1_7⟩; have naw1 : ¬ w.heap.size = w1.heap.size := (by have := HL.out; have := b1.out.size; omega); have maw1 : ¬ w1.heap.size = w.heap.size := (by have := HL.out; have := b1.out.size; omega); have nbw1 : ¬ w.heap.size + 1 = w1.heap.size := (by have := HL.out; have := b1.out.size; omega); have mbw1 : ¬ w1.heap.size = w.heap.size + 1 := (by have := HL.out; have := b1.out.size; omega); have mk1 : True := trivial)
      | (clear mk1A; go_at_call 68; refine (C1.out _ b1).mono ?_; rintro e w2 ⟨⟨s2, o2, l2, c2, rfl, Z2⟩, R2, b2, q2_0, q2_1, q2_2, q2_3, q2_4, q2_5, q2_6, q2_7⟩; have Y1 := hide (Z1.out.1.below R2.out); clear Z1; clear h0 h1 h2 h3 HH; have QN := QH.out.below R2.out QH.out.lt; have h0 : w2.cell? ⟨W.heap.size, 0, none⟩ = some (.bool false) := QN.cell 0; have h1 : w2.cell? ⟨W.heap.size, 1, none⟩ = some (.slice none 0 0) := QN.cell 1; have h2 := QN.free 0; have h3 := QN.free 1; have HH : Hid (W.heap.size < w2.heap.size) := QN.lt; have QH := hide QN; clear QN; have mk2A : True := trivial)
      | (clear mk1; go_at_call 68; refine (C1.out _ (bal b1 (Obj.cells #[Value.bool false, Value.slice none 0 0] 87))).mono ?_; rintro e w2 ⟨⟨s2, o2, l2, c2, rfl, Z2⟩, R2, b2, q2_0, q2_1, q2_2, q2_3, q2_4, q2_5, q2_6, q2_7⟩; have Y1 := hide ((Z1.out.1.below ((Below.refl _ _).alloc (Nat.le_refl _) (Obj.cells #[Value.bool false, Value.slice none 0 0] 87))).below R2.out); clear Z1; have QN := (Blk.newAt w1 w1.heap.size rfl #[.bool false, .slice none 0 0] 87).below R2.out (Blk.newAt w1 w1.heap.size rfl #[.bool false, .slice none 0 0] 87).lt; have h0 : w2.cell? ⟨w1.heap.size, 0, none⟩ = some (.bool false) := QN.cell 0; have h1 : w2.cell? ⟨w1.heap.size, 1, none⟩ = some (.slice none 0 0) := QN.cell 1; have h2 := QN.free 0; have h3 := QN.free 1; have HH : Hid (w1.heap.size < w2.heap.size) := QN.lt; have QH := hide QN; clear QN; have mk2B : True := trivial)
      | (clear mk1; go_at_call 68; refine (C1.out _ b1).mono ?_; rintro e w2 ⟨⟨s2, o2, l2, c2, rfl, Z2⟩, R2, b2, q2_0, q2_1, q2_2, q2_3, q2_4, q2_5, q2_6, q2_7⟩; have Y1 := hide (Z1.out.1.below R2.out); clear Z1; have naw2 : ¬ w.heap.size = w2.heap.size := (by have := HL.out; have := b2.out.size; omega); have maw2 : ¬ w2.heap.size = w.heap.size := (by have := HL.out; have := b2.out.size; omega); have nbw2 : ¬ w.heap.size + 1 = w2.heap.size := (by have := HL.out; have := b2.out.size; omega); have mbw2 : ¬ w2.heap.size = w.heap.size + 1 := (by have := HL.out; have := b2.out.size; omega); have mk2 : True := trivial)
      | (clear mk2A; go_at_call 67; refine (C2.out _ _ _ _ _ _ _ _ _ b2 Y1 Z2.out.1).mono ?_; rintro e w3 ⟨⟨s3, o3, l3, c3, rfl, Z3⟩, R3, b3, q3_0, q3_1, q3_2, q3_3, q3_4, q3_5, q3_6, q3_7⟩; have LT : Hid (W.heap.size < w2.heap.size) := HH.out; clear h0 h1 h2 h3 HH; have QN := QH.out.below R3.out QH.out.lt; have h0 : w3.cell? ⟨W.heap.size, 0, none⟩ = some (.bool false) := QN.cell 0; have h1 : w3.cell? ⟨W.heap.size, 1, none⟩ = some (.slice none 0 0) := QN.cell 1; have h2 := QN.free 0; have h3 := QN.free 1; have HH : Hid (W.heap.size < w3.heap.size) := QN.lt; have QH := hide QN; clear QN; have mk3A : True := trivial)
      | (clear mk2B; go_at_call 67; refine (C2.out _ _ _ _ _ _ _ _ _ b2 Y1 Z2.out.1).mono ?_; rintro e w3 ⟨⟨s3, o3, l3, c3, rfl, Z3⟩, R3, b3, q3_0, q3_1, q3_2, q3_3, q3_4, q3_5, q3_6, q3_7⟩; have LT : Hid (w1.heap.size < w2.heap.size) := HH.out; clear h0 h1 h2 h3 HH; have QN := QH.out.below R3.out QH.out.lt; have h0 : w3.cell? ⟨w1.heap.size, 0, none⟩ = some (.bool false) := QN.cell 0; have h1 : w3.cell? ⟨w1.heap.size, 1, none⟩ = some (.slice none 0 0) := QN.cell 1; have h2 := QN.free 0; have h3 := QN.free 1; have HH : Hid (w1.heap.size < w3.heap.size) := QN.lt; have QH := hide QN; clear QN; have mk3B : True := trivial)
      | (clear mk2; go_at_call 67; refine (C2.out _ _ _ _ _ _ _ _ _ (bal b2 (Obj.cells #[Value.bool false, Value.slice none 0 0] 87)) (Y1.out.below ((Below.refl _ _).alloc (Nat.le_refl _) (Obj.cells #[Value.bool false, Value.slice none 0 0] 87))) (Z2.out.1.below ((Below.refl _ _).alloc (Nat.le_refl _) (Obj.cells #[Value.bool false, Value.slice none 0 0] 87)))).mono ?_; rintro e w3 ⟨⟨s3, o3, l3, c3, rfl, Z3⟩, R3, b3, q3_0, q3_1, q3_2, q3_3, q3_4, q3_5, q3_6, q3_7⟩; have QN := (Blk.newAt w2 w2.heap.size rfl #[.bool false, .slice none 0 0] 87).below R3.out (Blk.newAt w2 w2.heap.size rfl #[.bool false, .slice none 0 0] 87).lt; have h0 : w3.cell? ⟨w2.heap.size, 0, none⟩ = some (.bool false) := QN.cell 0; have h1 : w3.cell? ⟨w2.heap.size, 1, none⟩ = some (.slice none 0 0) := QN.cell 1; have h2 := QN.free 0; have h3 := QN.free 1; have HH : Hid (w2.heap.size < w3.heap.size) := QN.lt; have QH := hide QN; clear QN; have mk3C : True := trivial)
      | (clear mk2; go_at_call 67; refine (C2.out _ _ _ _ _ _ _ _ _ b2 Y1 Z2.out.1).mono ?_; rintro e w3 ⟨⟨s3, o3, l3, c3, rfl, Z3⟩, R3, b3, q3_0, q3_1, q3_2, q3_3, q3_4, q3_5, q3_6, q3_7⟩; have naw3 : ¬ w.heap.size = w3.heap.size := (by have := HL.out; have := b3.out.size; omega); have maw3 : ¬ w3.heap.size = w.heap.size := (by have := HL.out; have := b3.out.size; omega); have nbw3 : ¬ w.heap.size + 1 = w3.heap.size := (by have := HL.out; have := b3.out.size; omega); have mbw3 : ¬ w3.heap.size = w.heap.size + 1 := (by have := HL.out; have := b3.out.size; omega); have mk3D : True := trivial))
    all_goals (go_wp2_with fail; go_meet)
    all_goals (
      first
        | (clear mk3A; exact cut_old b3.out QH.out (Nat.le_refl _) Z3.out.1 Z3.out.2 LT.out)
        | (clear mk3B; exact cut_old b3.out QH.out b1.out.size Z3.out.1 Z3.out.2 LT.out)
        | (clear mk3C; exact cut_old b3.out QH.out b2.out.size Z3.out.1 Z3.out.2 (by simp))
        | (clear mk3D; exact cut_new b3.out Z3.out.1))
  case rest =>
    obtain ⟨⟨H, s, o, l, c, rfl, hq, hH, hz, hbc⟩⟩ := hcut
    have hgt := HL.out
    obtain ⟨G, hG⟩ : ∃ G, G = w.heap.size + 1 + 1 := ⟨_, rfl⟩
    have gn1 : ¬ G = w.heap.size := by omega
    have gn2 : ¬ w.heap.size = G := by omega
    have gn3 : ¬ G = w.heap.size + 1 := by omega
    have gn4 : ¬ w.heap.size + 1 = G := by omega
    have gn5 : ¬ G = H := by omega
    have gn6 : ¬ H = G := by omega
    have gle : w.heap.size ≤ G := by omega
    have HG := hide hG
    rw [← hG] at Br0
    clear hG hgt
    obtain ⟨hs, hn⟩ := hz.nt
    have Ba1 := hide (Ba0.out.below hbc Ba0.out.lt)
    have Bb1 := hide (Bb0.out.below hbc Bb0.out.lt)
    have Br1 := hide (Br0.out.below hbc Br0.out.lt)
    have BT := hide hq
    have HN := hide hn
    have HTC := hide (HTW.out.below hbc)
    have HB1 := hide (HB0.out.trans (hbc.mono HB0.out.size))
    obtain ⟨T, hT⟩ : ∃ T : ByteArray, T = ⟨(Lib.decDigits (za + zb).natAbs).toArray⟩ := ⟨_, rfl⟩
    have HTT := hide hT
    have hTb : bys T = Lib.decDigits (za + zb).natAbs := by rw [hT, bys_mk]
    have hTs : T.size = (Lib.decDigits (za + zb).natAbs).length := by rw [hT, size_mk0]
    have FG := fun (n : Bool) (X : World) => fin_any n T x X (by rw [hTs]; have := HSZ.out; omega) (by have := HX.out; have := HXB.out; omega) (by have := HX.out; have := HXB.out; omega) (by rw [hTb]; exact (dd_okT _).2.2)
    rw [hTb, dd_val] at FG
    have HS := hide hs
    obtain ⟨N, hN⟩ : ∃ N, N = (za + zb).natAbs := ⟨_, rfl⟩
    rw [← hN] at FG
    have FGH := hide FG
    have HNN := hide hN
    clear FG hs hn hz hq hbc hT hTb hTs hN Ba0 Bb0 Br0 HB0 HTW HSZ HXB CCA CCB SA SB HL HW ya0 ya1 ya2 ya3 yb0 yb1 yb2 yb3 yr0 yr1 yr2 yr3 hH
    cases s
    · cases na
      · have FI := hide (FGH.out false)
        rcases hTF : tellF false N x with ⟨⟨cc, nn, ll, ee⟩, er⟩
        rw [hTF] at FI
        unfold decErr decVal at FI
        simp only at FI
        obtain ⟨D, hD⟩ : ∃ D : ByteArray, D = ⟨ll.toArray⟩ := ⟨_, rfl⟩
        rw [← hD] at FI
        have EQ : Hid (Ending.returned (.tuple #[.agg #[.int .i64 (cc : Int), .bool nn, .string D, .int .i64 ee], .int .i64 er]) = Ending.returned (decErr (tellF (decide (za + zb < 0) || (false && nb)) (za + zb).natAbs x))) := by
          show _ = _
          rw [← HNN.out, ← HS.out, show tellF (false || (false && nb)) N x = (⟨cc, nn, ll, ee⟩, er) from hTF, hD]; rfl
        clear hTF hD FGH HS HNN
        have d0 : wc.cell? ⟨w.heap.size, 1, none⟩ = some (.bool false) := Ba1.out.cell 1
        have d1 : wc.cell? ⟨w.heap.size + 1, 1, none⟩ = some (.bool nb) := Bb1.out.cell 1
        have d2 : wc.cell? ⟨H, 0, none⟩ = some (.bool false) := BT.out.cell 0
        have d3 : wc.cell? ⟨H, 1, none⟩ = some (.slice o l c) := BT.out.cell 1
        have HC : Hid (∀ w', Below wc.heap.size wc w' → w'.cell? ⟨w.heap.size, 1, none⟩ = some (.bool false) ∧ w'.cell? ⟨w.heap.size + 1, 1, none⟩ = some (.bool nb) ∧ w'.cell? ⟨H, 0, none⟩ = some (.bool false) ∧ w'.cell? ⟨H, 1, none⟩ = some (.slice o l c) ∧ w'.cell? ⟨G, 0, none⟩ = some (.int .i64 0) ∧ w'.cell? ⟨G, 1, none⟩ = some (.bool false) ∧ w'.cell? ⟨G, 2, none⟩ = some (.string ⟨#[]⟩) ∧ w'.cell? ⟨G, 3, none⟩ = some (.int .i64 0) ∧ w'.frozen? ⟨G, 0, none⟩ = false ∧ w'.frozen? ⟨G, 1, none⟩ = false ∧ w'.frozen? ⟨G, 2, none⟩ = false ∧ w'.frozen? ⟨G, 3, none⟩ = false) := by
          intro w' hb
          have Ba1q := Ba1.out.below hb Ba1.out.lt
          have Bb1q := Bb1.out.below hb Bb1.out.lt
          have BTq := BT.out.below hb BT.out.lt
          have Br1q := Br1.out.below hb Br1.out.lt
          exact ⟨Ba1q.cell 1, Bb1q.cell 1, BTq.cell 0, BTq.cell 1, Br1q.cell 0, Br1q.cell 1, Br1q.cell 2, Br1q.cell 3, Br1q.free 0, Br1q.free 1, Br1q.free 2, Br1q.free 3⟩
        have b0 : Hid (Below wc.heap.size wc wc.drew) := bdrewD wc
        have C0 : Hid (∀ X, Hid (Below wc.heap.size wc X) → Calls Tryz.prog 69 #[.slice o l c] X fun e w' => e = .returned (.string T) ∧ Hid (Below wc.heap.size wc w') ∧ w'.cell? ⟨w.heap.size, 1, none⟩ = some (.bool false) ∧ w'.cell? ⟨w.heap.size + 1, 1, none⟩ = some (.bool nb) ∧ w'.cell? ⟨H, 0, none⟩ = some (.bool false) ∧ w'.cell? ⟨H, 1, none⟩ = some (.slice o l c) ∧ w'.cell? ⟨G, 0, none⟩ = some (.int .i64 0) ∧ w'.cell? ⟨G, 1, none⟩ = some (.bool false) ∧ w'.cell? ⟨G, 2, none⟩ = some (.string ⟨#[]⟩) ∧ w'.cell? ⟨G, 3, none⟩ = some (.int .i64 0) ∧ w'.frozen? ⟨G, 0, none⟩ = false ∧ w'.frozen? ⟨G, 1, none⟩ = false ∧ w'.frozen? ⟨G, 2, none⟩ = false ∧ w'.frozen? ⟨G, 3, none⟩ = false) := by
          intro X bX
          refine (nt_text _ _ X (HN.out.below bX.out) (HTC.out.below bX.out)).mono ?_
          rintro e w' ⟨rfl, hb⟩
          have bb := bX.out.trans (hb.mono bX.out.size)
          exact ⟨by rw [HTT.out], bb, HC.out _ bb⟩
        have C1 : Hid (∀ X, Hid (Below wc.heap.size wc X) → Calls Tryz.prog 31 #[.bool false, .string T, .int .i64 x] X fun e w' => e = .returned (.tuple #[.agg #[.int .i64 (cc : Int), .bool nn, .string D, .int .i64 ee], .int .i64 er]) ∧ Hid (Below wc.heap.size wc w') ∧ w'.cell? ⟨w.heap.size, 1, none⟩ = some (.bool false) ∧ w'.cell? ⟨w.heap.size + 1, 1, none⟩ = some (.bool nb) ∧ w'.cell? ⟨H, 0, none⟩ = some (.bool false) ∧ w'.cell? ⟨H, 1, none⟩ = some (.slice o l c) ∧ w'.cell? ⟨G, 0, none⟩ = some (.int .i64 0) ∧ w'.cell? ⟨G, 1, none⟩ = some (.bool false) ∧ w'.cell? ⟨G, 2, none⟩ = some (.string ⟨#[]⟩) ∧ w'.cell? ⟨G, 3, none⟩ = some (.int .i64 0) ∧ w'.frozen? ⟨G, 0, none⟩ = false ∧ w'.frozen? ⟨G, 1, none⟩ = false ∧ w'.frozen? ⟨G, 2, none⟩ = false ∧ w'.frozen? ⟨G, 3, none⟩ = false) := by
          intro X bX
          refine (FI.out X).mono ?_
          rintro e w' ⟨rfl, hb⟩
          have bb := bX.out.trans (hb.mono bX.out.size)
          exact ⟨rfl, bb, HC.out _ bb⟩
        have BRF : Hid (∀ w', Below wc.heap.size wc w' → Below w.heap.size w w' ∧ Blk w' G #[.int .i64 0, .bool false, .string ⟨#[]⟩, .int .i64 0] 23) := fun w' hb => ⟨HB1.out.trans (hb.mono HB1.out.size), Br1.out.below hb Br1.out.lt⟩
        clear HC HN HTC HTT FI Ba1 Bb1 BT Br1 HB1
        go_wp2_with fail
        simp only [← HG.out]
        refine wp_region_held_drew (S := (fun w' => w'.cell? ⟨w.heap.size, 1, none⟩ = some (.bool false) ∧ w'.cell? ⟨w.heap.size + 1, 1, none⟩ = some (.bool nb) ∧ w'.cell? ⟨H, 0, none⟩ = some (.bool false) ∧ w'.cell? ⟨H, 1, none⟩ = some (.slice o l c))) (by kernel_rfl) ?_ (fun hHeld => ?_)
        · (try dsimp only)
          go_keep
        refine wpAnyH_take (i := 0) (oi := Oper.mk (some 20) _ _ _ _ _) (v := .pointer (some ⟨H, 0, none⟩)) rfl (by kernel_rfl) (by kernel_rfl) (by kernel_rfl) (fun _ _ _ h => h) (Or.inl ⟨by rfl, ?_⟩) (by assumption) ?_
        · intro wX hSw
          (try dsimp only at hSw)
          go_simp
        simp only [Act.put, List.setIfInBounds_toArray, List.set_cons_succ, List.set_cons_zero]
        refine wpAnyH_take (i := 1) (oi := Oper.mk (some 21) _ _ _ _ _) (v := .bool false) rfl (by kernel_rfl) (by kernel_rfl) (by kernel_rfl) (fun _ _ _ h => h) (Or.inl ⟨by rfl, ?_⟩) (by assumption) ?_
        · intro wX hSw
          (try dsimp only at hSw)
          go_simp
        simp only [Act.put, List.setIfInBounds_toArray, List.set_cons_succ, List.set_cons_zero]
        refine wpAnyH_take (i := 2) (oi := Oper.mk (some 22) _ _ _ _ _) (v := .bool false) rfl (by kernel_rfl) (by kernel_rfl) (by kernel_rfl) (fun _ _ _ h => h) (Or.inl ⟨by rfl, ?_⟩) (by assumption) ?_
        · intro wX hSw
          (try dsimp only at hSw)
          go_simp
        simp only [Act.put, List.setIfInBounds_toArray, List.set_cons_succ, List.set_cons_zero]
        refine wpAnyH_take (i := 3) (oi := Oper.mk (some 23) _ _ _ _ _) (v := .pointer (some ⟨w.heap.size, 1, none⟩)) rfl (by kernel_rfl) (by kernel_rfl) (by kernel_rfl) (fun _ _ _ h => h) (Or.inl ⟨by rfl, ?_⟩) (by assumption) ?_
        · intro wX hSw
          (try dsimp only at hSw)
          go_simp
        simp only [Act.put, List.setIfInBounds_toArray, List.set_cons_succ, List.set_cons_zero]
        refine wpAnyH_take (i := 4) (oi := Oper.mk (some 24) _ _ _ _ _) (v := .bool false) rfl (by kernel_rfl) (by kernel_rfl) (by kernel_rfl) (fun _ _ _ h => h) (Or.inl ⟨by rfl, ?_⟩) (by assumption) ?_
        · intro wX hSw
          (try dsimp only at hSw)
          go_simp
        simp only [Act.put, List.setIfInBounds_toArray, List.set_cons_succ, List.set_cons_zero]
        refine wpAnyH_take (i := 5) (oi := Oper.mk (some 25) _ _ _ _ _) (v := .bool false) rfl (by kernel_rfl) (by kernel_rfl) (by kernel_rfl) (fun _ _ _ h => h) (Or.inl ⟨by rfl, ?_⟩) (by assumption) ?_
        · intro wX hSw
          (try dsimp only at hSw)
          go_simp
        simp only [Act.put, List.setIfInBounds_toArray, List.set_cons_succ, List.set_cons_zero]
        refine wpAnyH_take (i := 6) (oi := Oper.mk (some 26) _ _ _ _ _) (v := undef) rfl (by kernel_rfl) (by kernel_rfl) (by kernel_rfl) (fun _ _ _ h => h) (Or.inr ⟨by rfl, rfl⟩) (by assumption) ?_
        simp only [Act.put, List.setIfInBounds_toArray, List.set_cons_succ, List.set_cons_zero]
        refine wpAnyH_take (i := 7) (oi := Oper.mk (some 27) _ _ _ _ _) (v := undef) rfl (by kernel_rfl) (by kernel_rfl) (by kernel_rfl) (fun _ _ _ h => h) (Or.inr ⟨by rfl, rfl⟩) (by assumption) ?_
        simp only [Act.put, List.setIfInBounds_toArray, List.set_cons_succ, List.set_cons_zero]
        refine wpAnyH_take (i := 8) (oi := Oper.mk (some 28) _ _ _ _ _) (v := .bool false) rfl (by kernel_rfl) (by kernel_rfl) (by kernel_rfl) (fun _ _ _ h => h) (Or.inl ⟨by rfl, ?_⟩) (by assumption) ?_
        · intro wX hSw
          (try dsimp only at hSw)
          go_simp
        simp only [Act.put, List.setIfInBounds_toArray, List.set_cons_succ, List.set_cons_zero]
        refine wpAnyH_take (i := 9) (oi := Oper.mk (some 29) _ _ _ _ _) (v := .bool false) rfl (by kernel_rfl) (by kernel_rfl) (by kernel_rfl) (fun _ _ _ h => h) (Or.inl ⟨by rfl, ?_⟩) (by assumption) ?_
        · intro wX hSw
          (try dsimp only at hSw)
          go_simp
        simp only [Act.put, List.setIfInBounds_toArray, List.set_cons_succ, List.set_cons_zero]
        refine wpAnyH_take (i := 10) (oi := Oper.mk (some 30) _ _ _ _ _) (v := .pointer (some ⟨H, 1, none⟩)) rfl (by kernel_rfl) (by kernel_rfl) (by kernel_rfl) (fun _ _ _ h => h) (Or.inl ⟨by rfl, ?_⟩) (by assumption) ?_
        · intro wX hSw
          (try dsimp only at hSw)
          go_simp
        simp only [Act.put, List.setIfInBounds_toArray, List.set_cons_succ, List.set_cons_zero]
        refine wpAnyH_take (i := 11) (oi := Oper.mk (some 31) _ _ _ _ _) (v := .slice o l c) rfl (by kernel_rfl) (by kernel_rfl) (by kernel_rfl) (fun _ _ _ h => h) (Or.inl ⟨by rfl, ?_⟩) (by assumption) ?_
        · intro wX hSw
          (try dsimp only at hSw)
          go_simp
        simp only [Act.put, List.setIfInBounds_toArray, List.set_cons_succ, List.set_cons_zero]
        refine wpAnyH_take (i := 13) (oi := Oper.mk (some 33) _ _ _ _ _) (v := .int .i64 x) rfl (by kernel_rfl) (by kernel_rfl) (by kernel_rfl) (fun _ _ _ h => h) (Or.inl ⟨by rfl, ?_⟩) (by assumption) ?_
        · intro wX hSw
          (try dsimp only at hSw)
          go_simp
        simp only [Act.put, List.setIfInBounds_toArray, List.set_cons_succ, List.set_cons_zero]
        refine wpAnyH_ready (rs := [12]) (by kernel_rfl) (by simp) ?_
        refine AllReadyH.cons (o := Oper.mk (some 32) _ _ _ _ _) rfl (fun K hK => ?_) AllReadyH.nil
        go_simp
        refine (C0.out _ b0).mono ?_
        rintro e w1 ⟨rfl, b1, q0_0, q0_1, q0_2, q0_3, q0_4, q0_5, q0_6, q0_7, q0_8, q0_9, q0_10, q0_11⟩
        try simp only []
        refine hK.out _ _ ?_ (fun hHeld => ?_)
        · (try dsimp only)
          go_keep
        clear hK K
        refine wpAnyH_ready (rs := [14]) (by kernel_rfl) (by simp) ?_
        refine AllReadyH.cons (o := Oper.mk (some 34) _ _ _ _ _) rfl (fun K hK => ?_) AllReadyH.nil
        go_simp
        refine (C1.out _ b1).mono ?_
        rintro e w2 ⟨rfl, b2, q1_0, q1_1, q1_2, q1_3, q1_4, q1_5, q1_6, q1_7, q1_8, q1_9, q1_10, q1_11⟩
        try simp only []
        refine hK.out _ _ ?_ (fun hHeld => ?_)
        · (try dsimp only)
          go_keep
        clear hK K
        refine wpAnyH_take (i := 15) (oi := Oper.mk (some 35) _ _ _ _ _) (v := .agg #[.int .i64 (cc : Int), .bool nn, .string D, .int .i64 ee]) rfl (by kernel_rfl) (by kernel_rfl) (by kernel_rfl) (fun _ _ _ h => h) (Or.inl ⟨by rfl, ?_⟩) (by assumption) ?_
        · intro wX hSw
          (try dsimp only at hSw)
          go_simp
        simp only [Act.put, List.setIfInBounds_toArray, List.set_cons_succ, List.set_cons_zero]
        refine wpAnyH_take (i := 16) (oi := Oper.mk (some 36) _ _ _ _ _) (v := .int .i64 er) rfl (by kernel_rfl) (by kernel_rfl) (by kernel_rfl) (fun _ _ _ h => h) (Or.inl ⟨by rfl, ?_⟩) (by assumption) ?_
        · intro wX hSw
          (try dsimp only at hSw)
          go_simp
        simp only [Act.put, List.setIfInBounds_toArray, List.set_cons_succ, List.set_cons_zero]
        refine wpAnyH_ready (rs := [17]) (by kernel_rfl) (by simp) ?_
        refine AllReadyH.cons (o := Oper.mk none _ _ _ _ _) rfl (fun K hK => ?_) AllReadyH.nil
        go_simp
        refine hK.out _ _ ?_ (fun hHeld => ?_)
        · (try dsimp only)
          go_keep
        clear hK K
        refine wpAnyH_take (i := 18) (oi := Oper.mk (some 5) _ _ _ _ _) (v := .int .i64 er) rfl (by kernel_rfl) (by kernel_rfl) (by kernel_rfl) (fun _ _ _ h => h) (Or.inl ⟨by rfl, ?_⟩) (by assumption) ?_
        · intro wX hSw
          (try dsimp only at hSw)
          go_simp
        simp only [Act.put, List.setIfInBounds_toArray, List.set_cons_succ, List.set_cons_zero]
        refine wpAnyH_done (by kernel_rfl) ?_ _
        obtain ⟨hbel, hblk⟩ := BRF.out _ b2.out
        have HBL := hide hbel
        have QR := hide hblk
        clear hbel hblk BRF b0 b1 b2 C0 C1
        repeat (first | go_values | go_skip | go_guarded | go_step | go_upon)
        refine bodyPost_ret (results_dec2 rfl _ _ _ _ _ _ _ rfl (QR.out.put4 _ _ _ _)) rfl ?_
        exact ⟨EQ.out, below_put4 HBL.out gle _ _ _ _⟩
      · have FI := hide (FGH.out nb)
        rcases hTF : tellF nb N x with ⟨⟨cc, nn, ll, ee⟩, er⟩
        rw [hTF] at FI
        unfold decErr decVal at FI
        simp only at FI
        obtain ⟨D, hD⟩ : ∃ D : ByteArray, D = ⟨ll.toArray⟩ := ⟨_, rfl⟩
        rw [← hD] at FI
        have EQ : Hid (Ending.returned (.tuple #[.agg #[.int .i64 (cc : Int), .bool nn, .string D, .int .i64 ee], .int .i64 er]) = Ending.returned (decErr (tellF (decide (za + zb < 0) || (true && nb)) (za + zb).natAbs x))) := by
          show _ = _
          rw [← HNN.out, ← HS.out, show tellF (false || (true && nb)) N x = (⟨cc, nn, ll, ee⟩, er) from hTF, hD]; rfl
        clear hTF hD FGH HS HNN
        have d0 : wc.cell? ⟨w.heap.size, 1, none⟩ = some (.bool true) := Ba1.out.cell 1
        have d1 : wc.cell? ⟨w.heap.size + 1, 1, none⟩ = some (.bool nb) := Bb1.out.cell 1
        have d2 : wc.cell? ⟨H, 0, none⟩ = some (.bool false) := BT.out.cell 0
        have d3 : wc.cell? ⟨H, 1, none⟩ = some (.slice o l c) := BT.out.cell 1
        have HC : Hid (∀ w', Below wc.heap.size wc w' → w'.cell? ⟨w.heap.size, 1, none⟩ = some (.bool true) ∧ w'.cell? ⟨w.heap.size + 1, 1, none⟩ = some (.bool nb) ∧ w'.cell? ⟨H, 0, none⟩ = some (.bool false) ∧ w'.cell? ⟨H, 1, none⟩ = some (.slice o l c) ∧ w'.cell? ⟨G, 0, none⟩ = some (.int .i64 0) ∧ w'.cell? ⟨G, 1, none⟩ = some (.bool false) ∧ w'.cell? ⟨G, 2, none⟩ = some (.string ⟨#[]⟩) ∧ w'.cell? ⟨G, 3, none⟩ = some (.int .i64 0) ∧ w'.frozen? ⟨G, 0, none⟩ = false ∧ w'.frozen? ⟨G, 1, none⟩ = false ∧ w'.frozen? ⟨G, 2, none⟩ = false ∧ w'.frozen? ⟨G, 3, none⟩ = false) := by
          intro w' hb
          have Ba1q := Ba1.out.below hb Ba1.out.lt
          have Bb1q := Bb1.out.below hb Bb1.out.lt
          have BTq := BT.out.below hb BT.out.lt
          have Br1q := Br1.out.below hb Br1.out.lt
          exact ⟨Ba1q.cell 1, Bb1q.cell 1, BTq.cell 0, BTq.cell 1, Br1q.cell 0, Br1q.cell 1, Br1q.cell 2, Br1q.cell 3, Br1q.free 0, Br1q.free 1, Br1q.free 2, Br1q.free 3⟩
        have b0 : Hid (Below wc.heap.size wc wc.drew) := bdrewD wc
        have C0 : Hid (∀ X, Hid (Below wc.heap.size wc X) → Calls Tryz.prog 69 #[.slice o l c] X fun e w' => e = .returned (.string T) ∧ Hid (Below wc.heap.size wc w') ∧ w'.cell? ⟨w.heap.size, 1, none⟩ = some (.bool true) ∧ w'.cell? ⟨w.heap.size + 1, 1, none⟩ = some (.bool nb) ∧ w'.cell? ⟨H, 0, none⟩ = some (.bool false) ∧ w'.cell? ⟨H, 1, none⟩ = some (.slice o l c) ∧ w'.cell? ⟨G, 0, none⟩ = some (.int .i64 0) ∧ w'.cell? ⟨G, 1, none⟩ = some (.bool false) ∧ w'.cell? ⟨G, 2, none⟩ = some (.string ⟨#[]⟩) ∧ w'.cell? ⟨G, 3, none⟩ = some (.int .i64 0) ∧ w'.frozen? ⟨G, 0, none⟩ = false ∧ w'.frozen? ⟨G, 1, none⟩ = false ∧ w'.frozen? ⟨G, 2, none⟩ = false ∧ w'.frozen? ⟨G, 3, none⟩ = false) := by
          intro X bX
          refine (nt_text _ _ X (HN.out.below bX.out) (HTC.out.below bX.out)).mono ?_
          rintro e w' ⟨rfl, hb⟩
          have bb := bX.out.trans (hb.mono bX.out.size)
          exact ⟨by rw [HTT.out], bb, HC.out _ bb⟩
        have C1 : Hid (∀ X, Hid (Below wc.heap.size wc X) → Calls Tryz.prog 31 #[.bool nb, .string T, .int .i64 x] X fun e w' => e = .returned (.tuple #[.agg #[.int .i64 (cc : Int), .bool nn, .string D, .int .i64 ee], .int .i64 er]) ∧ Hid (Below wc.heap.size wc w') ∧ w'.cell? ⟨w.heap.size, 1, none⟩ = some (.bool true) ∧ w'.cell? ⟨w.heap.size + 1, 1, none⟩ = some (.bool nb) ∧ w'.cell? ⟨H, 0, none⟩ = some (.bool false) ∧ w'.cell? ⟨H, 1, none⟩ = some (.slice o l c) ∧ w'.cell? ⟨G, 0, none⟩ = some (.int .i64 0) ∧ w'.cell? ⟨G, 1, none⟩ = some (.bool false) ∧ w'.cell? ⟨G, 2, none⟩ = some (.string ⟨#[]⟩) ∧ w'.cell? ⟨G, 3, none⟩ = some (.int .i64 0) ∧ w'.frozen? ⟨G, 0, none⟩ = false ∧ w'.frozen? ⟨G, 1, none⟩ = false ∧ w'.frozen? ⟨G, 2, none⟩ = false ∧ w'.frozen? ⟨G, 3, none⟩ = false) := by
          intro X bX
          refine (FI.out X).mono ?_
          rintro e w' ⟨rfl, hb⟩
          have bb := bX.out.trans (hb.mono bX.out.size)
          exact ⟨rfl, bb, HC.out _ bb⟩
        have BRF : Hid (∀ w', Below wc.heap.size wc w' → Below w.heap.size w w' ∧ Blk w' G #[.int .i64 0, .bool false, .string ⟨#[]⟩, .int .i64 0] 23) := fun w' hb => ⟨HB1.out.trans (hb.mono HB1.out.size), Br1.out.below hb Br1.out.lt⟩
        clear HC HN HTC HTT FI Ba1 Bb1 BT Br1 HB1
        go_wp2_with fail
        simp only [← HG.out]
        have mk0 : True := trivial
        go_region_held3 (fun w' => w'.cell? ⟨w.heap.size, 1, none⟩ = some (.bool true) ∧ w'.cell? ⟨w.heap.size + 1, 1, none⟩ = some (.bool nb) ∧ w'.cell? ⟨H, 0, none⟩ = some (.bool false) ∧ w'.cell? ⟨H, 1, none⟩ = some (.slice o l c)) (go_keep) (first
      | (clear mk0; go_at_call 69; refine (C0.out _ b0).mono ?_; rintro e w1 ⟨rfl, b1, q0_0, q0_1, q0_2, q0_3, q0_4, q0_5, q0_6, q0_7, q0_8, q0_9, q0_10, q0_11⟩; have mk1 : True := trivial)
      | (clear mk1; go_at_call 31; refine (C1.out _ b1).mono ?_; rintro e w2 ⟨rfl, b2, q1_0, q1_1, q1_2, q1_3, q1_4, q1_5, q1_6, q1_7, q1_8, q1_9, q1_10, q1_11⟩; have mk2 : True := trivial))
        obtain ⟨hbel, hblk⟩ := BRF.out _ b2.out
        have HBL := hide hbel
        have QR := hide hblk
        clear hbel hblk BRF b0 b1 b2 C0 C1
        repeat (first | go_values | go_skip | go_guarded | go_step | go_upon)
        refine bodyPost_ret (results_dec2 rfl _ _ _ _ _ _ _ rfl (QR.out.put4 _ _ _ _)) rfl ?_
        exact ⟨EQ.out, below_put4 HBL.out gle _ _ _ _⟩
    · have FI := hide (FGH.out true)
      rcases hTF : tellF true N x with ⟨⟨cc, nn, ll, ee⟩, er⟩
      rw [hTF] at FI
      unfold decErr decVal at FI
      simp only at FI
      obtain ⟨D, hD⟩ : ∃ D : ByteArray, D = ⟨ll.toArray⟩ := ⟨_, rfl⟩
      rw [← hD] at FI
      have EQ : Hid (Ending.returned (.tuple #[.agg #[.int .i64 (cc : Int), .bool nn, .string D, .int .i64 ee], .int .i64 er]) = Ending.returned (decErr (tellF (decide (za + zb < 0) || (na && nb)) (za + zb).natAbs x))) := by
        show _ = _
        rw [← HNN.out, ← HS.out, show tellF (true || (na && nb)) N x = (⟨cc, nn, ll, ee⟩, er) from hTF, hD]; rfl
      clear hTF hD FGH HS HNN
      have d0 : wc.cell? ⟨w.heap.size, 1, none⟩ = some (.bool na) := Ba1.out.cell 1
      have d1 : wc.cell? ⟨w.heap.size + 1, 1, none⟩ = some (.bool nb) := Bb1.out.cell 1
      have d2 : wc.cell? ⟨H, 0, none⟩ = some (.bool true) := BT.out.cell 0
      have d3 : wc.cell? ⟨H, 1, none⟩ = some (.slice o l c) := BT.out.cell 1
      have HC : Hid (∀ w', Below wc.heap.size wc w' → w'.cell? ⟨w.heap.size, 1, none⟩ = some (.bool na) ∧ w'.cell? ⟨w.heap.size + 1, 1, none⟩ = some (.bool nb) ∧ w'.cell? ⟨H, 0, none⟩ = some (.bool true) ∧ w'.cell? ⟨H, 1, none⟩ = some (.slice o l c) ∧ w'.cell? ⟨G, 0, none⟩ = some (.int .i64 0) ∧ w'.cell? ⟨G, 1, none⟩ = some (.bool false) ∧ w'.cell? ⟨G, 2, none⟩ = some (.string ⟨#[]⟩) ∧ w'.cell? ⟨G, 3, none⟩ = some (.int .i64 0) ∧ w'.frozen? ⟨G, 0, none⟩ = false ∧ w'.frozen? ⟨G, 1, none⟩ = false ∧ w'.frozen? ⟨G, 2, none⟩ = false ∧ w'.frozen? ⟨G, 3, none⟩ = false) := by
        intro w' hb
        have Ba1q := Ba1.out.below hb Ba1.out.lt
        have Bb1q := Bb1.out.below hb Bb1.out.lt
        have BTq := BT.out.below hb BT.out.lt
        have Br1q := Br1.out.below hb Br1.out.lt
        exact ⟨Ba1q.cell 1, Bb1q.cell 1, BTq.cell 0, BTq.cell 1, Br1q.cell 0, Br1q.cell 1, Br1q.cell 2, Br1q.cell 3, Br1q.free 0, Br1q.free 1, Br1q.free 2, Br1q.free 3⟩
      have b0 : Hid (Below wc.heap.size wc wc.drew) := bdrewD wc
      have C0 : Hid (∀ X, Hid (Below wc.heap.size wc X) → Calls Tryz.prog 69 #[.slice o l c] X fun e w' => e = .returned (.string T) ∧ Hid (Below wc.heap.size wc w') ∧ w'.cell? ⟨w.heap.size, 1, none⟩ = some (.bool na) ∧ w'.cell? ⟨w.heap.size + 1, 1, none⟩ = some (.bool nb) ∧ w'.cell? ⟨H, 0, none⟩ = some (.bool true) ∧ w'.cell? ⟨H, 1, none⟩ = some (.slice o l c) ∧ w'.cell? ⟨G, 0, none⟩ = some (.int .i64 0) ∧ w'.cell? ⟨G, 1, none⟩ = some (.bool false) ∧ w'.cell? ⟨G, 2, none⟩ = some (.string ⟨#[]⟩) ∧ w'.cell? ⟨G, 3, none⟩ = some (.int .i64 0) ∧ w'.frozen? ⟨G, 0, none⟩ = false ∧ w'.frozen? ⟨G, 1, none⟩ = false ∧ w'.frozen? ⟨G, 2, none⟩ = false ∧ w'.frozen? ⟨G, 3, none⟩ = false) := by
        intro X bX
        refine (nt_text _ _ X (HN.out.below bX.out) (HTC.out.below bX.out)).mono ?_
        rintro e w' ⟨rfl, hb⟩
        have bb := bX.out.trans (hb.mono bX.out.size)
        exact ⟨by rw [HTT.out], bb, HC.out _ bb⟩
      have C1 : Hid (∀ X, Hid (Below wc.heap.size wc X) → Calls Tryz.prog 31 #[.bool true, .string T, .int .i64 x] X fun e w' => e = .returned (.tuple #[.agg #[.int .i64 (cc : Int), .bool nn, .string D, .int .i64 ee], .int .i64 er]) ∧ Hid (Below wc.heap.size wc w') ∧ w'.cell? ⟨w.heap.size, 1, none⟩ = some (.bool na) ∧ w'.cell? ⟨w.heap.size + 1, 1, none⟩ = some (.bool nb) ∧ w'.cell? ⟨H, 0, none⟩ = some (.bool true) ∧ w'.cell? ⟨H, 1, none⟩ = some (.slice o l c) ∧ w'.cell? ⟨G, 0, none⟩ = some (.int .i64 0) ∧ w'.cell? ⟨G, 1, none⟩ = some (.bool false) ∧ w'.cell? ⟨G, 2, none⟩ = some (.string ⟨#[]⟩) ∧ w'.cell? ⟨G, 3, none⟩ = some (.int .i64 0) ∧ w'.frozen? ⟨G, 0, none⟩ = false ∧ w'.frozen? ⟨G, 1, none⟩ = false ∧ w'.frozen? ⟨G, 2, none⟩ = false ∧ w'.frozen? ⟨G, 3, none⟩ = false) := by
        intro X bX
        refine (FI.out X).mono ?_
        rintro e w' ⟨rfl, hb⟩
        have bb := bX.out.trans (hb.mono bX.out.size)
        exact ⟨rfl, bb, HC.out _ bb⟩
      have BRF : Hid (∀ w', Below wc.heap.size wc w' → Below w.heap.size w w' ∧ Blk w' G #[.int .i64 0, .bool false, .string ⟨#[]⟩, .int .i64 0] 23) := fun w' hb => ⟨HB1.out.trans (hb.mono HB1.out.size), Br1.out.below hb Br1.out.lt⟩
      clear HC HN HTC HTT FI Ba1 Bb1 BT Br1 HB1
      go_wp2_with fail
      simp only [← HG.out]
      refine wp_region_held_drew (S := (fun w' => w'.cell? ⟨w.heap.size, 1, none⟩ = some (.bool na) ∧ w'.cell? ⟨w.heap.size + 1, 1, none⟩ = some (.bool nb) ∧ w'.cell? ⟨H, 0, none⟩ = some (.bool true) ∧ w'.cell? ⟨H, 1, none⟩ = some (.slice o l c))) (by kernel_rfl) ?_ (fun hHeld => ?_)
      · (try dsimp only)
        go_keep
      refine wpAnyH_take (i := 0) (oi := Oper.mk (some 20) _ _ _ _ _) (v := .pointer (some ⟨H, 0, none⟩)) rfl (by kernel_rfl) (by kernel_rfl) (by kernel_rfl) (fun _ _ _ h => h) (Or.inl ⟨by rfl, ?_⟩) (by assumption) ?_
      · intro wX hSw
        (try dsimp only at hSw)
        go_simp
      simp only [Act.put, List.setIfInBounds_toArray, List.set_cons_succ, List.set_cons_zero]
      refine wpAnyH_take (i := 1) (oi := Oper.mk (some 21) _ _ _ _ _) (v := .bool true) rfl (by kernel_rfl) (by kernel_rfl) (by kernel_rfl) (fun _ _ _ h => h) (Or.inl ⟨by rfl, ?_⟩) (by assumption) ?_
      · intro wX hSw
        (try dsimp only at hSw)
        go_simp
      simp only [Act.put, List.setIfInBounds_toArray, List.set_cons_succ, List.set_cons_zero]
      refine wpAnyH_take (i := 2) (oi := Oper.mk (some 22) _ _ _ _ _) (v := .bool true) rfl (by kernel_rfl) (by kernel_rfl) (by kernel_rfl) (fun _ _ _ h => h) (Or.inl ⟨by rfl, ?_⟩) (by assumption) ?_
      · intro wX hSw
        (try dsimp only at hSw)
        go_simp
      simp only [Act.put, List.setIfInBounds_toArray, List.set_cons_succ, List.set_cons_zero]
      refine wpAnyH_take (i := 3) (oi := Oper.mk (some 23) _ _ _ _ _) (v := undef) rfl (by kernel_rfl) (by kernel_rfl) (by kernel_rfl) (fun _ _ _ h => h) (Or.inr ⟨by rfl, rfl⟩) (by assumption) ?_
      simp only [Act.put, List.setIfInBounds_toArray, List.set_cons_succ, List.set_cons_zero]
      refine wpAnyH_take (i := 4) (oi := Oper.mk (some 24) _ _ _ _ _) (v := undef) rfl (by kernel_rfl) (by kernel_rfl) (by kernel_rfl) (fun _ _ _ h => h) (Or.inr ⟨by rfl, rfl⟩) (by assumption) ?_
      simp only [Act.put, List.setIfInBounds_toArray, List.set_cons_succ, List.set_cons_zero]
      refine wpAnyH_take (i := 5) (oi := Oper.mk (some 25) _ _ _ _ _) (v := undef) rfl (by kernel_rfl) (by kernel_rfl) (by kernel_rfl) (fun _ _ _ h => h) (Or.inr ⟨by rfl, rfl⟩) (by assumption) ?_
      simp only [Act.put, List.setIfInBounds_toArray, List.set_cons_succ, List.set_cons_zero]
      refine wpAnyH_take (i := 6) (oi := Oper.mk (some 26) _ _ _ _ _) (v := undef) rfl (by kernel_rfl) (by kernel_rfl) (by kernel_rfl) (fun _ _ _ h => h) (Or.inr ⟨by rfl, rfl⟩) (by assumption) ?_
      simp only [Act.put, List.setIfInBounds_toArray, List.set_cons_succ, List.set_cons_zero]
      refine wpAnyH_take (i := 7) (oi := Oper.mk (some 27) _ _ _ _ _) (v := undef) rfl (by kernel_rfl) (by kernel_rfl) (by kernel_rfl) (fun _ _ _ h => h) (Or.inr ⟨by rfl, rfl⟩) (by assumption) ?_
      simp only [Act.put, List.setIfInBounds_toArray, List.set_cons_succ, List.set_cons_zero]
      refine wpAnyH_take (i := 8) (oi := Oper.mk (some 28) _ _ _ _ _) (v := undef) rfl (by kernel_rfl) (by kernel_rfl) (by kernel_rfl) (fun _ _ _ h => h) (Or.inr ⟨by rfl, rfl⟩) (by assumption) ?_
      simp only [Act.put, List.setIfInBounds_toArray, List.set_cons_succ, List.set_cons_zero]
      refine wpAnyH_take (i := 9) (oi := Oper.mk (some 29) _ _ _ _ _) (v := .bool true) rfl (by kernel_rfl) (by kernel_rfl) (by kernel_rfl) (fun _ _ _ h => h) (Or.inl ⟨by rfl, ?_⟩) (by assumption) ?_
      · intro wX hSw
        (try dsimp only at hSw)
        go_simp
      simp only [Act.put, List.setIfInBounds_toArray, List.set_cons_succ, List.set_cons_zero]
      refine wpAnyH_take (i := 10) (oi := Oper.mk (some 30) _ _ _ _ _) (v := .pointer (some ⟨H, 1, none⟩)) rfl (by kernel_rfl) (by kernel_rfl) (by kernel_rfl) (fun _ _ _ h => h) (Or.inl ⟨by rfl, ?_⟩) (by assumption) ?_
      · intro wX hSw
        (try dsimp only at hSw)
        go_simp
      simp only [Act.put, List.setIfInBounds_toArray, List.set_cons_succ, List.set_cons_zero]
      refine wpAnyH_take (i := 11) (oi := Oper.mk (some 31) _ _ _ _ _) (v := .slice o l c) rfl (by kernel_rfl) (by kernel_rfl) (by kernel_rfl) (fun _ _ _ h => h) (Or.inl ⟨by rfl, ?_⟩) (by assumption) ?_
      · intro wX hSw
        (try dsimp only at hSw)
        go_simp
      simp only [Act.put, List.setIfInBounds_toArray, List.set_cons_succ, List.set_cons_zero]
      refine wpAnyH_take (i := 13) (oi := Oper.mk (some 33) _ _ _ _ _) (v := .int .i64 x) rfl (by kernel_rfl) (by kernel_rfl) (by kernel_rfl) (fun _ _ _ h => h) (Or.inl ⟨by rfl, ?_⟩) (by assumption) ?_
      · intro wX hSw
        (try dsimp only at hSw)
        go_simp
      simp only [Act.put, List.setIfInBounds_toArray, List.set_cons_succ, List.set_cons_zero]
      refine wpAnyH_ready (rs := [12]) (by kernel_rfl) (by simp) ?_
      refine AllReadyH.cons (o := Oper.mk (some 32) _ _ _ _ _) rfl (fun K hK => ?_) AllReadyH.nil
      go_simp
      refine (C0.out _ b0).mono ?_
      rintro e w1 ⟨rfl, b1, q0_0, q0_1, q0_2, q0_3, q0_4, q0_5, q0_6, q0_7, q0_8, q0_9, q0_10, q0_11⟩
      try simp only []
      refine hK.out _ _ ?_ (fun hHeld => ?_)
      · (try dsimp only)
        go_keep
      clear hK K
      refine wpAnyH_ready (rs := [14]) (by kernel_rfl) (by simp) ?_
      refine AllReadyH.cons (o := Oper.mk (some 34) _ _ _ _ _) rfl (fun K hK => ?_) AllReadyH.nil
      go_simp
      refine (C1.out _ b1).mono ?_
      rintro e w2 ⟨rfl, b2, q1_0, q1_1, q1_2, q1_3, q1_4, q1_5, q1_6, q1_7, q1_8, q1_9, q1_10, q1_11⟩
      try simp only []
      refine hK.out _ _ ?_ (fun hHeld => ?_)
      · (try dsimp only)
        go_keep
      clear hK K
      refine wpAnyH_take (i := 15) (oi := Oper.mk (some 35) _ _ _ _ _) (v := .agg #[.int .i64 (cc : Int), .bool nn, .string D, .int .i64 ee]) rfl (by kernel_rfl) (by kernel_rfl) (by kernel_rfl) (fun _ _ _ h => h) (Or.inl ⟨by rfl, ?_⟩) (by assumption) ?_
      · intro wX hSw
        (try dsimp only at hSw)
        go_simp
      simp only [Act.put, List.setIfInBounds_toArray, List.set_cons_succ, List.set_cons_zero]
      refine wpAnyH_take (i := 16) (oi := Oper.mk (some 36) _ _ _ _ _) (v := .int .i64 er) rfl (by kernel_rfl) (by kernel_rfl) (by kernel_rfl) (fun _ _ _ h => h) (Or.inl ⟨by rfl, ?_⟩) (by assumption) ?_
      · intro wX hSw
        (try dsimp only at hSw)
        go_simp
      simp only [Act.put, List.setIfInBounds_toArray, List.set_cons_succ, List.set_cons_zero]
      refine wpAnyH_ready (rs := [17]) (by kernel_rfl) (by simp) ?_
      refine AllReadyH.cons (o := Oper.mk none _ _ _ _ _) rfl (fun K hK => ?_) AllReadyH.nil
      go_simp
      refine hK.out _ _ ?_ (fun hHeld => ?_)
      · (try dsimp only)
        go_keep
      clear hK K
      refine wpAnyH_take (i := 18) (oi := Oper.mk (some 5) _ _ _ _ _) (v := .int .i64 er) rfl (by kernel_rfl) (by kernel_rfl) (by kernel_rfl) (fun _ _ _ h => h) (Or.inl ⟨by rfl, ?_⟩) (by assumption) ?_
      · intro wX hSw
        (try dsimp only at hSw)
        go_simp
      simp only [Act.put, List.setIfInBounds_toArray, List.set_cons_succ, List.set_cons_zero]
      refine wpAnyH_done (by kernel_rfl) ?_ _
      obtain ⟨hbel, hblk⟩ := BRF.out _ b2.out
      have HBL := hide hbel
      have QR := hide hblk
      clear hbel hblk BRF b0 b1 b2 C0 C1
      repeat (first | go_values | go_skip | go_guarded | go_step | go_upon)
      refine bodyPost_ret (results_dec2 rfl _ _ _ _ _ _ _ rfl (QR.out.put4 _ _ _ _)) rfl ?_
      exact ⟨EQ.out, below_put4 HBL.out gle _ _ _ _⟩

end Go.Proofs.YtifpacgacbpalaaGreatDoor
