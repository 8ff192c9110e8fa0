/-
  What dec's sum does.
  What dec's product does.
  What dec's Add does.
  What dec's Mul does.
  What dec's sums and products of numbers that may be are.
-/
import Derived.Test.YtcclbcnmkaobpaaGreatDoorZB5
import Derived.Test.YtcclbcnmkaobpaaGreatDoorZB9
import Derived.Test.YtcclbcnmkaobpaaGreatDoorZB20
import Derived.Deep.CutRange
namespace Go.Proofs.YtcclbcnmkaobpaaGreatDoor
open Go.RowKit

/-- Where the ways through such a region meet: a variable's pointer and the world. -/
structure Cut1 (W : World) (z : Int) (v : Value) (W' : World) : Prop where
  ex : ∃ (H : Nat) (s : Bool) (o : Option Addr) (l c : Nat), v = .pointer (some ⟨H, 0, none⟩) ∧ Blk W' H #[.bool s, .slice o l c] 91 ∧ W.heap.size ≤ H ∧ Zt W' (.agg #[.bool s, .slice o l c]) z ∧ Below W.heap.size W W'

theorem Blk.put2 {w : World} {b : Nat} {t : TypeId} {x0 x1 : Value} (h : Blk w b #[x0, x1] t) (y0 y1 : Value) : Blk ((w.setCell ⟨b, 0, none⟩ y0).setCell ⟨b, 1, none⟩ y1) b #[y0, y1] t := Pair.put h y0 y1

theorem cut_old {W w3 : World} {z : Int} {H base l c : Nat} {s : Bool} {o : Option Addr} {x y : Value} (hb : Below W.heap.size W w3) (q : Blk w3 H #[x, y] 91) (hH : W.heap.size ≤ H) (hz : Zt w3 (.agg #[.bool s, .slice o l c]) z) (hf : Far base (.slice o l c)) (hl : H < base) :
    Cut1 W z (.pointer (some ⟨H, 0, none⟩)) ((w3.setCell ⟨H, 0, none⟩ (.bool s)).setCell ⟨H, 1, none⟩ (.slice o l c)) :=
  ⟨H, s, o, l, c, rfl, q.put2 _ _, hH, (hz.put hf hl _).put hf hl _, (hb.setCell hH _).setCell hH _⟩

theorem cut_new {W w3 : World} {z : Int} {l c : Nat} {s : Bool} {o : Option Addr} (hb : Below W.heap.size W w3) (hz : Zt w3 (.agg #[.bool s, .slice o l c]) z) :
    Cut1 W z (.pointer (some ⟨w3.heap.size, 0, none⟩)) (w3.alloc (.cells #[.bool s, .slice o l c] 91)) :=
  ⟨w3.heap.size, s, o, l, c, rfl, Blk.new _ _ _, hb.size, hz.below ((Below.refl _ _).alloc (Nat.le_refl _) _), hb.alloc hb.size _⟩

set_option maxRecDepth 100000 in
set_option maxHeartbeats 4000000 in
theorem sum_gen (na : Bool) (ta : ByteArray) (ea : Int) (nb : Bool) (tb : ByteArray) (eb : Int) (za zb : Int) (w : World) (ca : ∀ W, Calls Tryz.prog 66 #[dcV 0 na ta ea, .int .i64 (min ea eb)] W (ZtPost W za)) (cb : ∀ W, Calls Tryz.prog 66 #[dcV 0 nb tb eb, .int .i64 (min ea eb)] W (ZtPost W zb)) (sa : Sm za.natAbs) (sb : Sm zb.natAbs) (htab : Tab w) (hsz : (Lib.decDigits (za + zb).natAbs).length ≤ 100000) (hxb : -10000 ≤ ea ∧ ea ≤ 10000 ∧ -10000 ≤ eb ∧ eb ≤ 10000) : Calls Tryz.prog 38 #[dcV 0 na ta ea, dcV 0 nb tb eb] w fun e w' => e = .returned (decErr (tellF (decide (za + zb < 0) || (na && nb)) (za + zb).natAbs (min ea eb))) ∧ Below w.heap.size w w' := by
  have CCA := hide ca
  have CCB := hide cb
  have SA := hide sa
  have SB := hide sb
  have HT := hide htab
  have HSZ := hide hsz
  have HXB : Hid (-10000 ≤ ea ∧ ea ≤ 10000 ∧ -10000 ≤ eb ∧ eb ≤ 10000) := hxb
  obtain ⟨x, hx⟩ : ∃ x, x = min ea eb := ⟨_, rfl⟩
  have HX := hide hx
  rw [← hx] at CCA CCB ⊢
  clear ca cb sa sb htab hx hsz hxb
  have Ba0 := hide (((Blk.newAt w (w.heap.size) (rfl) #[.int .i64 0, .bool na, .string ta, .int .i64 ea] 23).alloc (.cells #[.int .i64 0, .bool nb, .string tb, .int .i64 eb] 23)).alloc (.cells #[.int .i64 0, .bool false, .string ⟨#[]⟩, .int .i64 0] 23))
  have Bb0 := hide ((Blk.newAt (w.alloc (.cells #[.int .i64 0, .bool na, .string ta, .int .i64 ea] 23)) (w.heap.size + 1) (by simp) #[.int .i64 0, .bool nb, .string tb, .int .i64 eb] 23).alloc (.cells #[.int .i64 0, .bool false, .string ⟨#[]⟩, .int .i64 0] 23))
  have Br0 := hide (Blk.newAt ((w.alloc (.cells #[.int .i64 0, .bool na, .string ta, .int .i64 ea] 23)).alloc (.cells #[.int .i64 0, .bool nb, .string tb, .int .i64 eb] 23)) (w.heap.size + 1 + 1) (by simp) #[.int .i64 0, .bool false, .string ⟨#[]⟩, .int .i64 0] 23)
  have HB0 : Hid (Below w.heap.size w (((w.alloc (.cells #[.int .i64 0, .bool na, .string ta, .int .i64 ea] 23)).alloc (.cells #[.int .i64 0, .bool nb, .string tb, .int .i64 eb] 23)).alloc (.cells #[.int .i64 0, .bool false, .string ⟨#[]⟩, .int .i64 0] 23))) := ((((Below.refl _ _).alloc (Nat.le_refl _) _).alloc (by simp <;> omega) _).alloc (by simp <;> omega) _)
  have HTW := hide (HT.out.below HB0.out)
  obtain ⟨W, hW⟩ : ∃ W, W = (((w.alloc (.cells #[.int .i64 0, .bool na, .string ta, .int .i64 ea] 23)).alloc (.cells #[.int .i64 0, .bool nb, .string tb, .int .i64 eb] 23)).alloc (.cells #[.int .i64 0, .bool false, .string ⟨#[]⟩, .int .i64 0] 23)) := ⟨_, rfl⟩
  rw [← hW] at HB0 Ba0 Bb0 Br0 HTW
  have HW := hide hW
  clear hW
  have ya0 : W.cell? ⟨w.heap.size, 0, none⟩ = some (.int .i64 0) := Ba0.out.cell 0
  have ya1 : W.cell? ⟨w.heap.size, 1, none⟩ = some (.bool na) := Ba0.out.cell 1
  have ya2 : W.cell? ⟨w.heap.size, 2, none⟩ = some (.string ta) := Ba0.out.cell 2
  have ya3 : W.cell? ⟨w.heap.size, 3, none⟩ = some (.int .i64 ea) := Ba0.out.cell 3
  have yb0 : W.cell? ⟨w.heap.size + 1, 0, none⟩ = some (.int .i64 0) := Bb0.out.cell 0
  have yb1 : W.cell? ⟨w.heap.size + 1, 1, none⟩ = some (.bool nb) := Bb0.out.cell 1
  have yb2 : W.cell? ⟨w.heap.size + 1, 2, none⟩ = some (.string tb) := Bb0.out.cell 2
  have yb3 : W.cell? ⟨w.heap.size + 1, 3, none⟩ = some (.int .i64 eb) := Bb0.out.cell 3
  have yr0 : W.cell? ⟨w.heap.size + 1 + 1, 0, none⟩ = some (.int .i64 0) := Br0.out.cell 0
  have yr1 : W.cell? ⟨w.heap.size + 1 + 1, 1, none⟩ = some (.bool false) := Br0.out.cell 1
  have yr2 : W.cell? ⟨w.heap.size + 1 + 1, 2, none⟩ = some (.string ⟨#[]⟩) := Br0.out.cell 2
  have yr3 : W.cell? ⟨w.heap.size + 1 + 1, 3, none⟩ = some (.int .i64 0) := Br0.out.cell 3
  have HL : Hid (w.heap.size < W.heap.size ∧ w.heap.size + 1 < W.heap.size ∧ w.heap.size + 1 + 1 < W.heap.size) := ⟨Ba0.out.lt, Bb0.out.lt, Br0.out.lt⟩
  clear HT
  go_enter Tryz.func38, Tryz.ntmps38
  go_wp2_with fail
  simp only [← HW.out]
  simp only [← HX.out]
  go_cut [7] from 8 to 19 (fun v7 wx => Cut1 W (za + zb) v7 wx)
  case first =>
    have C0 : Hid (∀ X, Hid (Below W.heap.size W X) → Calls Tryz.prog 66 #[dcV 0 na ta ea, .int .i64 x] X fun e w' => (∃ s o l c, e = .returned (.agg #[.bool s, .slice o l c]) ∧ Hid (Zt w' (.agg #[.bool s, .slice o l c]) za ∧ Far X.heap.size (.slice o l c))) ∧ Hid (Below X.heap.size X w') ∧ Hid (Below W.heap.size W w') ∧ w'.cell? ⟨w.heap.size, 0, none⟩ = some (.int .i64 0) ∧ w'.cell? ⟨w.heap.size, 1, none⟩ = some (.bool na) ∧ w'.cell? ⟨w.heap.size, 2, none⟩ = some (.string ta) ∧ w'.cell? ⟨w.heap.size, 3, none⟩ = some (.int .i64 ea) ∧ w'.cell? ⟨w.heap.size + 1, 0, none⟩ = some (.int .i64 0) ∧ w'.cell? ⟨w.heap.size + 1, 1, none⟩ = some (.bool nb) ∧ w'.cell? ⟨w.heap.size + 1, 2, none⟩ = some (.string tb) ∧ w'.cell? ⟨w.heap.size + 1, 3, none⟩ = some (.int .i64 eb)) := by
      intro X bX
      refine (CCA.out X).mono ?_
      rintro e w' ⟨s, o, l, c, rfl, hz, hb, hf⟩
      have bb := bX.out.trans (hb.mono bX.out.size)
      have Baq := Ba0.out.below bb Ba0.out.lt
      have Bbq := Bb0.out.below bb Bb0.out.lt
      exact ⟨⟨s, o, l, c, rfl, hz.out, hf.out⟩, hb, bb, Baq.cell 0, Baq.cell 1, Baq.cell 2, Baq.cell 3, Bbq.cell 0, Bbq.cell 1, Bbq.cell 2, Bbq.cell 3⟩
    have C1 : Hid (∀ X, Hid (Below W.heap.size W X) → Calls Tryz.prog 66 #[dcV 0 nb tb eb, .int .i64 x] X fun e w' => (∃ s o l c, e = .returned (.agg #[.bool s, .slice o l c]) ∧ Hid (Zt w' (.agg #[.bool s, .slice o l c]) zb ∧ Far X.heap.size (.slice o l c))) ∧ Hid (Below X.heap.size X w') ∧ Hid (Below W.heap.size W w') ∧ w'.cell? ⟨w.heap.size, 0, none⟩ = some (.int .i64 0) ∧ w'.cell? ⟨w.heap.size, 1, none⟩ = some (.bool na) ∧ w'.cell? ⟨w.heap.size, 2, none⟩ = some (.string ta) ∧ w'.cell? ⟨w.heap.size, 3, none⟩ = some (.int .i64 ea) ∧ w'.cell? ⟨w.heap.size + 1, 0, none⟩ = some (.int .i64 0) ∧ w'.cell? ⟨w.heap.size + 1, 1, none⟩ = some (.bool nb) ∧ w'.cell? ⟨w.heap.size + 1, 2, none⟩ = some (.string tb) ∧ w'.cell? ⟨w.heap.size + 1, 3, none⟩ = some (.int .i64 eb)) := by
      intro X bX
      refine (CCB.out X).mono ?_
      rintro e w' ⟨s, o, l, c, rfl, hz, hb, hf⟩
      have bb := bX.out.trans (hb.mono bX.out.size)
      have Baq := Ba0.out.below bb Ba0.out.lt
      have Bbq := Bb0.out.below bb Bb0.out.lt
      exact ⟨⟨s, o, l, c, rfl, hz.out, hf.out⟩, hb, bb, Baq.cell 0, Baq.cell 1, Baq.cell 2, Baq.cell 3, Bbq.cell 0, Bbq.cell 1, Bbq.cell 2, Bbq.cell 3⟩
    have C2 : Hid (∀ X (s1 : Bool) (o1 : Option Addr) (l1 c1 : Nat) (s2 : Bool) (o2 : Option Addr) (l2 c2 : Nat), Hid (Below W.heap.size W X) → Zt X (.agg #[.bool s1, .slice o1 l1 c1]) za → Zt X (.agg #[.bool s2, .slice o2 l2 c2]) zb → Calls Tryz.prog 65 #[.agg #[.bool s1, .slice o1 l1 c1], .agg #[.bool s2, .slice o2 l2 c2]] X fun e w' => (∃ s o l c, e = .returned (.agg #[.bool s, .slice o l c]) ∧ Hid (Zt w' (.agg #[.bool s, .slice o l c]) (za + zb) ∧ Far X.heap.size (.slice o l c))) ∧ Hid (Below X.heap.size X w') ∧ Hid (Below W.heap.size W w') ∧ w'.cell? ⟨w.heap.size, 0, none⟩ = some (.int .i64 0) ∧ w'.cell? ⟨w.heap.size, 1, none⟩ = some (.bool na) ∧ w'.cell? ⟨w.heap.size, 2, none⟩ = some (.string ta) ∧ w'.cell? ⟨w.heap.size, 3, none⟩ = some (.int .i64 ea) ∧ w'.cell? ⟨w.heap.size + 1, 0, none⟩ = some (.int .i64 0) ∧ w'.cell? ⟨w.heap.size + 1, 1, none⟩ = some (.bool nb) ∧ w'.cell? ⟨w.heap.size + 1, 2, none⟩ = some (.string tb) ∧ w'.cell? ⟨w.heap.size + 1, 3, none⟩ = some (.int .i64 eb)) := by
      intro X s1 o1 l1 c1 s2 o2 l2 c2 bX Zp Zq
      refine (zt_add _ _ za zb X Zp Zq SA.out SB.out).mono ?_
      rintro e w' ⟨s, o, l, c, rfl, hz, hb, hf⟩
      have bb := bX.out.trans (hb.mono bX.out.size)
      have Baq := Ba0.out.below bb Ba0.out.lt
      have Bbq := Bb0.out.below bb Bb0.out.lt
      exact ⟨⟨s, o, l, c, rfl, hz.out, hf.out⟩, hb, bb, Baq.cell 0, Baq.cell 1, Baq.cell 2, Baq.cell 3, Bbq.cell 0, Bbq.cell 1, Bbq.cell 2, Bbq.cell 3⟩
    have b0 : Hid (Below W.heap.size W W.drew) := bdrewD W
    have naW : ¬ w.heap.size = W.heap.size := (by have := HL.out; omega)
    have maW : ¬ W.heap.size = w.heap.size := (by have := HL.out; omega)
    have nbW : ¬ w.heap.size + 1 = W.heap.size := (by have := HL.out; omega)
    have mbW : ¬ W.heap.size = w.heap.size + 1 := (by have := HL.out; omega)
    clear CCA CCB SA SB HTW HSZ HXB
    have mk0 : True := trivial
    go_region_held3 (fun w' => w'.cell? ⟨w.heap.size, 0, none⟩ = some (.int .i64 0) ∧ w'.cell? ⟨w.heap.size, 1, none⟩ = some (.bool na) ∧ w'.cell? ⟨w.heap.size, 2, none⟩ = some (.string ta) ∧ w'.cell? ⟨w.heap.size, 3, none⟩ = some (.int .i64 ea) ∧ w'.cell? ⟨w.heap.size + 1, 0, none⟩ = some (.int .i64 0) ∧ w'.cell? ⟨w.heap.size + 1, 1, none⟩ = some (.bool nb) ∧ w'.cell? ⟨w.heap.size + 1, 2, none⟩ = some (.string tb) ∧ w'.cell? ⟨w.heap.size + 1, 3, none⟩ = some (.int .i64 eb)) (go_keep) (first
      | (clear mk0; go_at_call 66; refine (C0.out _ (bal b0 (Obj.cells #[Value.bool false, Value.slice none 0 0] 91))).mono ?_; rintro e w1 ⟨⟨s1, o1, l1, c1, rfl, Z1⟩, R1, b1, q1_0, q1_1, q1_2, q1_3, q1_4, q1_5, q1_6, q1_7⟩; have QN := (Blk.newAt W.drew W.heap.size rfl #[.bool false, .slice none 0 0] 91).below R1.out (Blk.newAt W.drew W.heap.size rfl #[.bool false, .slice none 0 0] 91).lt; have h0 : w1.cell? ⟨W.heap.size, 0, none⟩ = some (.bool false) := QN.cell 0; have h1 : w1.cell? ⟨W.heap.size, 1, none⟩ = some (.slice none 0 0) := QN.cell 1; have h2 := QN.free 0; have h3 := QN.free 1; have HH : Hid (W.heap.size < w1.heap.size) := QN.lt; have QH := hide QN; clear QN; have mk1A : True := trivial)
      | (clear mk0; go_at_call 66; refine (C0.out _ b0).mono ?_; rintro e w1 ⟨⟨s1, o1, l1, c1, rfl, Z1⟩, R1, b1, q1_0, q1_1, q1_2, q1_3, q1_4, q1_5, q1_6, q1_7⟩; have naw1 : ¬ w.heap.size = w1.heap.size := (by have := HL.out; have := b1.out.size; omega); have maw1 : ¬ w1.heap.size = w.heap.size := (by have := HL.out; have := b1.out.size; omega); have nbw1 : ¬ w.heap.size + 1 = w1.heap.size := (by have := HL.out; have := b1.out.size; omega); have mbw1 : ¬ w1.heap.size = w.heap.size + 1 := (by have := HL.out; have := b1.out.size; omega); have mk1 : True := trivial)
      | (clear mk1A; go_at_call 66; refine (C1.out _ b1).mono ?_; rintro e w2 ⟨⟨s2, o2, l2, c2, rfl, Z2⟩, R2, b2, q2_0, q2_1, q2_2, q2_3, q2_4, q2_5, q2_6, q2_7⟩; have Y1 := hide (Z1.out.1.below R2.out); clear Z1; clear h0 h1 h2 h3 HH; have QN := QH.out.below R2.out QH.out.lt; have h0 : w2.cell? ⟨W.heap.size, 0, none⟩ = some (.bool false) := QN.cell 0; have h1 : w2.cell? ⟨W.heap.size, 1, none⟩ = some (.slice none 0 0) := QN.cell 1; have h2 := QN.free 0; have h3 := QN.free 1; have HH : Hid (W.heap.size < w2.heap.size) := QN.lt; have QH := hide QN; clear QN; have mk2A : True := trivial)
      | (clear mk1; go_at_call 66; refine (C1.out _ (bal b1 (Obj.cells #[Value.bool false, Value.slice none 0 0] 91))).mono ?_; rintro e w2 ⟨⟨s2, o2, l2, c2, rfl, Z2⟩, R2, b2, q2_0, q2_1, q2_2, q2_3, q2_4, q2_5, q2_6, q2_7⟩; have Y1 := hide ((Z1.out.1.below ((Below.refl _ _).alloc (Nat.le_refl _) (Obj.cells #[Value.bool false, Value.slice none 0 0] 91))).below R2.out); clear Z1; have QN := (Blk.newAt w1 w1.heap.size rfl #[.bool false, .slice none 0 0] 91).below R2.out (Blk.newAt w1 w1.heap.size rfl #[.bool false, .slice none 0 0] 91).lt; have h0 : w2.cell? ⟨w1.heap.size, 0, none⟩ = some (.bool false) := QN.cell 0; have h1 : w2.cell? ⟨w1.heap.size, 1, none⟩ = some (.slice none 0 0) := QN.cell 1; have h2 := QN.free 0; have h3 := QN.free 1; have HH : Hid (w1.heap.size < w2.heap.size) := QN.lt; have QH := hide QN; clear QN; have mk2B : True := trivial)
      | (clear mk1; go_at_call 66; refine (C1.out _ b1).mono ?_; rintro e w2 ⟨⟨s2, o2, l2, c2, rfl, Z2⟩, R2, b2, q2_0, q2_1, q2_2, q2_3, q2_4, q2_5, q2_6, q2_7⟩; have Y1 := hide (Z1.out.1.below R2.out); clear Z1; have naw2 : ¬ w.heap.size = w2.heap.size := (by have := HL.out; have := b2.out.size; omega); have maw2 : ¬ w2.heap.size = w.heap.size := (by have := HL.out; have := b2.out.size; omega); have nbw2 : ¬ w.heap.size + 1 = w2.heap.size := (by have := HL.out; have := b2.out.size; omega); have mbw2 : ¬ w2.heap.size = w.heap.size + 1 := (by have := HL.out; have := b2.out.size; omega); have mk2 : True := trivial)
      | (clear mk2A; go_at_call 65; refine (C2.out _ _ _ _ _ _ _ _ _ b2 Y1 Z2.out.1).mono ?_; rintro e w3 ⟨⟨s3, o3, l3, c3, rfl, Z3⟩, R3, b3, q3_0, q3_1, q3_2, q3_3, q3_4, q3_5, q3_6, q3_7⟩; have LT : Hid (W.heap.size < w2.heap.size) := HH.out; clear h0 h1 h2 h3 HH; have QN := QH.out.below R3.out QH.out.lt; have h0 : w3.cell? ⟨W.heap.size, 0, none⟩ = some (.bool false) := QN.cell 0; have h1 : w3.cell? ⟨W.heap.size, 1, none⟩ = some (.slice none 0 0) := QN.cell 1; have h2 := QN.free 0; have h3 := QN.free 1; have HH : Hid (W.heap.size < w3.heap.size) := QN.lt; have QH := hide QN; clear QN; have mk3A : True := trivial)
      | (clear mk2B; go_at_call 65; refine (C2.out _ _ _ _ _ _ _ _ _ b2 Y1 Z2.out.1).mono ?_; rintro e w3 ⟨⟨s3, o3, l3, c3, rfl, Z3⟩, R3, b3, q3_0, q3_1, q3_2, q3_3, q3_4, q3_5, q3_6, q3_7⟩; have LT : Hid (w1.heap.size < w2.heap.size) := HH.out; clear h0 h1 h2 h3 HH; have QN := QH.out.below R3.out QH.out.lt; have h0 : w3.cell? ⟨w1.heap.size, 0, none⟩ = some (.bool false) := QN.cell 0; have h1 : w3.cell? ⟨w1.heap.size, 1, none⟩ = some (.slice none 0 0) := QN.cell 1; have h2 := QN.free 0; have h3 := QN.free 1; have HH : Hid (w1.heap.size < w3.heap.size) := QN.lt; have QH := hide QN; clear QN; have mk3B : True := trivial)
      | (clear mk2; go_at_call 65; refine (C2.out _ _ _ _ _ _ _ _ _ (bal b2 (Obj.cells #[Value.bool false, Value.slice none 0 0] 91)) (Y1.out.below ((Below.refl _ _).alloc (Nat.le_refl _) (Obj.cells #[Value.bool false, Value.slice none 0 0] 91))) (Z2.out.1.below ((Below.refl _ _).alloc (Nat.le_refl _) (Obj.cells #[Value.bool false, Value.slice none 0 0] 91)))).mono ?_; rintro e w3 ⟨⟨s3, o3, l3, c3, rfl, Z3⟩, R3, b3, q3_0, q3_1, q3_2, q3_3, q3_4, q3_5, q3_6, q3_7⟩; have QN := (Blk.newAt w2 w2.heap.size rfl #[.bool false, .slice none 0 0] 91).below R3.out (Blk.newAt w2 w2.heap.size rfl #[.bool false, .slice none 0 0] 91).lt; have h0 : w3.cell? ⟨w2.heap.size, 0, none⟩ = some (.bool false) := QN.cell 0; have h1 : w3.cell? ⟨w2.heap.size, 1, none⟩ = some (.slice none 0 0) := QN.cell 1; have h2 := QN.free 0; have h3 := QN.free 1; have HH : Hid (w2.heap.size < w3.heap.size) := QN.lt; have QH := hide QN; clear QN; have mk3C : True := trivial)
      | (clear mk2; go_at_call 65; refine (C2.out _ _ _ _ _ _ _ _ _ b2 Y1 Z2.out.1).mono ?_; rintro e w3 ⟨⟨s3, o3, l3, c3, rfl, Z3⟩, R3, b3, q3_0, q3_1, q3_2, q3_3, q3_4, q3_5, q3_6, q3_7⟩; have naw3 : ¬ w.heap.size = w3.heap.size := (by have := HL.out; have := b3.out.size; omega); have maw3 : ¬ w3.heap.size = w.heap.size := (by have := HL.out; have := b3.out.size; omega); have nbw3 : ¬ w.heap.size + 1 = w3.heap.size := (by have := HL.out; have := b3.out.size; omega); have mbw3 : ¬ w3.heap.size = w.heap.size + 1 := (by have := HL.out; have := b3.out.size; omega); have mk3D : True := trivial))
    all_goals (go_wp2_with fail; go_meet)
    all_goals (
      first
        | (clear mk3A; exact cut_old b3.out QH.out (Nat.le_refl _) Z3.out.1 Z3.out.2 LT.out)
        | (clear mk3B; exact cut_old b3.out QH.out b1.out.size Z3.out.1 Z3.out.2 LT.out)
        | (clear mk3C; exact cut_old b3.out QH.out b2.out.size Z3.out.1 Z3.out.2 (by simp))
        | (clear mk3D; exact cut_new b3.out Z3.out.1))
  case rest =>
    obtain ⟨⟨H, s, o, l, c, rfl, hq, hH, hz, hbc⟩⟩ := hcut
    have hgt := HL.out
    obtain ⟨G, hG⟩ : ∃ G, G = w.heap.size + 1 + 1 := ⟨_, rfl⟩
    have gn1 : ¬ G = w.heap.size := by omega
    have gn2 : ¬ w.heap.size = G := by omega
    have gn3 : ¬ G = w.heap.size + 1 := by omega
    have gn4 : ¬ w.heap.size + 1 = G := by omega
    have gn5 : ¬ G = H := by omega
    have gn6 : ¬ H = G := by omega
    have gle : w.heap.size ≤ G := by omega
    have HG := hide hG
    rw [← hG] at Br0
    clear hG hgt
    obtain ⟨hs, hn⟩ := hz.nt
    have Ba1 := hide (Ba0.out.below hbc Ba0.out.lt)
    have Bb1 := hide (Bb0.out.below hbc Bb0.out.lt)
    have Br1 := hide (Br0.out.below hbc Br0.out.lt)
    have BT := hide hq
    have HN := hide hn
    have HTC := hide (HTW.out.below hbc)
    have HB1 := hide (HB0.out.trans (hbc.mono HB0.out.size))
    obtain ⟨T, hT⟩ : ∃ T : ByteArray, T = ⟨(Lib.decDigits (za + zb).natAbs).toArray⟩ := ⟨_, rfl⟩
    have HTT := hide hT
    have hTb : bys T = Lib.decDigits (za + zb).natAbs := by rw [hT, bys_mk]
    have hTs : T.size = (Lib.decDigits (za + zb).natAbs).length := by rw [hT, size_mk0]
    have FG := fun (n : Bool) (X : World) => fin_any n T x X (by rw [hTs]; have := HSZ.out; omega) (by have := HX.out; have := HXB.out; omega) (by have := HX.out; have := HXB.out; omega) (by rw [hTb]; exact (dd_okT _).2.2)
    rw [hTb, dd_val] at FG
    have HS := hide hs
    obtain ⟨N, hN⟩ : ∃ N, N = (za + zb).natAbs := ⟨_, rfl⟩
    rw [← hN] at FG
    have FGH := hide FG
    have HNN := hide hN
    clear FG hs hn hz hq hbc hT hTb hTs hN Ba0 Bb0 Br0 HB0 HTW HSZ HXB CCA CCB SA SB HL HW ya0 ya1 ya2 ya3 yb0 yb1 yb2 yb3 yr0 yr1 yr2 yr3 hH
    cases s
    · cases na
      · have FI := hide (FGH.out false)
        rcases hTF : tellF false N x with ⟨⟨cc, nn, ll, ee⟩, er⟩
        rw [hTF] at FI
        unfold decErr decVal at FI
        simp only at FI
        obtain ⟨D, hD⟩ : ∃ D : ByteArray, D = ⟨ll.toArray⟩ := ⟨_, rfl⟩
        rw [← hD] at FI
        have EQ : Hid (Ending.returned (.tuple #[.agg #[.int .i64 (cc : Int), .bool nn, .string D, .int .i64 ee], .int .i64 er]) = Ending.returned (decErr (tellF (decide (za + zb < 0) || (false && nb)) (za + zb).natAbs x))) := by
          show _ = _
          rw [← HNN.out, ← HS.out, show tellF (false || (false && nb)) N x = (⟨cc, nn, ll, ee⟩, er) from hTF, hD]; rfl
        clear hTF hD FGH HS HNN
        have d0 : wc.cell? ⟨w.heap.size, 1, none⟩ = some (.bool false) := Ba1.out.cell 1
        have d1 : wc.cell? ⟨w.heap.size + 1, 1, none⟩ = some (.bool nb) := Bb1.out.cell 1
        have d2 : wc.cell? ⟨H, 0, none⟩ = some (.bool false) := BT.out.cell 0
        have d3 : wc.cell? ⟨H, 1, none⟩ = some (.slice o l c) := BT.out.cell 1
        have HC : Hid (∀ w', Below wc.heap.size wc w' → w'.cell? ⟨w.heap.size, 1, none⟩ = some (.bool false) ∧ w'.cell? ⟨w.heap.size + 1, 1, none⟩ = some (.bool nb) ∧ w'.cell? ⟨H, 0, none⟩ = some (.bool false) ∧ w'.cell? ⟨H, 1, none⟩ = some (.slice o l c) ∧ w'.cell? ⟨G, 0, none⟩ = some (.int .i64 0) ∧ w'.cell? ⟨G, 1, none⟩ = some (.bool false) ∧ w'.cell? ⟨G, 2, none⟩ = some (.string ⟨#[]⟩) ∧ w'.cell? ⟨G, 3, none⟩ = some (.int .i64 0) ∧ w'.frozen? ⟨G, 0, none⟩ = false ∧ w'.frozen? ⟨G, 1, none⟩ = false ∧ w'.frozen? ⟨G, 2, none⟩ = false ∧ w'.frozen? ⟨G, 3, none⟩ = false) := by
          intro w' hb
          have Ba1q := Ba1.out.below hb Ba1.out.lt
          have Bb1q := Bb1.out.below hb Bb1.out.lt
          have BTq := BT.out.below hb BT.out.lt
          have Br1q := Br1.out.below hb Br1.out.lt
          exact ⟨Ba1q.cell 1, Bb1q.cell 1, BTq.cell 0, BTq.cell 1, Br1q.cell 0, Br1q.cell 1, Br1q.cell 2, Br1q.cell 3, Br1q.free 0, Br1q.free 1, Br1q.free 2, Br1q.free 3⟩
        have b0 : Hid (Below wc.heap.size wc wc.drew) := bdrewD wc
        have C0 : Hid (∀ X, Hid (Below wc.heap.size wc X) → Calls Tryz.prog 51 #[.slice o l c] X fun e w' => e = .returned (.string T) ∧ Hid (Below wc.heap.size wc w') ∧ w'.cell? ⟨w.heap.size, 1, none⟩ = some (.bool false) ∧ w'.cell? ⟨w.heap.size + 1, 1, none⟩ = some (.bool nb) ∧ w'.cell? ⟨H, 0, none⟩ = some (.bool false) ∧ w'.cell? ⟨H, 1, none⟩ = some (.slice o l c) ∧ w'.cell? ⟨G, 0, none⟩ = some (.int .i64 0) ∧ w'.cell? ⟨G, 1, none⟩ = some (.bool false) ∧ w'.cell? ⟨G, 2, none⟩ = some (.string ⟨#[]⟩) ∧ w'.cell? ⟨G, 3, none⟩ = some (.int .i64 0) ∧ w'.frozen? ⟨G, 0, none⟩ = false ∧ w'.frozen? ⟨G, 1, none⟩ = false ∧ w'.frozen? ⟨G, 2, none⟩ = false ∧ w'.frozen? ⟨G, 3, none⟩ = false) := by
          intro X bX
          refine (nt_text _ _ X (HN.out.below bX.out) (HTC.out.below bX.out)).mono ?_
          rintro e w' ⟨rfl, hb⟩
          have bb := bX.out.trans (hb.mono bX.out.size)
          exact ⟨by rw [HTT.out], bb, HC.out _ bb⟩
        have C1 : Hid (∀ X, Hid (Below wc.heap.size wc X) → Calls Tryz.prog 50 #[.bool false, .string T, .int .i64 x] X fun e w' => e = .returned (.tuple #[.agg #[.int .i64 (cc : Int), .bool nn, .string D, .int .i64 ee], .int .i64 er]) ∧ Hid (Below wc.heap.size wc w') ∧ w'.cell? ⟨w.heap.size, 1, none⟩ = some (.bool false) ∧ w'.cell? ⟨w.heap.size + 1, 1, none⟩ = some (.bool nb) ∧ w'.cell? ⟨H, 0, none⟩ = some (.bool false) ∧ w'.cell? ⟨H, 1, none⟩ = some (.slice o l c) ∧ w'.cell? ⟨G, 0, none⟩ = some (.int .i64 0) ∧ w'.cell? ⟨G, 1, none⟩ = some (.bool false) ∧ w'.cell? ⟨G, 2, none⟩ = some (.string ⟨#[]⟩) ∧ w'.cell? ⟨G, 3, none⟩ = some (.int .i64 0) ∧ w'.frozen? ⟨G, 0, none⟩ = false ∧ w'.frozen? ⟨G, 1, none⟩ = false ∧ w'.frozen? ⟨G, 2, none⟩ = false ∧ w'.frozen? ⟨G, 3, none⟩ = false) := by
          intro X bX
          refine (FI.out X).mono ?_
          rintro e w' ⟨rfl, hb⟩
          have bb := bX.out.trans (hb.mono bX.out.size)
          exact ⟨rfl, bb, HC.out _ bb⟩
        have BRF : Hid (∀ w', Below wc.heap.size wc w' → Below w.heap.size w w' ∧ Blk w' G #[.int .i64 0, .bool false, .string ⟨#[]⟩, .int .i64 0] 23) := fun w' hb => ⟨HB1.out.trans (hb.mono HB1.out.size), Br1.out.below hb Br1.out.lt⟩
        clear HC HN HTC HTT FI Ba1 Bb1 BT Br1 HB1
        go_wp2_with fail
        simp only [← HG.out]
        refine wp_region_held_drew (S := (fun w' => w'.cell? ⟨w.heap.size, 1, none⟩ = some (.bool false) ∧ w'.cell? ⟨w.heap.size + 1, 1, none⟩ = some (.bool nb) ∧ w'.cell? ⟨H, 0, none⟩ = some (.bool false) ∧ w'.cell? ⟨H, 1, none⟩ = some (.slice o l c))) (by kernel_rfl) ?_ (fun hHeld => ?_)
        · (try dsimp only)
          go_keep
        refine wpAnyH_take (i := 0) (oi := Oper.mk (some 20) _ _ _ _ _) (v := .pointer (some ⟨H, 0, none⟩)) rfl (by kernel_rfl) (by kernel_rfl) (by kernel_rfl) (fun _ _ _ h => h) (Or.inl ⟨by rfl, ?_⟩) (by assumption) ?_
        · intro wX hSw
          (try dsimp only at hSw)
          go_simp
        simp only [Act.put, List.setIfInBounds_toArray, List.set_cons_succ, List.set_cons_zero]
        refine wpAnyH_take (i := 1) (oi := Oper.mk (some 21) _ _ _ _ _) (v := .bool false) rfl (by kernel_rfl) (by kernel_rfl) (by kernel_rfl) (fun _ _ _ h => h) (Or.inl ⟨by rfl, ?_⟩) (by assumption) ?_
        · intro wX hSw
          (try dsimp only at hSw)
          go_simp
        simp only [Act.put, List.setIfInBounds_toArray, List.set_cons_succ, List.set_cons_zero]
        refine wpAnyH_take (i := 2) (oi := Oper.mk (some 22) _ _ _ _ _) (v := .bool false) rfl (by kernel_rfl) (by kernel_rfl) (by kernel_rfl) (fun _ _ _ h => h) (Or.inl ⟨by rfl, ?_⟩) (by assumption) ?_
        · intro wX hSw
          (try dsimp only at hSw)
          go_simp
        simp only [Act.put, List.setIfInBounds_toArray, List.set_cons_succ, List.set_cons_zero]
        refine wpAnyH_take (i := 3) (oi := Oper.mk (some 23) _ _ _ _ _) (v := .pointer (some ⟨w.heap.size, 1, none⟩)) rfl (by kernel_rfl) (by kernel_rfl) (by kernel_rfl) (fun _ _ _ h => h) (Or.inl ⟨by rfl, ?_⟩) (by assumption) ?_
        · intro wX hSw
          (try dsimp only at hSw)
          go_simp
        simp only [Act.put, List.setIfInBounds_toArray, List.set_cons_succ, List.set_cons_zero]
        refine wpAnyH_take (i := 4) (oi := Oper.mk (some 24) _ _ _ _ _) (v := .bool false) rfl (by kernel_rfl) (by kernel_rfl) (by kernel_rfl) (fun _ _ _ h => h) (Or.inl ⟨by rfl, ?_⟩) (by assumption) ?_
        · intro wX hSw
          (try dsimp only at hSw)
          go_simp
        simp only [Act.put, List.setIfInBounds_toArray, List.set_cons_succ, List.set_cons_zero]
        refine wpAnyH_take (i := 5) (oi := Oper.mk (some 25) _ _ _ _ _) (v := .bool false) rfl (by kernel_rfl) (by kernel_rfl) (by kernel_rfl) (fun _ _ _ h => h) (Or.inl ⟨by rfl, ?_⟩) (by assumption) ?_
        · intro wX hSw
          (try dsimp only at hSw)
          go_simp
        simp only [Act.put, List.setIfInBounds_toArray, List.set_cons_succ, List.set_cons_zero]
        refine wpAnyH_take (i := 6) (oi := Oper.mk (some 26) _ _ _ _ _) (v := undef) rfl (by kernel_rfl) (by kernel_rfl) (by kernel_rfl) (fun _ _ _ h => h) (Or.inr ⟨by rfl, rfl⟩) (by assumption) ?_
        simp only [Act.put, List.setIfInBounds_toArray, List.set_cons_succ, List.set_cons_zero]
        refine wpAnyH_take (i := 7) (oi := Oper.mk (some 27) _ _ _ _ _) (v := undef) rfl (by kernel_rfl) (by kernel_rfl) (by kernel_rfl) (fun _ _ _ h => h) (Or.inr ⟨by rfl, rfl⟩) (by assumption) ?_
        simp only [Act.put, List.setIfInBounds_toArray, List.set_cons_succ, List.set_cons_zero]
        refine wpAnyH_take (i := 8) (oi := Oper.mk (some 28) _ _ _ _ _) (v := .bool false) rfl (by kernel_rfl) (by kernel_rfl) (by kernel_rfl) (fun _ _ _ h => h) (Or.inl ⟨by rfl, ?_⟩) (by assumption) ?_
        · intro wX hSw
          (try dsimp only at hSw)
          go_simp
        simp only [Act.put, List.setIfInBounds_toArray, List.set_cons_succ, List.set_cons_zero]
        refine wpAnyH_take (i := 9) (oi := Oper.mk (some 29) _ _ _ _ _) (v := .bool false) rfl (by kernel_rfl) (by kernel_rfl) (by kernel_rfl) (fun _ _ _ h => h) (Or.inl ⟨by rfl, ?_⟩) (by assumption) ?_
        · intro wX hSw
          (try dsimp only at hSw)
          go_simp
        simp only [Act.put, List.setIfInBounds_toArray, List.set_cons_succ, List.set_cons_zero]
        refine wpAnyH_take (i := 10) (oi := Oper.mk (some 30) _ _ _ _ _) (v := .pointer (some ⟨H, 1, none⟩)) rfl (by kernel_rfl) (by kernel_rfl) (by kernel_rfl) (fun _ _ _ h => h) (Or.inl ⟨by rfl, ?_⟩) (by assumption) ?_
        · intro wX hSw
          (try dsimp only at hSw)
          go_simp
        simp only [Act.put, List.setIfInBounds_toArray, List.set_cons_succ, List.set_cons_zero]
        refine wpAnyH_take (i := 11) (oi := Oper.mk (some 31) _ _ _ _ _) (v := .slice o l c) rfl (by kernel_rfl) (by kernel_rfl) (by kernel_rfl) (fun _ _ _ h => h) (Or.inl ⟨by rfl, ?_⟩) (by assumption) ?_
        · intro wX hSw
          (try dsimp only at hSw)
          go_simp
        simp only [Act.put, List.setIfInBounds_toArray, List.set_cons_succ, List.set_cons_zero]
        refine wpAnyH_take (i := 13) (oi := Oper.mk (some 33) _ _ _ _ _) (v := .int .i64 x) rfl (by kernel_rfl) (by kernel_rfl) (by kernel_rfl) (fun _ _ _ h => h) (Or.inl ⟨by rfl, ?_⟩) (by assumption) ?_
        · intro wX hSw
          (try dsimp only at hSw)
          go_simp
        simp only [Act.put, List.setIfInBounds_toArray, List.set_cons_succ, List.set_cons_zero]
        refine wpAnyH_ready (rs := [12]) (by kernel_rfl) (by simp) ?_
        refine AllReadyH.cons (o := Oper.mk (some 32) _ _ _ _ _) rfl (fun K hK => ?_) AllReadyH.nil
        go_simp
        refine (C0.out _ b0).mono ?_
        rintro e w1 ⟨rfl, b1, q0_0, q0_1, q0_2, q0_3, q0_4, q0_5, q0_6, q0_7, q0_8, q0_9, q0_10, q0_11⟩
        try simp only []
        refine hK.out _ _ ?_ (fun hHeld => ?_)
        · (try dsimp only)
          go_keep
        clear hK K
        refine wpAnyH_ready (rs := [14]) (by kernel_rfl) (by simp) ?_
        refine AllReadyH.cons (o := Oper.mk (some 34) _ _ _ _ _) rfl (fun K hK => ?_) AllReadyH.nil
        go_simp
        refine (C1.out _ b1).mono ?_
        rintro e w2 ⟨rfl, b2, q1_0, q1_1, q1_2, q1_3, q1_4, q1_5, q1_6, q1_7, q1_8, q1_9, q1_10, q1_11⟩
        try simp only []
        refine hK.out _ _ ?_ (fun hHeld => ?_)
        · (try dsimp only)
          go_keep
        clear hK K
        refine wpAnyH_take (i := 15) (oi := Oper.mk (some 35) _ _ _ _ _) (v := .agg #[.int .i64 (cc : Int), .bool nn, .string D, .int .i64 ee]) rfl (by kernel_rfl) (by kernel_rfl) (by kernel_rfl) (fun _ _ _ h => h) (Or.inl ⟨by rfl, ?_⟩) (by assumption) ?_
        · intro wX hSw
          (try dsimp only at hSw)
          go_simp
        simp only [Act.put, List.setIfInBounds_toArray, List.set_cons_succ, List.set_cons_zero]
        refine wpAnyH_take (i := 16) (oi := Oper.mk (some 36) _ _ _ _ _) (v := .int .i64 er) rfl (by kernel_rfl) (by kernel_rfl) (by kernel_rfl) (fun _ _ _ h => h) (Or.inl ⟨by rfl, ?_⟩) (by assumption) ?_
        · intro wX hSw
          (try dsimp only at hSw)
          go_simp
        simp only [Act.put, List.setIfInBounds_toArray, List.set_cons_succ, List.set_cons_zero]
        refine wpAnyH_ready (rs := [17]) (by kernel_rfl) (by simp) ?_
        refine AllReadyH.cons (o := Oper.mk none _ _ _ _ _) rfl (fun K hK => ?_) AllReadyH.nil
        go_simp
        refine hK.out _ _ ?_ (fun hHeld => ?_)
        · (try dsimp only)
          go_keep
        clear hK K
        refine wpAnyH_take (i := 18) (oi := Oper.mk (some 5) _ _ _ _ _) (v := .int .i64 er) rfl (by kernel_rfl) (by kernel_rfl) (by kernel_rfl) (fun _ _ _ h => h) (Or.inl ⟨by rfl, ?_⟩) (by assumption) ?_
        · intro wX hSw
          (try dsimp only at hSw)
          go_simp
        simp only [Act.put, List.setIfInBounds_toArray, List.set_cons_succ, List.set_cons_zero]
        refine wpAnyH_done (by kernel_rfl) ?_ _
        obtain ⟨hbel, hblk⟩ := BRF.out _ b2.out
        have HBL := hide hbel
        have QR := hide hblk
        clear hbel hblk BRF b0 b1 b2 C0 C1
        repeat (first | go_values | go_skip | go_guarded | go_step | go_upon)
        refine bodyPost_ret (results_dec2 rfl _ _ _ _ _ _ _ rfl (QR.out.put4 _ _ _ _)) rfl ?_
        exact ⟨EQ.out, below_put4 HBL.out gle _ _ _ _⟩
      · have FI := hide (FGH.out nb)
        rcases hTF : tellF nb N x with ⟨⟨cc, nn, ll, ee⟩, er⟩
        rw [hTF] at FI
        unfold decErr decVal at FI
        simp only at FI
        obtain ⟨D, hD⟩ : ∃ D : ByteArray, D = ⟨ll.toArray⟩ := ⟨_, rfl⟩
        rw [← hD] at FI
        have EQ : Hid (Ending.returned (.tuple #[.agg #[.int .i64 (cc : Int), .bool nn, .string D, .int .i64 ee], .int .i64 er]) = Ending.returned (decErr (tellF (decide (za + zb < 0) || (true && nb)) (za + zb).natAbs x))) := by
          show _ = _
          rw [← HNN.out, ← HS.out, show tellF (false || (true && nb)) N x = (⟨cc, nn, ll, ee⟩, er) from hTF, hD]; rfl
        clear hTF hD FGH HS HNN
        have d0 : wc.cell? ⟨w.heap.size, 1, none⟩ = some (.bool true) := Ba1.out.cell 1
        have d1 : wc.cell? ⟨w.heap.size + 1, 1, none⟩ = some (.bool nb) := Bb1.out.cell 1
        have d2 : wc.cell? ⟨H, 0, none⟩ = some (.bool false) := BT.out.cell 0
        have d3 : wc.cell? ⟨H, 1, none⟩ = some (.slice o l c) := BT.out.cell 1
        have HC : Hid (∀ w', Below wc.heap.size wc w' → w'.cell? ⟨w.heap.size, 1, none⟩ = some (.bool true) ∧ w'.cell? ⟨w.heap.size + 1, 1, none⟩ = some (.bool nb) ∧ w'.cell? ⟨H, 0, none⟩ = some (.bool false) ∧ w'.cell? ⟨H, 1, none⟩ = some (.slice o l c) ∧ w'.cell? ⟨G, 0, none⟩ = some (.int .i64 0) ∧ w'.cell? ⟨G, 1, none⟩ = some (.bool false) ∧ w'.cell? ⟨G, 2, none⟩ = some (.string ⟨#[]⟩) ∧ w'.cell? ⟨G, 3, none⟩ = some (.int .i64 0) ∧ w'.frozen? ⟨G, 0, none⟩ = false ∧ w'.frozen? ⟨G, 1, none⟩ = false ∧ w'.frozen? ⟨G, 2, none⟩ = false ∧ w'.frozen? ⟨G, 3, none⟩ = false) := by
          intro w' hb
          have Ba1q := Ba1.out.below hb Ba1.out.lt
          have Bb1q := Bb1.out.below hb Bb1.out.lt
          have BTq := BT.out.below hb BT.out.lt
          have Br1q := Br1.out.below hb Br1.out.lt
          exact ⟨Ba1q.cell 1, Bb1q.cell 1, BTq.cell 0, BTq.cell 1, Br1q.cell 0, Br1q.cell 1, Br1q.cell 2, Br1q.cell 3, Br1q.free 0, Br1q.free 1, Br1q.free 2, Br1q.free 3⟩
        have b0 : Hid (Below wc.heap.size wc wc.drew) := bdrewD wc
        have C0 : Hid (∀ X, Hid (Below wc.heap.size wc X) → Calls Tryz.prog 51 #[.slice o l c] X fun e w' => e = .returned (.string T) ∧ Hid (Below wc.heap.size wc w') ∧ w'.cell? ⟨w.heap.size, 1, none⟩ = some (.bool true) ∧ w'.cell? ⟨w.heap.size + 1, 1, none⟩ = some (.bool nb) ∧ w'.cell? ⟨H, 0, none⟩ = some (.bool false) ∧ w'.cell? ⟨H, 1, none⟩ = some (.slice o l c) ∧ w'.cell? ⟨G, 0, none⟩ = some (.int .i64 0) ∧ w'.cell? ⟨G, 1, none⟩ = some (.bool false) ∧ w'.cell? ⟨G, 2, none⟩ = some (.string ⟨#[]⟩) ∧ w'.cell? ⟨G, 3, none⟩ = some (.int .i64 0) ∧ w'.frozen? ⟨G, 0, none⟩ = false ∧ w'.frozen? ⟨G, 1, none⟩ = false ∧ w'.frozen? ⟨G, 2, none⟩ = false ∧ w'.frozen? ⟨G, 3, none⟩ = false) := by
          intro X bX
          refine (nt_text _ _ X (HN.out.below bX.out) (HTC.out.below bX.out)).mono ?_
          rintro e w' ⟨rfl, hb⟩
          have bb := bX.out.trans (hb.mono bX.out.size)
          exact ⟨by rw [HTT.out], bb, HC.out _ bb⟩
        have C1 : Hid (∀ X, Hid (Below wc.heap.size wc X) → Calls Tryz.prog 50 #[.bool nb, .string T, .int .i64 x] X fun e w' => e = .returned (.tuple #[.agg #[.int .i64 (cc : Int), .bool nn, .string D, .int .i64 ee], .int .i64 er]) ∧ Hid (Below wc.heap.size wc w') ∧ w'.cell? ⟨w.heap.size, 1, none⟩ = some (.bool true) ∧ w'.cell? ⟨w.heap.size + 1, 1, none⟩ = some (.bool nb) ∧ w'.cell? ⟨H, 0, none⟩ = some (.bool false) ∧ w'.cell? ⟨H, 1, none⟩ = some (.slice o l c) ∧ w'.cell? ⟨G, 0, none⟩ = some (.int .i64 0) ∧ w'.cell? ⟨G, 1, none⟩ = some (.bool false) ∧ w'.cell? ⟨G, 2, none⟩ = some (.string ⟨#[]⟩) ∧ w'.cell? ⟨G, 3, none⟩ = some (.int .i64 0) ∧ w'.frozen? ⟨G, 0, none⟩ = false ∧ w'.frozen? ⟨G, 1, none⟩ = false ∧ w'.frozen? ⟨G, 2, none⟩ = false ∧ w'.frozen? ⟨G, 3, none⟩ = false) := by
          intro X bX
          refine (FI.out X).mono ?_
          rintro e w' ⟨rfl, hb⟩
          have bb := bX.out.trans (hb.mono bX.out.size)
          exact ⟨rfl, bb, HC.out _ bb⟩
        have BRF : Hid (∀ w', Below wc.heap.size wc w' → Below w.heap.size w w' ∧ Blk w' G #[.int .i64 0, .bool false, .string ⟨#[]⟩, .int .i64 0] 23) := fun w' hb => ⟨HB1.out.trans (hb.mono HB1.out.size), Br1.out.below hb Br1.out.lt⟩
        clear HC HN HTC HTT FI Ba1 Bb1 BT Br1 HB1
        go_wp2_with fail
        simp only [← HG.out]
        have mk0 : True := trivial
        go_region_held3 (fun w' => w'.cell? ⟨w.heap.size, 1, none⟩ = some (.bool true) ∧ w'.cell? ⟨w.heap.size + 1, 1, none⟩ = some (.bool nb) ∧ w'.cell? ⟨H, 0, none⟩ = some (.bool false) ∧ w'.cell? ⟨H, 1, none⟩ = some (.slice o l c)) (go_keep) (first
      | (clear mk0; go_at_call 51; refine (C0.out _ b0).mono ?_; rintro e w1 ⟨rfl, b1, q0_0, q0_1, q0_2, q0_3, q0_4, q0_5, q0_6, q0_7, q0_8, q0_9, q0_10, q0_11⟩; have mk1 : True := trivial)
      | (clear mk1; go_at_call 50; refine (C1.out _ b1).mono ?_; rintro e w2 ⟨rfl, b2, q1_0, q1_1, q1_2, q1_3, q1_4, q1_5, q1_6, q1_7, q1_8, q1_9, q1_10, q1_11⟩; have mk2 : True := trivial))
        obtain ⟨hbel, hblk⟩ := BRF.out _ b2.out
        have HBL := hide hbel
        have QR := hide hblk
        clear hbel hblk BRF b0 b1 b2 C0 C1
        repeat (first | go_values | go_skip | go_guarded | go_step | go_upon)
        refine bodyPost_ret (results_dec2 rfl _ _ _ _ _ _ _ rfl (QR.out.put4 _ _ _ _)) rfl ?_
        exact ⟨EQ.out, below_put4 HBL.out gle _ _ _ _⟩
    · have FI := hide (FGH.out true)
      rcases hTF : tellF true N x with ⟨⟨cc, nn, ll, ee⟩, er⟩
      rw [hTF] at FI
      unfold decErr decVal at FI
      simp only at FI
      obtain ⟨D, hD⟩ : ∃ D : ByteArray, D = ⟨ll.toArray⟩ := ⟨_, rfl⟩
      rw [← hD] at FI
      have EQ : Hid (Ending.returned (.tuple #[.agg #[.int .i64 (cc : Int), .bool nn, .string D, .int .i64 ee], .int .i64 er]) = Ending.returned (decErr (tellF (decide (za + zb < 0) || (na && nb)) (za + zb).natAbs x))) := by
        show _ = _
        rw [← HNN.out, ← HS.out, show tellF (true || (na && nb)) N x = (⟨cc, nn, ll, ee⟩, er) from hTF, hD]; rfl
      clear hTF hD FGH HS HNN
      have d0 : wc.cell? ⟨w.heap.size, 1, none⟩ = some (.bool na) := Ba1.out.cell 1
      have d1 : wc.cell? ⟨w.heap.size + 1, 1, none⟩ = some (.bool nb) := Bb1.out.cell 1
      have d2 : wc.cell? ⟨H, 0, none⟩ = some (.bool true) := BT.out.cell 0
      have d3 : wc.cell? ⟨H, 1, none⟩ = some (.slice o l c) := BT.out.cell 1
      have HC : Hid (∀ w', Below wc.heap.size wc w' → w'.cell? ⟨w.heap.size, 1, none⟩ = some (.bool na) ∧ w'.cell? ⟨w.heap.size + 1, 1, none⟩ = some (.bool nb) ∧ w'.cell? ⟨H, 0, none⟩ = some (.bool true) ∧ w'.cell? ⟨H, 1, none⟩ = some (.slice o l c) ∧ w'.cell? ⟨G, 0, none⟩ = some (.int .i64 0) ∧ w'.cell? ⟨G, 1, none⟩ = some (.bool false) ∧ w'.cell? ⟨G, 2, none⟩ = some (.string ⟨#[]⟩) ∧ w'.cell? ⟨G, 3, none⟩ = some (.int .i64 0) ∧ w'.frozen? ⟨G, 0, none⟩ = false ∧ w'.frozen? ⟨G, 1, none⟩ = false ∧ w'.frozen? ⟨G, 2, none⟩ = false ∧ w'.frozen? ⟨G, 3, none⟩ = false) := by
        intro w' hb
        have Ba1q := Ba1.out.below hb Ba1.out.lt
        have Bb1q := Bb1.out.below hb Bb1.out.lt
        have BTq := BT.out.below hb BT.out.lt
        have Br1q := Br1.out.below hb Br1.out.lt
        exact ⟨Ba1q.cell 1, Bb1q.cell 1, BTq.cell 0, BTq.cell 1, Br1q.cell 0, Br1q.cell 1, Br1q.cell 2, Br1q.cell 3, Br1q.free 0, Br1q.free 1, Br1q.free 2, Br1q.free 3⟩
      have b0 : Hid (Below wc.heap.size wc wc.drew) := bdrewD wc
      have C0 : Hid (∀ X, Hid (Below wc.heap.size wc X) → Calls Tryz.prog 51 #[.slice o l c] X fun e w' => e = .returned (.string T) ∧ Hid (Below wc.heap.size wc w') ∧ w'.cell? ⟨w.heap.size, 1, none⟩ = some (.bool na) ∧ w'.cell? ⟨w.heap.size + 1, 1, none⟩ = some (.bool nb) ∧ w'.cell? ⟨H, 0, none⟩ = some (.bool true) ∧ w'.cell? ⟨H, 1, none⟩ = some (.slice o l c) ∧ w'.cell? ⟨G, 0, none⟩ = some (.int .i64 0) ∧ w'.cell? ⟨G, 1, none⟩ = some (.bool false) ∧ w'.cell? ⟨G, 2, none⟩ = some (.string ⟨#[]⟩) ∧ w'.cell? ⟨G, 3, none⟩ = some (.int .i64 0) ∧ w'.frozen? ⟨G, 0, none⟩ = false ∧ w'.frozen? ⟨G, 1, none⟩ = false ∧ w'.frozen? ⟨G, 2, none⟩ = false ∧ w'.frozen? ⟨G, 3, none⟩ = false) := by
        intro X bX
        refine (nt_text _ _ X (HN.out.below bX.out) (HTC.out.below bX.out)).mono ?_
        rintro e w' ⟨rfl, hb⟩
        have bb := bX.out.trans (hb.mono bX.out.size)
        exact ⟨by rw [HTT.out], bb, HC.out _ bb⟩
      have C1 : Hid (∀ X, Hid (Below wc.heap.size wc X) → Calls Tryz.prog 50 #[.bool true, .string T, .int .i64 x] X fun e w' => e = .returned (.tuple #[.agg #[.int .i64 (cc : Int), .bool nn, .string D, .int .i64 ee], .int .i64 er]) ∧ Hid (Below wc.heap.size wc w') ∧ w'.cell? ⟨w.heap.size, 1, none⟩ = some (.bool na) ∧ w'.cell? ⟨w.heap.size + 1, 1, none⟩ = some (.bool nb) ∧ w'.cell? ⟨H, 0, none⟩ = some (.bool true) ∧ w'.cell? ⟨H, 1, none⟩ = some (.slice o l c) ∧ w'.cell? ⟨G, 0, none⟩ = some (.int .i64 0) ∧ w'.cell? ⟨G, 1, none⟩ = some (.bool false) ∧ w'.cell? ⟨G, 2, none⟩ = some (.string ⟨#[]⟩) ∧ w'.cell? ⟨G, 3, none⟩ = some (.int .i64 0) ∧ w'.frozen? ⟨G, 0, none⟩ = false ∧ w'.frozen? ⟨G, 1, none⟩ = false ∧ w'.frozen? ⟨G, 2, none⟩ = false ∧ w'.frozen? ⟨G, 3, none⟩ = false) := by
        intro X bX
        refine (FI.out X).mono ?_
        rintro e w' ⟨rfl, hb⟩
        have bb := bX.out.trans (hb.mono bX.out.size)
        exact ⟨rfl, bb, HC.out _ bb⟩
      have BRF : Hid (∀ w', Below wc.heap.size wc w' → Below w.heap.size w w' ∧ Blk w' G #[.int .i64 0, .bool false, .string ⟨#[]⟩, .int .i64 0] 23) := fun w' hb => ⟨HB1.out.trans (hb.mono HB1.out.size), Br1.out.below hb Br1.out.lt⟩
      clear HC HN HTC HTT FI Ba1 Bb1 BT Br1 HB1
      go_wp2_with fail
      simp only [← HG.out]
      refine wp_region_held_drew (S := (fun w' => w'.cell? ⟨w.heap.size, 1, none⟩ = some (.bool na) ∧ w'.cell? ⟨w.heap.size + 1, 1, none⟩ = some (.bool nb) ∧ w'.cell? ⟨H, 0, none⟩ = some (.bool true) ∧ w'.cell? ⟨H, 1, none⟩ = some (.slice o l c))) (by kernel_rfl) ?_ (fun hHeld => ?_)
      · (try dsimp only)
        go_keep
      refine wpAnyH_take (i := 0) (oi := Oper.mk (some 20) _ _ _ _ _) (v := .pointer (some ⟨H, 0, none⟩)) rfl (by kernel_rfl) (by kernel_rfl) (by kernel_rfl) (fun _ _ _ h => h) (Or.inl ⟨by rfl, ?_⟩) (by assumption) ?_
      · intro wX hSw
        (try dsimp only at hSw)
        go_simp
      simp only [Act.put, List.setIfInBounds_toArray, List.set_cons_succ, List.set_cons_zero]
      refine wpAnyH_take (i := 1) (oi := Oper.mk (some 21) _ _ _ _ _) (v := .bool true) rfl (by kernel_rfl) (by kernel_rfl) (by kernel_rfl) (fun _ _ _ h => h) (Or.inl ⟨by rfl, ?_⟩) (by assumption) ?_
      · intro wX hSw
        (try dsimp only at hSw)
        go_simp
      simp only [Act.put, List.setIfInBounds_toArray, List.set_cons_succ, List.set_cons_zero]
      refine wpAnyH_take (i := 2) (oi := Oper.mk (some 22) _ _ _ _ _) (v := .bool true) rfl (by kernel_rfl) (by kernel_rfl) (by kernel_rfl) (fun _ _ _ h => h) (Or.inl ⟨by rfl, ?_⟩) (by assumption) ?_
      · intro wX hSw
        (try dsimp only at hSw)
        go_simp
      simp only [Act.put, List.setIfInBounds_toArray, List.set_cons_succ, List.set_cons_zero]
      refine wpAnyH_take (i := 3) (oi := Oper.mk (some 23) _ _ _ _ _) (v := undef) rfl (by kernel_rfl) (by kernel_rfl) (by kernel_rfl) (fun _ _ _ h => h) (Or.inr ⟨by rfl, rfl⟩) (by assumption) ?_
      simp only [Act.put, List.setIfInBounds_toArray, List.set_cons_succ, List.set_cons_zero]
      refine wpAnyH_take (i := 4) (oi := Oper.mk (some 24) _ _ _ _ _) (v := undef) rfl (by kernel_rfl) (by kernel_rfl) (by kernel_rfl) (fun _ _ _ h => h) (Or.inr ⟨by rfl, rfl⟩) (by assumption) ?_
      simp only [Act.put, List.setIfInBounds_toArray, List.set_cons_succ, List.set_cons_zero]
      refine wpAnyH_take (i := 5) (oi := Oper.mk (some 25) _ _ _ _ _) (v := undef) rfl (by kernel_rfl) (by kernel_rfl) (by kernel_rfl) (fun _ _ _ h => h) (Or.inr ⟨by rfl, rfl⟩) (by assumption) ?_
      simp only [Act.put, List.setIfInBounds_toArray, List.set_cons_succ, List.set_cons_zero]
      refine wpAnyH_take (i := 6) (oi := Oper.mk (some 26) _ _ _ _ _) (v := undef) rfl (by kernel_rfl) (by kernel_rfl) (by kernel_rfl) (fun _ _ _ h => h) (Or.inr ⟨by rfl, rfl⟩) (by assumption) ?_
      simp only [Act.put, List.setIfInBounds_toArray, List.set_cons_succ, List.set_cons_zero]
      refine wpAnyH_take (i := 7) (oi := Oper.mk (some 27) _ _ _ _ _) (v := undef) rfl (by kernel_rfl) (by kernel_rfl) (by kernel_rfl) (fun _ _ _ h => h) (Or.inr ⟨by rfl, rfl⟩) (by assumption) ?_
      simp only [Act.put, List.setIfInBounds_toArray, List.set_cons_succ, List.set_cons_zero]
      refine wpAnyH_take (i := 8) (oi := Oper.mk (some 28) _ _ _ _ _) (v := undef) rfl (by kernel_rfl) (by kernel_rfl) (by kernel_rfl) (fun _ _ _ h => h) (Or.inr ⟨by rfl, rfl⟩) (by assumption) ?_
      simp only [Act.put, List.setIfInBounds_toArray, List.set_cons_succ, List.set_cons_zero]
      refine wpAnyH_take (i := 9) (oi := Oper.mk (some 29) _ _ _ _ _) (v := .bool true) rfl (by kernel_rfl) (by kernel_rfl) (by kernel_rfl) (fun _ _ _ h => h) (Or.inl ⟨by rfl, ?_⟩) (by assumption) ?_
      · intro wX hSw
        (try dsimp only at hSw)
        go_simp
      simp only [Act.put, List.setIfInBounds_toArray, List.set_cons_succ, List.set_cons_zero]
      refine wpAnyH_take (i := 10) (oi := Oper.mk (some 30) _ _ _ _ _) (v := .pointer (some ⟨H, 1, none⟩)) rfl (by kernel_rfl) (by kernel_rfl) (by kernel_rfl) (fun _ _ _ h => h) (Or.inl ⟨by rfl, ?_⟩) (by assumption) ?_
      · intro wX hSw
        (try dsimp only at hSw)
        go_simp
      simp only [Act.put, List.setIfInBounds_toArray, List.set_cons_succ, List.set_cons_zero]
      refine wpAnyH_take (i := 11) (oi := Oper.mk (some 31) _ _ _ _ _) (v := .slice o l c) rfl (by kernel_rfl) (by kernel_rfl) (by kernel_rfl) (fun _ _ _ h => h) (Or.inl ⟨by rfl, ?_⟩) (by assumption) ?_
      · intro wX hSw
        (try dsimp only at hSw)
        go_simp
      simp only [Act.put, List.setIfInBounds_toArray, List.set_cons_succ, List.set_cons_zero]
      refine wpAnyH_take (i := 13) (oi := Oper.mk (some 33) _ _ _ _ _) (v := .int .i64 x) rfl (by kernel_rfl) (by kernel_rfl) (by kernel_rfl) (fun _ _ _ h => h) (Or.inl ⟨by rfl, ?_⟩) (by assumption) ?_
      · intro wX hSw
        (try dsimp only at hSw)
        go_simp
      simp only [Act.put, List.setIfInBounds_toArray, List.set_cons_succ, List.set_cons_zero]
      refine wpAnyH_ready (rs := [12]) (by kernel_rfl) (by simp) ?_
      refine AllReadyH.cons (o := Oper.mk (some 32) _ _ _ _ _) rfl (fun K hK => ?_) AllReadyH.nil
      go_simp
      refine (C0.out _ b0).mono ?_
      rintro e w1 ⟨rfl, b1, q0_0, q0_1, q0_2, q0_3, q0_4, q0_5, q0_6, q0_7, q0_8, q0_9, q0_10, q0_11⟩
      try simp only []
      refine hK.out _ _ ?_ (fun hHeld => ?_)
      · (try dsimp only)
        go_keep
      clear hK K
      refine wpAnyH_ready (rs := [14]) (by kernel_rfl) (by simp) ?_
      refine AllReadyH.cons (o := Oper.mk (some 34) _ _ _ _ _) rfl (fun K hK => ?_) AllReadyH.nil
      go_simp
      refine (C1.out _ b1).mono ?_
      rintro e w2 ⟨rfl, b2, q1_0, q1_1, q1_2, q1_3, q1_4, q1_5, q1_6, q1_7, q1_8, q1_9, q1_10, q1_11⟩
      try simp only []
      refine hK.out _ _ ?_ (fun hHeld => ?_)
      · (try dsimp only)
        go_keep
      clear hK K
      refine wpAnyH_take (i := 15) (oi := Oper.mk (some 35) _ _ _ _ _) (v := .agg #[.int .i64 (cc : Int), .bool nn, .string D, .int .i64 ee]) rfl (by kernel_rfl) (by kernel_rfl) (by kernel_rfl) (fun _ _ _ h => h) (Or.inl ⟨by rfl, ?_⟩) (by assumption) ?_
      · intro wX hSw
        (try dsimp only at hSw)
        go_simp
      simp only [Act.put, List.setIfInBounds_toArray, List.set_cons_succ, List.set_cons_zero]
      refine wpAnyH_take (i := 16) (oi := Oper.mk (some 36) _ _ _ _ _) (v := .int .i64 er) rfl (by kernel_rfl) (by kernel_rfl) (by kernel_rfl) (fun _ _ _ h => h) (Or.inl ⟨by rfl, ?_⟩) (by assumption) ?_
      · intro wX hSw
        (try dsimp only at hSw)
        go_simp
      simp only [Act.put, List.setIfInBounds_toArray, List.set_cons_succ, List.set_cons_zero]
      refine wpAnyH_ready (rs := [17]) (by kernel_rfl) (by simp) ?_
      refine AllReadyH.cons (o := Oper.mk none _ _ _ _ _) rfl (fun K hK => ?_) AllReadyH.nil
      go_simp
      refine hK.out _ _ ?_ (fun hHeld => ?_)
      · (try dsimp only)
        go_keep
      clear hK K
      refine wpAnyH_take (i := 18) (oi := Oper.mk (some 5) _ _ _ _ _) (v := .int .i64 er) rfl (by kernel_rfl) (by kernel_rfl) (by kernel_rfl) (fun _ _ _ h => h) (Or.inl ⟨by rfl, ?_⟩) (by assumption) ?_
      · intro wX hSw
        (try dsimp only at hSw)
        go_simp
      simp only [Act.put, List.setIfInBounds_toArray, List.set_cons_succ, List.set_cons_zero]
      refine wpAnyH_done (by kernel_rfl) ?_ _
      obtain ⟨hbel, hblk⟩ := BRF.out _ b2.out
      have HBL := hide hbel
      have QR := hide hblk
      clear hbel hblk BRF b0 b1 b2 C0 C1
      repeat (first | go_values | go_skip | go_guarded | go_step | go_upon)
      refine bodyPost_ret (results_dec2 rfl _ _ _ _ _ _ _ rfl (QR.out.put4 _ _ _ _)) rfl ?_
      exact ⟨EQ.out, below_put4 HBL.out gle _ _ _ _⟩

end Go.Proofs.YtcclbcnmkaobpaaGreatDoor

namespace Go.Proofs.YtcclbcnmkaobpaaGreatDoor
open Go.RowKit

end Go.Proofs.YtcclbcnmkaobpaaGreatDoor

namespace Go.Proofs.YtcclbcnmkaobpaaGreatDoor
open Go.RowKit

set_option maxRecDepth 100000 in
set_option maxHeartbeats 2000000 in
theorem Add_ff (na : Bool) (ta : ByteArray) (ea : Int) (nb : Bool) (tb : ByteArray) (eb : Int) (w : World) (ha : MayD  0 na (bys ta) ( ea)) (hb0 : MayD  0 nb (bys tb) ( eb)) (r : DecT × Int) (htab : Tab w) (su : ∀ W, Tab W → Calls Tryz.prog 38 #[.agg #[.int .i64 0, .bool na, .string ta, .int .i64 ea], .agg #[.int .i64 0, .bool nb, .string tb, .int .i64 eb]] W fun e w' => e = .returned (decErr r) ∧ Below W.heap.size W w') : Calls Tryz.prog 19 #[.agg #[.int .i64 0, .bool na, .string ta, .int .i64 ea], .agg #[.int .i64 0, .bool nb, .string tb, .int .i64 eb]] w fun e w' => e = .returned (decErr r) ∧ Below w.heap.size w w' := by
  have MA := hide (fun W => dmay_yes  0 na ta ( ea) W ha)
  have MB := hide (fun W => dmay_yes  0 nb tb ( eb) W hb0)
  have SU := hide su
  have HT := hide htab
  obtain ⟨⟨cc, nn, ll, ee⟩, er⟩ := r
  unfold decErr decVal at SU ⊢
  simp only at SU ⊢
  obtain ⟨D, hD⟩ : ∃ D : ByteArray, D = ⟨ll.toArray⟩ := ⟨_, rfl⟩
  rw [← hD] at SU ⊢
  clear su htab hD
  clear ha hb0
  have Ba0 := hide (((Blk.newAt w (w.heap.size) (rfl) #[.int .i64 0, .bool na, .string ta, .int .i64 ea] 23).alloc (.cells #[.int .i64 0, .bool nb, .string tb, .int .i64 eb] 23)).alloc (.cells #[.int .i64 0, .bool false, .string ⟨#[]⟩, .int .i64 0] 23))
  have Bb0 := hide ((Blk.newAt (w.alloc (.cells #[.int .i64 0, .bool na, .string ta, .int .i64 ea] 23)) (w.heap.size + 1) (by simp) #[.int .i64 0, .bool nb, .string tb, .int .i64 eb] 23).alloc (.cells #[.int .i64 0, .bool false, .string ⟨#[]⟩, .int .i64 0] 23))
  have Br0 := hide (Blk.newAt ((w.alloc (.cells #[.int .i64 0, .bool na, .string ta, .int .i64 ea] 23)).alloc (.cells #[.int .i64 0, .bool nb, .string tb, .int .i64 eb] 23)) (w.heap.size + 1 + 1) (by simp) #[.int .i64 0, .bool false, .string ⟨#[]⟩, .int .i64 0] 23)
  have HB0 : Hid (Below w.heap.size w (((w.alloc (.cells #[.int .i64 0, .bool na, .string ta, .int .i64 ea] 23)).alloc (.cells #[.int .i64 0, .bool nb, .string tb, .int .i64 eb] 23)).alloc (.cells #[.int .i64 0, .bool false, .string ⟨#[]⟩, .int .i64 0] 23))) := ((((Below.refl _ _).alloc (Nat.le_refl _) _).alloc (by simp <;> omega) _).alloc (by simp <;> omega) _)
  go_enter Tryz.func19, Tryz.ntmps19
  go_wp2_with fail
  refine (MA.out _).mono ?_
  rintro e w1 ⟨rfl, hb⟩
  have Ba1 := hide (Ba0.out.below hb Ba0.out.lt)
  have Bb1 := hide (Bb0.out.below hb Bb0.out.lt)
  have Br1 := hide (Br0.out.below hb Br0.out.lt)
  have HB1 := hide (HB0.out.trans (hb.mono HB0.out.size))
  clear hb Ba0 Bb0 Br0 HB0 
  have ya0 : w1.cell? ⟨w.heap.size, 0, none⟩ = some (.int .i64 0) := Ba1.out.cell 0
  have ya1 : w1.cell? ⟨w.heap.size, 1, none⟩ = some (.bool na) := Ba1.out.cell 1
  have ya2 : w1.cell? ⟨w.heap.size, 2, none⟩ = some (.string ta) := Ba1.out.cell 2
  have ya3 : w1.cell? ⟨w.heap.size, 3, none⟩ = some (.int .i64 ea) := Ba1.out.cell 3
  have yb0 : w1.cell? ⟨w.heap.size + 1, 0, none⟩ = some (.int .i64 0) := Bb1.out.cell 0
  have yb1 : w1.cell? ⟨w.heap.size + 1, 1, none⟩ = some (.bool nb) := Bb1.out.cell 1
  have yb2 : w1.cell? ⟨w.heap.size + 1, 2, none⟩ = some (.string tb) := Bb1.out.cell 2
  have yb3 : w1.cell? ⟨w.heap.size + 1, 3, none⟩ = some (.int .i64 eb) := Bb1.out.cell 3
  have yr0 : w1.cell? ⟨w.heap.size + 1 + 1, 0, none⟩ = some (.int .i64 0) := Br1.out.cell 0
  have yr1 : w1.cell? ⟨w.heap.size + 1 + 1, 1, none⟩ = some (.bool false) := Br1.out.cell 1
  have yr2 : w1.cell? ⟨w.heap.size + 1 + 1, 2, none⟩ = some (.string ⟨#[]⟩) := Br1.out.cell 2
  have yr3 : w1.cell? ⟨w.heap.size + 1 + 1, 3, none⟩ = some (.int .i64 0) := Br1.out.cell 3
  go_wp2_with fail
  refine (MB.out _).mono ?_
  rintro e w2 ⟨rfl, hb⟩
  have Ba2 := hide (Ba1.out.below hb Ba1.out.lt)
  have Bb2 := hide (Bb1.out.below hb Bb1.out.lt)
  have Br2 := hide (Br1.out.below hb Br1.out.lt)
  have HB2 := hide (HB1.out.trans (hb.mono HB1.out.size))
  clear hb Ba1 Bb1 Br1 HB1 ya0 ya1 ya2 ya3 yb0 yb1 yb2 yb3 yr0 yr1 yr2 yr3
  have ya0 : w2.cell? ⟨w.heap.size, 0, none⟩ = some (.int .i64 0) := Ba2.out.cell 0
  have ya1 : w2.cell? ⟨w.heap.size, 1, none⟩ = some (.bool na) := Ba2.out.cell 1
  have ya2 : w2.cell? ⟨w.heap.size, 2, none⟩ = some (.string ta) := Ba2.out.cell 2
  have ya3 : w2.cell? ⟨w.heap.size, 3, none⟩ = some (.int .i64 ea) := Ba2.out.cell 3
  have yb0 : w2.cell? ⟨w.heap.size + 1, 0, none⟩ = some (.int .i64 0) := Bb2.out.cell 0
  have yb1 : w2.cell? ⟨w.heap.size + 1, 1, none⟩ = some (.bool nb) := Bb2.out.cell 1
  have yb2 : w2.cell? ⟨w.heap.size + 1, 2, none⟩ = some (.string tb) := Bb2.out.cell 2
  have yb3 : w2.cell? ⟨w.heap.size + 1, 3, none⟩ = some (.int .i64 eb) := Bb2.out.cell 3
  have yr0 : w2.cell? ⟨w.heap.size + 1 + 1, 0, none⟩ = some (.int .i64 0) := Br2.out.cell 0
  have yr1 : w2.cell? ⟨w.heap.size + 1 + 1, 1, none⟩ = some (.bool false) := Br2.out.cell 1
  have yr2 : w2.cell? ⟨w.heap.size + 1 + 1, 2, none⟩ = some (.string ⟨#[]⟩) := Br2.out.cell 2
  have yr3 : w2.cell? ⟨w.heap.size + 1 + 1, 3, none⟩ = some (.int .i64 0) := Br2.out.cell 3
  go_wp2_with fail
  refine (SU.out _ (HT.out.below HB2.out)).mono ?_
  rintro e w3 ⟨rfl, hb⟩
  have Ba3 := hide (Ba2.out.below hb Ba2.out.lt)
  have Bb3 := hide (Bb2.out.below hb Bb2.out.lt)
  have Br3 := hide (Br2.out.below hb Br2.out.lt)
  have HB3 := hide (HB2.out.trans (hb.mono HB2.out.size))
  clear hb Ba2 Bb2 Br2 HB2 ya0 ya1 ya2 ya3 yb0 yb1 yb2 yb3 yr0 yr1 yr2 yr3
  have ya0 : w3.cell? ⟨w.heap.size, 0, none⟩ = some (.int .i64 0) := Ba3.out.cell 0
  have ya1 : w3.cell? ⟨w.heap.size, 1, none⟩ = some (.bool na) := Ba3.out.cell 1
  have ya2 : w3.cell? ⟨w.heap.size, 2, none⟩ = some (.string ta) := Ba3.out.cell 2
  have ya3 : w3.cell? ⟨w.heap.size, 3, none⟩ = some (.int .i64 ea) := Ba3.out.cell 3
  have yb0 : w3.cell? ⟨w.heap.size + 1, 0, none⟩ = some (.int .i64 0) := Bb3.out.cell 0
  have yb1 : w3.cell? ⟨w.heap.size + 1, 1, none⟩ = some (.bool nb) := Bb3.out.cell 1
  have yb2 : w3.cell? ⟨w.heap.size + 1, 2, none⟩ = some (.string tb) := Bb3.out.cell 2
  have yb3 : w3.cell? ⟨w.heap.size + 1, 3, none⟩ = some (.int .i64 eb) := Bb3.out.cell 3
  have yr0 : w3.cell? ⟨w.heap.size + 1 + 1, 0, none⟩ = some (.int .i64 0) := Br3.out.cell 0
  have yr1 : w3.cell? ⟨w.heap.size + 1 + 1, 1, none⟩ = some (.bool false) := Br3.out.cell 1
  have yr2 : w3.cell? ⟨w.heap.size + 1 + 1, 2, none⟩ = some (.string ⟨#[]⟩) := Br3.out.cell 2
  have yr3 : w3.cell? ⟨w.heap.size + 1 + 1, 3, none⟩ = some (.int .i64 0) := Br3.out.cell 3
  have fr0 := Br3.out.free 0
  have fr1 := Br3.out.free 1
  have fr2 := Br3.out.free 2
  have fr3 := Br3.out.free 3
  go_wp2
  refine bodyPost_ret (results_dec2 rfl _ _ _ _ _ _ _ rfl (Br3.out.put4 _ _ _ _)) rfl ?_
  exact ⟨rfl, below_put4 (HB3.out) (by omega) _ _ _ _⟩

set_option maxRecDepth 100000 in
set_option maxHeartbeats 2000000 in
theorem Add_nf (nb : Bool) (tb : ByteArray) (eb : Int) (w : World) (ha : MayD  2 false (bys ⟨#[]⟩) ( 0)) (hb0 : MayD  0 nb (bys tb) ( eb)) : Calls Tryz.prog 19 #[.agg #[.int .i64 2, .bool false, .string ⟨#[]⟩, .int .i64 0], .agg #[.int .i64 0, .bool nb, .string tb, .int .i64 eb]] w fun e w' => e = .returned (.tuple #[.agg #[.int .i64 2, .bool false, .string ⟨#[]⟩, .int .i64 0], .int .i64 0]) ∧ Below w.heap.size w w' := by
  have MA := hide (fun W => dmay_yes  2 false ⟨#[]⟩ ( 0) W ha)
  have MB := hide (fun W => dmay_yes  0 nb tb ( eb) W hb0)
  clear ha hb0
  have Ba0 := hide (((Blk.newAt w (w.heap.size) (rfl) #[.int .i64 2, .bool false, .string ⟨#[]⟩, .int .i64 0] 23).alloc (.cells #[.int .i64 0, .bool nb, .string tb, .int .i64 eb] 23)).alloc (.cells #[.int .i64 0, .bool false, .string ⟨#[]⟩, .int .i64 0] 23))
  have Bb0 := hide ((Blk.newAt (w.alloc (.cells #[.int .i64 2, .bool false, .string ⟨#[]⟩, .int .i64 0] 23)) (w.heap.size + 1) (by simp) #[.int .i64 0, .bool nb, .string tb, .int .i64 eb] 23).alloc (.cells #[.int .i64 0, .bool false, .string ⟨#[]⟩, .int .i64 0] 23))
  have Br0 := hide (Blk.newAt ((w.alloc (.cells #[.int .i64 2, .bool false, .string ⟨#[]⟩, .int .i64 0] 23)).alloc (.cells #[.int .i64 0, .bool nb, .string tb, .int .i64 eb] 23)) (w.heap.size + 1 + 1) (by simp) #[.int .i64 0, .bool false, .string ⟨#[]⟩, .int .i64 0] 23)
  have HB0 : Hid (Below w.heap.size w (((w.alloc (.cells #[.int .i64 2, .bool false, .string ⟨#[]⟩, .int .i64 0] 23)).alloc (.cells #[.int .i64 0, .bool nb, .string tb, .int .i64 eb] 23)).alloc (.cells #[.int .i64 0, .bool false, .string ⟨#[]⟩, .int .i64 0] 23))) := ((((Below.refl _ _).alloc (Nat.le_refl _) _).alloc (by simp <;> omega) _).alloc (by simp <;> omega) _)
  go_enter Tryz.func19, Tryz.ntmps19
  go_wp2_with fail
  refine (MA.out _).mono ?_
  rintro e w1 ⟨rfl, hb⟩
  have Ba1 := hide (Ba0.out.below hb Ba0.out.lt)
  have Bb1 := hide (Bb0.out.below hb Bb0.out.lt)
  have Br1 := hide (Br0.out.below hb Br0.out.lt)
  have HB1 := hide (HB0.out.trans (hb.mono HB0.out.size))
  clear hb Ba0 Bb0 Br0 HB0 
  have ya0 : w1.cell? ⟨w.heap.size, 0, none⟩ = some (.int .i64 2) := Ba1.out.cell 0
  have ya1 : w1.cell? ⟨w.heap.size, 1, none⟩ = some (.bool false) := Ba1.out.cell 1
  have ya2 : w1.cell? ⟨w.heap.size, 2, none⟩ = some (.string ⟨#[]⟩) := Ba1.out.cell 2
  have ya3 : w1.cell? ⟨w.heap.size, 3, none⟩ = some (.int .i64 0) := Ba1.out.cell 3
  have yb0 : w1.cell? ⟨w.heap.size + 1, 0, none⟩ = some (.int .i64 0) := Bb1.out.cell 0
  have yb1 : w1.cell? ⟨w.heap.size + 1, 1, none⟩ = some (.bool nb) := Bb1.out.cell 1
  have yb2 : w1.cell? ⟨w.heap.size + 1, 2, none⟩ = some (.string tb) := Bb1.out.cell 2
  have yb3 : w1.cell? ⟨w.heap.size + 1, 3, none⟩ = some (.int .i64 eb) := Bb1.out.cell 3
  have yr0 : w1.cell? ⟨w.heap.size + 1 + 1, 0, none⟩ = some (.int .i64 0) := Br1.out.cell 0
  have yr1 : w1.cell? ⟨w.heap.size + 1 + 1, 1, none⟩ = some (.bool false) := Br1.out.cell 1
  have yr2 : w1.cell? ⟨w.heap.size + 1 + 1, 2, none⟩ = some (.string ⟨#[]⟩) := Br1.out.cell 2
  have yr3 : w1.cell? ⟨w.heap.size + 1 + 1, 3, none⟩ = some (.int .i64 0) := Br1.out.cell 3
  go_wp2_with fail
  refine (MB.out _).mono ?_
  rintro e w2 ⟨rfl, hb⟩
  have Ba2 := hide (Ba1.out.below hb Ba1.out.lt)
  have Bb2 := hide (Bb1.out.below hb Bb1.out.lt)
  have Br2 := hide (Br1.out.below hb Br1.out.lt)
  have HB2 := hide (HB1.out.trans (hb.mono HB1.out.size))
  clear hb Ba1 Bb1 Br1 HB1 ya0 ya1 ya2 ya3 yb0 yb1 yb2 yb3 yr0 yr1 yr2 yr3
  have ya0 : w2.cell? ⟨w.heap.size, 0, none⟩ = some (.int .i64 2) := Ba2.out.cell 0
  have ya1 : w2.cell? ⟨w.heap.size, 1, none⟩ = some (.bool false) := Ba2.out.cell 1
  have ya2 : w2.cell? ⟨w.heap.size, 2, none⟩ = some (.string ⟨#[]⟩) := Ba2.out.cell 2
  have ya3 : w2.cell? ⟨w.heap.size, 3, none⟩ = some (.int .i64 0) := Ba2.out.cell 3
  have yb0 : w2.cell? ⟨w.heap.size + 1, 0, none⟩ = some (.int .i64 0) := Bb2.out.cell 0
  have yb1 : w2.cell? ⟨w.heap.size + 1, 1, none⟩ = some (.bool nb) := Bb2.out.cell 1
  have yb2 : w2.cell? ⟨w.heap.size + 1, 2, none⟩ = some (.string tb) := Bb2.out.cell 2
  have yb3 : w2.cell? ⟨w.heap.size + 1, 3, none⟩ = some (.int .i64 eb) := Bb2.out.cell 3
  have yr0 : w2.cell? ⟨w.heap.size + 1 + 1, 0, none⟩ = some (.int .i64 0) := Br2.out.cell 0
  have yr1 : w2.cell? ⟨w.heap.size + 1 + 1, 1, none⟩ = some (.bool false) := Br2.out.cell 1
  have yr2 : w2.cell? ⟨w.heap.size + 1 + 1, 2, none⟩ = some (.string ⟨#[]⟩) := Br2.out.cell 2
  have yr3 : w2.cell? ⟨w.heap.size + 1 + 1, 3, none⟩ = some (.int .i64 0) := Br2.out.cell 3
  have fr0 := Br2.out.free 0
  have fr1 := Br2.out.free 1
  have fr2 := Br2.out.free 2
  have fr3 := Br2.out.free 3
  go_wp2
  refine bodyPost_ret (results_dec2 rfl _ _ _ _ _ _ _ rfl (Br2.out.put4 _ _ _ _)) rfl ?_
  exact ⟨rfl, below_put4 (HB2.out) (by omega) _ _ _ _⟩

set_option maxRecDepth 100000 in
set_option maxHeartbeats 2000000 in
theorem Add_ni (nb : Bool) (w : World) (ha : MayD  2 false (bys ⟨#[]⟩) ( 0)) (hb0 : MayD  1 nb (bys ⟨#[]⟩) ( 0)) : Calls Tryz.prog 19 #[.agg #[.int .i64 2, .bool false, .string ⟨#[]⟩, .int .i64 0], .agg #[.int .i64 1, .bool nb, .string ⟨#[]⟩, .int .i64 0]] w fun e w' => e = .returned (.tuple #[.agg #[.int .i64 2, .bool false, .string ⟨#[]⟩, .int .i64 0], .int .i64 0]) ∧ Below w.heap.size w w' := by
  have MA := hide (fun W => dmay_yes  2 false ⟨#[]⟩ ( 0) W ha)
  have MB := hide (fun W => dmay_yes  1 nb ⟨#[]⟩ ( 0) W hb0)
  clear ha hb0
  have Ba0 := hide (((Blk.newAt w (w.heap.size) (rfl) #[.int .i64 2, .bool false, .string ⟨#[]⟩, .int .i64 0] 23).alloc (.cells #[.int .i64 1, .bool nb, .string ⟨#[]⟩, .int .i64 0] 23)).alloc (.cells #[.int .i64 0, .bool false, .string ⟨#[]⟩, .int .i64 0] 23))
  have Bb0 := hide ((Blk.newAt (w.alloc (.cells #[.int .i64 2, .bool false, .string ⟨#[]⟩, .int .i64 0] 23)) (w.heap.size + 1) (by simp) #[.int .i64 1, .bool nb, .string ⟨#[]⟩, .int .i64 0] 23).alloc (.cells #[.int .i64 0, .bool false, .string ⟨#[]⟩, .int .i64 0] 23))
  have Br0 := hide (Blk.newAt ((w.alloc (.cells #[.int .i64 2, .bool false, .string ⟨#[]⟩, .int .i64 0] 23)).alloc (.cells #[.int .i64 1, .bool nb, .string ⟨#[]⟩, .int .i64 0] 23)) (w.heap.size + 1 + 1) (by simp) #[.int .i64 0, .bool false, .string ⟨#[]⟩, .int .i64 0] 23)
  have HB0 : Hid (Below w.heap.size w (((w.alloc (.cells #[.int .i64 2, .bool false, .string ⟨#[]⟩, .int .i64 0] 23)).alloc (.cells #[.int .i64 1, .bool nb, .string ⟨#[]⟩, .int .i64 0] 23)).alloc (.cells #[.int .i64 0, .bool false, .string ⟨#[]⟩, .int .i64 0] 23))) := ((((Below.refl _ _).alloc (Nat.le_refl _) _).alloc (by simp <;> omega) _).alloc (by simp <;> omega) _)
  go_enter Tryz.func19, Tryz.ntmps19
  go_wp2_with fail
  refine (MA.out _).mono ?_
  rintro e w1 ⟨rfl, hb⟩
  have Ba1 := hide (Ba0.out.below hb Ba0.out.lt)
  have Bb1 := hide (Bb0.out.below hb Bb0.out.lt)
  have Br1 := hide (Br0.out.below hb Br0.out.lt)
  have HB1 := hide (HB0.out.trans (hb.mono HB0.out.size))
  clear hb Ba0 Bb0 Br0 HB0 
  have ya0 : w1.cell? ⟨w.heap.size, 0, none⟩ = some (.int .i64 2) := Ba1.out.cell 0
  have ya1 : w1.cell? ⟨w.heap.size, 1, none⟩ = some (.bool false) := Ba1.out.cell 1
  have ya2 : w1.cell? ⟨w.heap.size, 2, none⟩ = some (.string ⟨#[]⟩) := Ba1.out.cell 2
  have ya3 : w1.cell? ⟨w.heap.size, 3, none⟩ = some (.int .i64 0) := Ba1.out.cell 3
  have yb0 : w1.cell? ⟨w.heap.size + 1, 0, none⟩ = some (.int .i64 1) := Bb1.out.cell 0
  have yb1 : w1.cell? ⟨w.heap.size + 1, 1, none⟩ = some (.bool nb) := Bb1.out.cell 1
  have yb2 : w1.cell? ⟨w.heap.size + 1, 2, none⟩ = some (.string ⟨#[]⟩) := Bb1.out.cell 2
  have yb3 : w1.cell? ⟨w.heap.size + 1, 3, none⟩ = some (.int .i64 0) := Bb1.out.cell 3
  have yr0 : w1.cell? ⟨w.heap.size + 1 + 1, 0, none⟩ = some (.int .i64 0) := Br1.out.cell 0
  have yr1 : w1.cell? ⟨w.heap.size + 1 + 1, 1, none⟩ = some (.bool false) := Br1.out.cell 1
  have yr2 : w1.cell? ⟨w.heap.size + 1 + 1, 2, none⟩ = some (.string ⟨#[]⟩) := Br1.out.cell 2
  have yr3 : w1.cell? ⟨w.heap.size + 1 + 1, 3, none⟩ = some (.int .i64 0) := Br1.out.cell 3
  go_wp2_with fail
  refine (MB.out _).mono ?_
  rintro e w2 ⟨rfl, hb⟩
  have Ba2 := hide (Ba1.out.below hb Ba1.out.lt)
  have Bb2 := hide (Bb1.out.below hb Bb1.out.lt)
  have Br2 := hide (Br1.out.below hb Br1.out.lt)
  have HB2 := hide (HB1.out.trans (hb.mono HB1.out.size))
  clear hb Ba1 Bb1 Br1 HB1 ya0 ya1 ya2 ya3 yb0 yb1 yb2 yb3 yr0 yr1 yr2 yr3
  have ya0 : w2.cell? ⟨w.heap.size, 0, none⟩ = some (.int .i64 2) := Ba2.out.cell 0
  have ya1 : w2.cell? ⟨w.heap.size, 1, none⟩ = some (.bool false) := Ba2.out.cell 1
  have ya2 : w2.cell? ⟨w.heap.size, 2, none⟩ = some (.string ⟨#[]⟩) := Ba2.out.cell 2
  have ya3 : w2.cell? ⟨w.heap.size, 3, none⟩ = some (.int .i64 0) := Ba2.out.cell 3
  have yb0 : w2.cell? ⟨w.heap.size + 1, 0, none⟩ = some (.int .i64 1) := Bb2.out.cell 0
  have yb1 : w2.cell? ⟨w.heap.size + 1, 1, none⟩ = some (.bool nb) := Bb2.out.cell 1
  have yb2 : w2.cell? ⟨w.heap.size + 1, 2, none⟩ = some (.string ⟨#[]⟩) := Bb2.out.cell 2
  have yb3 : w2.cell? ⟨w.heap.size + 1, 3, none⟩ = some (.int .i64 0) := Bb2.out.cell 3
  have yr0 : w2.cell? ⟨w.heap.size + 1 + 1, 0, none⟩ = some (.int .i64 0) := Br2.out.cell 0
  have yr1 : w2.cell? ⟨w.heap.size + 1 + 1, 1, none⟩ = some (.bool false) := Br2.out.cell 1
  have yr2 : w2.cell? ⟨w.heap.size + 1 + 1, 2, none⟩ = some (.string ⟨#[]⟩) := Br2.out.cell 2
  have yr3 : w2.cell? ⟨w.heap.size + 1 + 1, 3, none⟩ = some (.int .i64 0) := Br2.out.cell 3
  have fr0 := Br2.out.free 0
  have fr1 := Br2.out.free 1
  have fr2 := Br2.out.free 2
  have fr3 := Br2.out.free 3
  go_wp2
  refine bodyPost_ret (results_dec2 rfl _ _ _ _ _ _ _ rfl (Br2.out.put4 _ _ _ _)) rfl ?_
  exact ⟨rfl, below_put4 (HB2.out) (by omega) _ _ _ _⟩

set_option maxRecDepth 100000 in
set_option maxHeartbeats 2000000 in
theorem Add_nn (w : World) (ha : MayD  2 false (bys ⟨#[]⟩) ( 0)) (hb0 : MayD  2 false (bys ⟨#[]⟩) ( 0)) : Calls Tryz.prog 19 #[.agg #[.int .i64 2, .bool false, .string ⟨#[]⟩, .int .i64 0], .agg #[.int .i64 2, .bool false, .string ⟨#[]⟩, .int .i64 0]] w fun e w' => e = .returned (.tuple #[.agg #[.int .i64 2, .bool false, .string ⟨#[]⟩, .int .i64 0], .int .i64 0]) ∧ Below w.heap.size w w' := by
  have MA := hide (fun W => dmay_yes  2 false ⟨#[]⟩ ( 0) W ha)
  have MB := hide (fun W => dmay_yes  2 false ⟨#[]⟩ ( 0) W hb0)
  clear ha hb0
  have Ba0 := hide (((Blk.newAt w (w.heap.size) (rfl) #[.int .i64 2, .bool false, .string ⟨#[]⟩, .int .i64 0] 23).alloc (.cells #[.int .i64 2, .bool false, .string ⟨#[]⟩, .int .i64 0] 23)).alloc (.cells #[.int .i64 0, .bool false, .string ⟨#[]⟩, .int .i64 0] 23))
  have Bb0 := hide ((Blk.newAt (w.alloc (.cells #[.int .i64 2, .bool false, .string ⟨#[]⟩, .int .i64 0] 23)) (w.heap.size + 1) (by simp) #[.int .i64 2, .bool false, .string ⟨#[]⟩, .int .i64 0] 23).alloc (.cells #[.int .i64 0, .bool false, .string ⟨#[]⟩, .int .i64 0] 23))
  have Br0 := hide (Blk.newAt ((w.alloc (.cells #[.int .i64 2, .bool false, .string ⟨#[]⟩, .int .i64 0] 23)).alloc (.cells #[.int .i64 2, .bool false, .string ⟨#[]⟩, .int .i64 0] 23)) (w.heap.size + 1 + 1) (by simp) #[.int .i64 0, .bool false, .string ⟨#[]⟩, .int .i64 0] 23)
  have HB0 : Hid (Below w.heap.size w (((w.alloc (.cells #[.int .i64 2, .bool false, .string ⟨#[]⟩, .int .i64 0] 23)).alloc (.cells #[.int .i64 2, .bool false, .string ⟨#[]⟩, .int .i64 0] 23)).alloc (.cells #[.int .i64 0, .bool false, .string ⟨#[]⟩, .int .i64 0] 23))) := ((((Below.refl _ _).alloc (Nat.le_refl _) _).alloc (by simp <;> omega) _).alloc (by simp <;> omega) _)
  go_enter Tryz.func19, Tryz.ntmps19
  go_wp2_with fail
  refine (MA.out _).mono ?_
  rintro e w1 ⟨rfl, hb⟩
  have Ba1 := hide (Ba0.out.below hb Ba0.out.lt)
  have Bb1 := hide (Bb0.out.below hb Bb0.out.lt)
  have Br1 := hide (Br0.out.below hb Br0.out.lt)
  have HB1 := hide (HB0.out.trans (hb.mono HB0.out.size))
  clear hb Ba0 Bb0 Br0 HB0 
  have ya0 : w1.cell? ⟨w.heap.size, 0, none⟩ = some (.int .i64 2) := Ba1.out.cell 0
  have ya1 : w1.cell? ⟨w.heap.size, 1, none⟩ = some (.bool false) := Ba1.out.cell 1
  have ya2 : w1.cell? ⟨w.heap.size, 2, none⟩ = some (.string ⟨#[]⟩) := Ba1.out.cell 2
  have ya3 : w1.cell? ⟨w.heap.size, 3, none⟩ = some (.int .i64 0) := Ba1.out.cell 3
  have yb0 : w1.cell? ⟨w.heap.size + 1, 0, none⟩ = some (.int .i64 2) := Bb1.out.cell 0
  have yb1 : w1.cell? ⟨w.heap.size + 1, 1, none⟩ = some (.bool false) := Bb1.out.cell 1
  have yb2 : w1.cell? ⟨w.heap.size + 1, 2, none⟩ = some (.string ⟨#[]⟩) := Bb1.out.cell 2
  have yb3 : w1.cell? ⟨w.heap.size + 1, 3, none⟩ = some (.int .i64 0) := Bb1.out.cell 3
  have yr0 : w1.cell? ⟨w.heap.size + 1 + 1, 0, none⟩ = some (.int .i64 0) := Br1.out.cell 0
  have yr1 : w1.cell? ⟨w.heap.size + 1 + 1, 1, none⟩ = some (.bool false) := Br1.out.cell 1
  have yr2 : w1.cell? ⟨w.heap.size + 1 + 1, 2, none⟩ = some (.string ⟨#[]⟩) := Br1.out.cell 2
  have yr3 : w1.cell? ⟨w.heap.size + 1 + 1, 3, none⟩ = some (.int .i64 0) := Br1.out.cell 3
  go_wp2_with fail
  refine (MB.out _).mono ?_
  rintro e w2 ⟨rfl, hb⟩
  have Ba2 := hide (Ba1.out.below hb Ba1.out.lt)
  have Bb2 := hide (Bb1.out.below hb Bb1.out.lt)
  have Br2 := hide (Br1.out.below hb Br1.out.lt)
  have HB2 := hide (HB1.out.trans (hb.mono HB1.out.size))
  clear hb Ba1 Bb1 Br1 HB1 ya0 ya1 ya2 ya3 yb0 yb1 yb2 yb3 yr0 yr1 yr2 yr3
  have ya0 : w2.cell? ⟨w.heap.size, 0, none⟩ = some (.int .i64 2) := Ba2.out.cell 0
  have ya1 : w2.cell? ⟨w.heap.size, 1, none⟩ = some (.bool false) := Ba2.out.cell 1
  have ya2 : w2.cell? ⟨w.heap.size, 2, none⟩ = some (.string ⟨#[]⟩) := Ba2.out.cell 2
  have ya3 : w2.cell? ⟨w.heap.size, 3, none⟩ = some (.int .i64 0) := Ba2.out.cell 3
  have yb0 : w2.cell? ⟨w.heap.size + 1, 0, none⟩ = some (.int .i64 2) := Bb2.out.cell 0
  have yb1 : w2.cell? ⟨w.heap.size + 1, 1, none⟩ = some (.bool false) := Bb2.out.cell 1
  have yb2 : w2.cell? ⟨w.heap.size + 1, 2, none⟩ = some (.string ⟨#[]⟩) := Bb2.out.cell 2
  have yb3 : w2.cell? ⟨w.heap.size + 1, 3, none⟩ = some (.int .i64 0) := Bb2.out.cell 3
  have yr0 : w2.cell? ⟨w.heap.size + 1 + 1, 0, none⟩ = some (.int .i64 0) := Br2.out.cell 0
  have yr1 : w2.cell? ⟨w.heap.size + 1 + 1, 1, none⟩ = some (.bool false) := Br2.out.cell 1
  have yr2 : w2.cell? ⟨w.heap.size + 1 + 1, 2, none⟩ = some (.string ⟨#[]⟩) := Br2.out.cell 2
  have yr3 : w2.cell? ⟨w.heap.size + 1 + 1, 3, none⟩ = some (.int .i64 0) := Br2.out.cell 3
  have fr0 := Br2.out.free 0
  have fr1 := Br2.out.free 1
  have fr2 := Br2.out.free 2
  have fr3 := Br2.out.free 3
  go_wp2
  refine bodyPost_ret (results_dec2 rfl _ _ _ _ _ _ _ rfl (Br2.out.put4 _ _ _ _)) rfl ?_
  exact ⟨rfl, below_put4 (HB2.out) (by omega) _ _ _ _⟩

set_option maxRecDepth 100000 in
set_option maxHeartbeats 2000000 in
theorem Add_fn (na : Bool) (ta : ByteArray) (ea : Int) (w : World) (ha : MayD  0 na (bys ta) ( ea)) (hb0 : MayD  2 false (bys ⟨#[]⟩) ( 0)) : Calls Tryz.prog 19 #[.agg #[.int .i64 0, .bool na, .string ta, .int .i64 ea], .agg #[.int .i64 2, .bool false, .string ⟨#[]⟩, .int .i64 0]] w fun e w' => e = .returned (.tuple #[.agg #[.int .i64 2, .bool false, .string ⟨#[]⟩, .int .i64 0], .int .i64 0]) ∧ Below w.heap.size w w' := by
  have MA := hide (fun W => dmay_yes  0 na ta ( ea) W ha)
  have MB := hide (fun W => dmay_yes  2 false ⟨#[]⟩ ( 0) W hb0)
  clear ha hb0
  have Ba0 := hide (((Blk.newAt w (w.heap.size) (rfl) #[.int .i64 0, .bool na, .string ta, .int .i64 ea] 23).alloc (.cells #[.int .i64 2, .bool false, .string ⟨#[]⟩, .int .i64 0] 23)).alloc (.cells #[.int .i64 0, .bool false, .string ⟨#[]⟩, .int .i64 0] 23))
  have Bb0 := hide ((Blk.newAt (w.alloc (.cells #[.int .i64 0, .bool na, .string ta, .int .i64 ea] 23)) (w.heap.size + 1) (by simp) #[.int .i64 2, .bool false, .string ⟨#[]⟩, .int .i64 0] 23).alloc (.cells #[.int .i64 0, .bool false, .string ⟨#[]⟩, .int .i64 0] 23))
  have Br0 := hide (Blk.newAt ((w.alloc (.cells #[.int .i64 0, .bool na, .string ta, .int .i64 ea] 23)).alloc (.cells #[.int .i64 2, .bool false, .string ⟨#[]⟩, .int .i64 0] 23)) (w.heap.size + 1 + 1) (by simp) #[.int .i64 0, .bool false, .string ⟨#[]⟩, .int .i64 0] 23)
  have HB0 : Hid (Below w.heap.size w (((w.alloc (.cells #[.int .i64 0, .bool na, .string ta, .int .i64 ea] 23)).alloc (.cells #[.int .i64 2, .bool false, .string ⟨#[]⟩, .int .i64 0] 23)).alloc (.cells #[.int .i64 0, .bool false, .string ⟨#[]⟩, .int .i64 0] 23))) := ((((Below.refl _ _).alloc (Nat.le_refl _) _).alloc (by simp <;> omega) _).alloc (by simp <;> omega) _)
  go_enter Tryz.func19, Tryz.ntmps19
  go_wp2_with fail
  refine (MA.out _).mono ?_
  rintro e w1 ⟨rfl, hb⟩
  have Ba1 := hide (Ba0.out.below hb Ba0.out.lt)
  have Bb1 := hide (Bb0.out.below hb Bb0.out.lt)
  have Br1 := hide (Br0.out.below hb Br0.out.lt)
  have HB1 := hide (HB0.out.trans (hb.mono HB0.out.size))
  clear hb Ba0 Bb0 Br0 HB0 
  have ya0 : w1.cell? ⟨w.heap.size, 0, none⟩ = some (.int .i64 0) := Ba1.out.cell 0
  have ya1 : w1.cell? ⟨w.heap.size, 1, none⟩ = some (.bool na) := Ba1.out.cell 1
  have ya2 : w1.cell? ⟨w.heap.size, 2, none⟩ = some (.string ta) := Ba1.out.cell 2
  have ya3 : w1.cell? ⟨w.heap.size, 3, none⟩ = some (.int .i64 ea) := Ba1.out.cell 3
  have yb0 : w1.cell? ⟨w.heap.size + 1, 0, none⟩ = some (.int .i64 2) := Bb1.out.cell 0
  have yb1 : w1.cell? ⟨w.heap.size + 1, 1, none⟩ = some (.bool false) := Bb1.out.cell 1
  have yb2 : w1.cell? ⟨w.heap.size + 1, 2, none⟩ = some (.string ⟨#[]⟩) := Bb1.out.cell 2
  have yb3 : w1.cell? ⟨w.heap.size + 1, 3, none⟩ = some (.int .i64 0) := Bb1.out.cell 3
  have yr0 : w1.cell? ⟨w.heap.size + 1 + 1, 0, none⟩ = some (.int .i64 0) := Br1.out.cell 0
  have yr1 : w1.cell? ⟨w.heap.size + 1 + 1, 1, none⟩ = some (.bool false) := Br1.out.cell 1
  have yr2 : w1.cell? ⟨w.heap.size + 1 + 1, 2, none⟩ = some (.string ⟨#[]⟩) := Br1.out.cell 2
  have yr3 : w1.cell? ⟨w.heap.size + 1 + 1, 3, none⟩ = some (.int .i64 0) := Br1.out.cell 3
  go_wp2_with fail
  refine (MB.out _).mono ?_
  rintro e w2 ⟨rfl, hb⟩
  have Ba2 := hide (Ba1.out.below hb Ba1.out.lt)
  have Bb2 := hide (Bb1.out.below hb Bb1.out.lt)
  have Br2 := hide (Br1.out.below hb Br1.out.lt)
  have HB2 := hide (HB1.out.trans (hb.mono HB1.out.size))
  clear hb Ba1 Bb1 Br1 HB1 ya0 ya1 ya2 ya3 yb0 yb1 yb2 yb3 yr0 yr1 yr2 yr3
  have ya0 : w2.cell? ⟨w.heap.size, 0, none⟩ = some (.int .i64 0) := Ba2.out.cell 0
  have ya1 : w2.cell? ⟨w.heap.size, 1, none⟩ = some (.bool na) := Ba2.out.cell 1
  have ya2 : w2.cell? ⟨w.heap.size, 2, none⟩ = some (.string ta) := Ba2.out.cell 2
  have ya3 : w2.cell? ⟨w.heap.size, 3, none⟩ = some (.int .i64 ea) := Ba2.out.cell 3
  have yb0 : w2.cell? ⟨w.heap.size + 1, 0, none⟩ = some (.int .i64 2) := Bb2.out.cell 0
  have yb1 : w2.cell? ⟨w.heap.size + 1, 1, none⟩ = some (.bool false) := Bb2.out.cell 1
  have yb2 : w2.cell? ⟨w.heap.size + 1, 2, none⟩ = some (.string ⟨#[]⟩) := Bb2.out.cell 2
  have yb3 : w2.cell? ⟨w.heap.size + 1, 3, none⟩ = some (.int .i64 0) := Bb2.out.cell 3
  have yr0 : w2.cell? ⟨w.heap.size + 1 + 1, 0, none⟩ = some (.int .i64 0) := Br2.out.cell 0
  have yr1 : w2.cell? ⟨w.heap.size + 1 + 1, 1, none⟩ = some (.bool false) := Br2.out.cell 1
  have yr2 : w2.cell? ⟨w.heap.size + 1 + 1, 2, none⟩ = some (.string ⟨#[]⟩) := Br2.out.cell 2
  have yr3 : w2.cell? ⟨w.heap.size + 1 + 1, 3, none⟩ = some (.int .i64 0) := Br2.out.cell 3
  have fr0 := Br2.out.free 0
  have fr1 := Br2.out.free 1
  have fr2 := Br2.out.free 2
  have fr3 := Br2.out.free 3
  go_wp2
  refine bodyPost_ret (results_dec2 rfl _ _ _ _ _ _ _ rfl (Br2.out.put4 _ _ _ _)) rfl ?_
  exact ⟨rfl, below_put4 (HB2.out) (by omega) _ _ _ _⟩

set_option maxRecDepth 100000 in
set_option maxHeartbeats 2000000 in
theorem Add_in (na : Bool) (w : World) (ha : MayD  1 na (bys ⟨#[]⟩) ( 0)) (hb0 : MayD  2 false (bys ⟨#[]⟩) ( 0)) : Calls Tryz.prog 19 #[.agg #[.int .i64 1, .bool na, .string ⟨#[]⟩, .int .i64 0], .agg #[.int .i64 2, .bool false, .string ⟨#[]⟩, .int .i64 0]] w fun e w' => e = .returned (.tuple #[.agg #[.int .i64 2, .bool false, .string ⟨#[]⟩, .int .i64 0], .int .i64 0]) ∧ Below w.heap.size w w' := by
  have MA := hide (fun W => dmay_yes  1 na ⟨#[]⟩ ( 0) W ha)
  have MB := hide (fun W => dmay_yes  2 false ⟨#[]⟩ ( 0) W hb0)
  clear ha hb0
  have Ba0 := hide (((Blk.newAt w (w.heap.size) (rfl) #[.int .i64 1, .bool na, .string ⟨#[]⟩, .int .i64 0] 23).alloc (.cells #[.int .i64 2, .bool false, .string ⟨#[]⟩, .int .i64 0] 23)).alloc (.cells #[.int .i64 0, .bool false, .string ⟨#[]⟩, .int .i64 0] 23))
  have Bb0 := hide ((Blk.newAt (w.alloc (.cells #[.int .i64 1, .bool na, .string ⟨#[]⟩, .int .i64 0] 23)) (w.heap.size + 1) (by simp) #[.int .i64 2, .bool false, .string ⟨#[]⟩, .int .i64 0] 23).alloc (.cells #[.int .i64 0, .bool false, .string ⟨#[]⟩, .int .i64 0] 23))
  have Br0 := hide (Blk.newAt ((w.alloc (.cells #[.int .i64 1, .bool na, .string ⟨#[]⟩, .int .i64 0] 23)).alloc (.cells #[.int .i64 2, .bool false, .string ⟨#[]⟩, .int .i64 0] 23)) (w.heap.size + 1 + 1) (by simp) #[.int .i64 0, .bool false, .string ⟨#[]⟩, .int .i64 0] 23)
  have HB0 : Hid (Below w.heap.size w (((w.alloc (.cells #[.int .i64 1, .bool na, .string ⟨#[]⟩, .int .i64 0] 23)).alloc (.cells #[.int .i64 2, .bool false, .string ⟨#[]⟩, .int .i64 0] 23)).alloc (.cells #[.int .i64 0, .bool false, .string ⟨#[]⟩, .int .i64 0] 23))) := ((((Below.refl _ _).alloc (Nat.le_refl _) _).alloc (by simp <;> omega) _).alloc (by simp <;> omega) _)
  go_enter Tryz.func19, Tryz.ntmps19
  go_wp2_with fail
  refine (MA.out _).mono ?_
  rintro e w1 ⟨rfl, hb⟩
  have Ba1 := hide (Ba0.out.below hb Ba0.out.lt)
  have Bb1 := hide (Bb0.out.below hb Bb0.out.lt)
  have Br1 := hide (Br0.out.below hb Br0.out.lt)
  have HB1 := hide (HB0.out.trans (hb.mono HB0.out.size))
  clear hb Ba0 Bb0 Br0 HB0 
  have ya0 : w1.cell? ⟨w.heap.size, 0, none⟩ = some (.int .i64 1) := Ba1.out.cell 0
  have ya1 : w1.cell? ⟨w.heap.size, 1, none⟩ = some (.bool na) := Ba1.out.cell 1
  have ya2 : w1.cell? ⟨w.heap.size, 2, none⟩ = some (.string ⟨#[]⟩) := Ba1.out.cell 2
  have ya3 : w1.cell? ⟨w.heap.size, 3, none⟩ = some (.int .i64 0) := Ba1.out.cell 3
  have yb0 : w1.cell? ⟨w.heap.size + 1, 0, none⟩ = some (.int .i64 2) := Bb1.out.cell 0
  have yb1 : w1.cell? ⟨w.heap.size + 1, 1, none⟩ = some (.bool false) := Bb1.out.cell 1
  have yb2 : w1.cell? ⟨w.heap.size + 1, 2, none⟩ = some (.string ⟨#[]⟩) := Bb1.out.cell 2
  have yb3 : w1.cell? ⟨w.heap.size + 1, 3, none⟩ = some (.int .i64 0) := Bb1.out.cell 3
  have yr0 : w1.cell? ⟨w.heap.size + 1 + 1, 0, none⟩ = some (.int .i64 0) := Br1.out.cell 0
  have yr1 : w1.cell? ⟨w.heap.size + 1 + 1, 1, none⟩ = some (.bool false) := Br1.out.cell 1
  have yr2 : w1.cell? ⟨w.heap.size + 1 + 1, 2, none⟩ = some (.string ⟨#[]⟩) := Br1.out.cell 2
  have yr3 : w1.cell? ⟨w.heap.size + 1 + 1, 3, none⟩ = some (.int .i64 0) := Br1.out.cell 3
  go_wp2_with fail
  refine (MB.out _).mono ?_
  rintro e w2 ⟨rfl, hb⟩
  have Ba2 := hide (Ba1.out.below hb Ba1.out.lt)
  have Bb2 := hide (Bb1.out.below hb Bb1.out.lt)
  have Br2 := hide (Br1.out.below hb Br1.out.lt)
  have HB2 := hide (HB1.out.trans (hb.mono HB1.out.size))
  clear hb Ba1 Bb1 Br1 HB1 ya0 ya1 ya2 ya3 yb0 yb1 yb2 yb3 yr0 yr1 yr2 yr3
  have ya0 : w2.cell? ⟨w.heap.size, 0, none⟩ = some (.int .i64 1) := Ba2.out.cell 0
  have ya1 : w2.cell? ⟨w.heap.size, 1, none⟩ = some (.bool na) := Ba2.out.cell 1
  have ya2 : w2.cell? ⟨w.heap.size, 2, none⟩ = some (.string ⟨#[]⟩) := Ba2.out.cell 2
  have ya3 : w2.cell? ⟨w.heap.size, 3, none⟩ = some (.int .i64 0) := Ba2.out.cell 3
  have yb0 : w2.cell? ⟨w.heap.size + 1, 0, none⟩ = some (.int .i64 2) := Bb2.out.cell 0
  have yb1 : w2.cell? ⟨w.heap.size + 1, 1, none⟩ = some (.bool false) := Bb2.out.cell 1
  have yb2 : w2.cell? ⟨w.heap.size + 1, 2, none⟩ = some (.string ⟨#[]⟩) := Bb2.out.cell 2
  have yb3 : w2.cell? ⟨w.heap.size + 1, 3, none⟩ = some (.int .i64 0) := Bb2.out.cell 3
  have yr0 : w2.cell? ⟨w.heap.size + 1 + 1, 0, none⟩ = some (.int .i64 0) := Br2.out.cell 0
  have yr1 : w2.cell? ⟨w.heap.size + 1 + 1, 1, none⟩ = some (.bool false) := Br2.out.cell 1
  have yr2 : w2.cell? ⟨w.heap.size + 1 + 1, 2, none⟩ = some (.string ⟨#[]⟩) := Br2.out.cell 2
  have yr3 : w2.cell? ⟨w.heap.size + 1 + 1, 3, none⟩ = some (.int .i64 0) := Br2.out.cell 3
  have fr0 := Br2.out.free 0
  have fr1 := Br2.out.free 1
  have fr2 := Br2.out.free 2
  have fr3 := Br2.out.free 3
  go_wp2
  refine bodyPost_ret (results_dec2 rfl _ _ _ _ _ _ _ rfl (Br2.out.put4 _ _ _ _)) rfl ?_
  exact ⟨rfl, below_put4 (HB2.out) (by omega) _ _ _ _⟩

set_option maxRecDepth 100000 in
set_option maxHeartbeats 2000000 in
theorem Add_if (na : Bool) (nb : Bool) (tb : ByteArray) (eb : Int) (w : World) (ha : MayD  1 na (bys ⟨#[]⟩) ( 0)) (hb0 : MayD  0 nb (bys tb) ( eb)) : Calls Tryz.prog 19 #[.agg #[.int .i64 1, .bool na, .string ⟨#[]⟩, .int .i64 0], .agg #[.int .i64 0, .bool nb, .string tb, .int .i64 eb]] w fun e w' => e = .returned (.tuple #[.agg #[.int .i64 1, .bool na, .string ⟨#[]⟩, .int .i64 0], .int .i64 0]) ∧ Below w.heap.size w w' := by
  have MA := hide (fun W => dmay_yes  1 na ⟨#[]⟩ ( 0) W ha)
  have MB := hide (fun W => dmay_yes  0 nb tb ( eb) W hb0)
  clear ha hb0
  have Ba0 := hide (((Blk.newAt w (w.heap.size) (rfl) #[.int .i64 1, .bool na, .string ⟨#[]⟩, .int .i64 0] 23).alloc (.cells #[.int .i64 0, .bool nb, .string tb, .int .i64 eb] 23)).alloc (.cells #[.int .i64 0, .bool false, .string ⟨#[]⟩, .int .i64 0] 23))
  have Bb0 := hide ((Blk.newAt (w.alloc (.cells #[.int .i64 1, .bool na, .string ⟨#[]⟩, .int .i64 0] 23)) (w.heap.size + 1) (by simp) #[.int .i64 0, .bool nb, .string tb, .int .i64 eb] 23).alloc (.cells #[.int .i64 0, .bool false, .string ⟨#[]⟩, .int .i64 0] 23))
  have Br0 := hide (Blk.newAt ((w.alloc (.cells #[.int .i64 1, .bool na, .string ⟨#[]⟩, .int .i64 0] 23)).alloc (.cells #[.int .i64 0, .bool nb, .string tb, .int .i64 eb] 23)) (w.heap.size + 1 + 1) (by simp) #[.int .i64 0, .bool false, .string ⟨#[]⟩, .int .i64 0] 23)
  have HB0 : Hid (Below w.heap.size w (((w.alloc (.cells #[.int .i64 1, .bool na, .string ⟨#[]⟩, .int .i64 0] 23)).alloc (.cells #[.int .i64 0, .bool nb, .string tb, .int .i64 eb] 23)).alloc (.cells #[.int .i64 0, .bool false, .string ⟨#[]⟩, .int .i64 0] 23))) := ((((Below.refl _ _).alloc (Nat.le_refl _) _).alloc (by simp <;> omega) _).alloc (by simp <;> omega) _)
  go_enter Tryz.func19, Tryz.ntmps19
  go_wp2_with fail
  refine (MA.out _).mono ?_
  rintro e w1 ⟨rfl, hb⟩
  have Ba1 := hide (Ba0.out.below hb Ba0.out.lt)
  have Bb1 := hide (Bb0.out.below hb Bb0.out.lt)
  have Br1 := hide (Br0.out.below hb Br0.out.lt)
  have HB1 := hide (HB0.out.trans (hb.mono HB0.out.size))
  clear hb Ba0 Bb0 Br0 HB0 
  have ya0 : w1.cell? ⟨w.heap.size, 0, none⟩ = some (.int .i64 1) := Ba1.out.cell 0
  have ya1 : w1.cell? ⟨w.heap.size, 1, none⟩ = some (.bool na) := Ba1.out.cell 1
  have ya2 : w1.cell? ⟨w.heap.size, 2, none⟩ = some (.string ⟨#[]⟩) := Ba1.out.cell 2
  have ya3 : w1.cell? ⟨w.heap.size, 3, none⟩ = some (.int .i64 0) := Ba1.out.cell 3
  have yb0 : w1.cell? ⟨w.heap.size + 1, 0, none⟩ = some (.int .i64 0) := Bb1.out.cell 0
  have yb1 : w1.cell? ⟨w.heap.size + 1, 1, none⟩ = some (.bool nb) := Bb1.out.cell 1
  have yb2 : w1.cell? ⟨w.heap.size + 1, 2, none⟩ = some (.string tb) := Bb1.out.cell 2
  have yb3 : w1.cell? ⟨w.heap.size + 1, 3, none⟩ = some (.int .i64 eb) := Bb1.out.cell 3
  have yr0 : w1.cell? ⟨w.heap.size + 1 + 1, 0, none⟩ = some (.int .i64 0) := Br1.out.cell 0
  have yr1 : w1.cell? ⟨w.heap.size + 1 + 1, 1, none⟩ = some (.bool false) := Br1.out.cell 1
  have yr2 : w1.cell? ⟨w.heap.size + 1 + 1, 2, none⟩ = some (.string ⟨#[]⟩) := Br1.out.cell 2
  have yr3 : w1.cell? ⟨w.heap.size + 1 + 1, 3, none⟩ = some (.int .i64 0) := Br1.out.cell 3
  go_wp2_with fail
  refine (MB.out _).mono ?_
  rintro e w2 ⟨rfl, hb⟩
  have Ba2 := hide (Ba1.out.below hb Ba1.out.lt)
  have Bb2 := hide (Bb1.out.below hb Bb1.out.lt)
  have Br2 := hide (Br1.out.below hb Br1.out.lt)
  have HB2 := hide (HB1.out.trans (hb.mono HB1.out.size))
  clear hb Ba1 Bb1 Br1 HB1 ya0 ya1 ya2 ya3 yb0 yb1 yb2 yb3 yr0 yr1 yr2 yr3
  have ya0 : w2.cell? ⟨w.heap.size, 0, none⟩ = some (.int .i64 1) := Ba2.out.cell 0
  have ya1 : w2.cell? ⟨w.heap.size, 1, none⟩ = some (.bool na) := Ba2.out.cell 1
  have ya2 : w2.cell? ⟨w.heap.size, 2, none⟩ = some (.string ⟨#[]⟩) := Ba2.out.cell 2
  have ya3 : w2.cell? ⟨w.heap.size, 3, none⟩ = some (.int .i64 0) := Ba2.out.cell 3
  have yb0 : w2.cell? ⟨w.heap.size + 1, 0, none⟩ = some (.int .i64 0) := Bb2.out.cell 0
  have yb1 : w2.cell? ⟨w.heap.size + 1, 1, none⟩ = some (.bool nb) := Bb2.out.cell 1
  have yb2 : w2.cell? ⟨w.heap.size + 1, 2, none⟩ = some (.string tb) := Bb2.out.cell 2
  have yb3 : w2.cell? ⟨w.heap.size + 1, 3, none⟩ = some (.int .i64 eb) := Bb2.out.cell 3
  have yr0 : w2.cell? ⟨w.heap.size + 1 + 1, 0, none⟩ = some (.int .i64 0) := Br2.out.cell 0
  have yr1 : w2.cell? ⟨w.heap.size + 1 + 1, 1, none⟩ = some (.bool false) := Br2.out.cell 1
  have yr2 : w2.cell? ⟨w.heap.size + 1 + 1, 2, none⟩ = some (.string ⟨#[]⟩) := Br2.out.cell 2
  have yr3 : w2.cell? ⟨w.heap.size + 1 + 1, 3, none⟩ = some (.int .i64 0) := Br2.out.cell 3
  have fr0 := Br2.out.free 0
  have fr1 := Br2.out.free 1
  have fr2 := Br2.out.free 2
  have fr3 := Br2.out.free 3
  go_wp2
  refine bodyPost_ret (results_dec2 rfl _ _ _ _ _ _ _ rfl (Br2.out.put4 _ _ _ _)) rfl ?_
  exact ⟨rfl, below_put4 (HB2.out) (by omega) _ _ _ _⟩

set_option maxRecDepth 100000 in
set_option maxHeartbeats 2000000 in
theorem Add_fi (na : Bool) (ta : ByteArray) (ea : Int) (nb : Bool) (w : World) (ha : MayD  0 na (bys ta) ( ea)) (hb0 : MayD  1 nb (bys ⟨#[]⟩) ( 0)) : Calls Tryz.prog 19 #[.agg #[.int .i64 0, .bool na, .string ta, .int .i64 ea], .agg #[.int .i64 1, .bool nb, .string ⟨#[]⟩, .int .i64 0]] w fun e w' => e = .returned (.tuple #[.agg #[.int .i64 1, .bool nb, .string ⟨#[]⟩, .int .i64 0], .int .i64 0]) ∧ Below w.heap.size w w' := by
  have MA := hide (fun W => dmay_yes  0 na ta ( ea) W ha)
  have MB := hide (fun W => dmay_yes  1 nb ⟨#[]⟩ ( 0) W hb0)
  clear ha hb0
  have Ba0 := hide (((Blk.newAt w (w.heap.size) (rfl) #[.int .i64 0, .bool na, .string ta, .int .i64 ea] 23).alloc (.cells #[.int .i64 1, .bool nb, .string ⟨#[]⟩, .int .i64 0] 23)).alloc (.cells #[.int .i64 0, .bool false, .string ⟨#[]⟩, .int .i64 0] 23))
  have Bb0 := hide ((Blk.newAt (w.alloc (.cells #[.int .i64 0, .bool na, .string ta, .int .i64 ea] 23)) (w.heap.size + 1) (by simp) #[.int .i64 1, .bool nb, .string ⟨#[]⟩, .int .i64 0] 23).alloc (.cells #[.int .i64 0, .bool false, .string ⟨#[]⟩, .int .i64 0] 23))
  have Br0 := hide (Blk.newAt ((w.alloc (.cells #[.int .i64 0, .bool na, .string ta, .int .i64 ea] 23)).alloc (.cells #[.int .i64 1, .bool nb, .string ⟨#[]⟩, .int .i64 0] 23)) (w.heap.size + 1 + 1) (by simp) #[.int .i64 0, .bool false, .string ⟨#[]⟩, .int .i64 0] 23)
  have HB0 : Hid (Below w.heap.size w (((w.alloc (.cells #[.int .i64 0, .bool na, .string ta, .int .i64 ea] 23)).alloc (.cells #[.int .i64 1, .bool nb, .string ⟨#[]⟩, .int .i64 0] 23)).alloc (.cells #[.int .i64 0, .bool false, .string ⟨#[]⟩, .int .i64 0] 23))) := ((((Below.refl _ _).alloc (Nat.le_refl _) _).alloc (by simp <;> omega) _).alloc (by simp <;> omega) _)
  go_enter Tryz.func19, Tryz.ntmps19
  go_wp2_with fail
  refine (MA.out _).mono ?_
  rintro e w1 ⟨rfl, hb⟩
  have Ba1 := hide (Ba0.out.below hb Ba0.out.lt)
  have Bb1 := hide (Bb0.out.below hb Bb0.out.lt)
  have Br1 := hide (Br0.out.below hb Br0.out.lt)
  have HB1 := hide (HB0.out.trans (hb.mono HB0.out.size))
  clear hb Ba0 Bb0 Br0 HB0 
  have ya0 : w1.cell? ⟨w.heap.size, 0, none⟩ = some (.int .i64 0) := Ba1.out.cell 0
  have ya1 : w1.cell? ⟨w.heap.size, 1, none⟩ = some (.bool na) := Ba1.out.cell 1
  have ya2 : w1.cell? ⟨w.heap.size, 2, none⟩ = some (.string ta) := Ba1.out.cell 2
  have ya3 : w1.cell? ⟨w.heap.size, 3, none⟩ = some (.int .i64 ea) := Ba1.out.cell 3
  have yb0 : w1.cell? ⟨w.heap.size + 1, 0, none⟩ = some (.int .i64 1) := Bb1.out.cell 0
  have yb1 : w1.cell? ⟨w.heap.size + 1, 1, none⟩ = some (.bool nb) := Bb1.out.cell 1
  have yb2 : w1.cell? ⟨w.heap.size + 1, 2, none⟩ = some (.string ⟨#[]⟩) := Bb1.out.cell 2
  have yb3 : w1.cell? ⟨w.heap.size + 1, 3, none⟩ = some (.int .i64 0) := Bb1.out.cell 3
  have yr0 : w1.cell? ⟨w.heap.size + 1 + 1, 0, none⟩ = some (.int .i64 0) := Br1.out.cell 0
  have yr1 : w1.cell? ⟨w.heap.size + 1 + 1, 1, none⟩ = some (.bool false) := Br1.out.cell 1
  have yr2 : w1.cell? ⟨w.heap.size + 1 + 1, 2, none⟩ = some (.string ⟨#[]⟩) := Br1.out.cell 2
  have yr3 : w1.cell? ⟨w.heap.size + 1 + 1, 3, none⟩ = some (.int .i64 0) := Br1.out.cell 3
  go_wp2_with fail
  refine (MB.out _).mono ?_
  rintro e w2 ⟨rfl, hb⟩
  have Ba2 := hide (Ba1.out.below hb Ba1.out.lt)
  have Bb2 := hide (Bb1.out.below hb Bb1.out.lt)
  have Br2 := hide (Br1.out.below hb Br1.out.lt)
  have HB2 := hide (HB1.out.trans (hb.mono HB1.out.size))
  clear hb Ba1 Bb1 Br1 HB1 ya0 ya1 ya2 ya3 yb0 yb1 yb2 yb3 yr0 yr1 yr2 yr3
  have ya0 : w2.cell? ⟨w.heap.size, 0, none⟩ = some (.int .i64 0) := Ba2.out.cell 0
  have ya1 : w2.cell? ⟨w.heap.size, 1, none⟩ = some (.bool na) := Ba2.out.cell 1
  have ya2 : w2.cell? ⟨w.heap.size, 2, none⟩ = some (.string ta) := Ba2.out.cell 2
  have ya3 : w2.cell? ⟨w.heap.size, 3, none⟩ = some (.int .i64 ea) := Ba2.out.cell 3
  have yb0 : w2.cell? ⟨w.heap.size + 1, 0, none⟩ = some (.int .i64 1) := Bb2.out.cell 0
  have yb1 : w2.cell? ⟨w.heap.size + 1, 1, none⟩ = some (.bool nb) := Bb2.out.cell 1
  have yb2 : w2.cell? ⟨w.heap.size + 1, 2, none⟩ = some (.string ⟨#[]⟩) := Bb2.out.cell 2
  have yb3 : w2.cell? ⟨w.heap.size + 1, 3, none⟩ = some (.int .i64 0) := Bb2.out.cell 3
  have yr0 : w2.cell? ⟨w.heap.size + 1 + 1, 0, none⟩ = some (.int .i64 0) := Br2.out.cell 0
  have yr1 : w2.cell? ⟨w.heap.size + 1 + 1, 1, none⟩ = some (.bool false) := Br2.out.cell 1
  have yr2 : w2.cell? ⟨w.heap.size + 1 + 1, 2, none⟩ = some (.string ⟨#[]⟩) := Br2.out.cell 2
  have yr3 : w2.cell? ⟨w.heap.size + 1 + 1, 3, none⟩ = some (.int .i64 0) := Br2.out.cell 3
  have fr0 := Br2.out.free 0
  have fr1 := Br2.out.free 1
  have fr2 := Br2.out.free 2
  have fr3 := Br2.out.free 3
  go_wp2
  refine bodyPost_ret (results_dec2 rfl _ _ _ _ _ _ _ rfl (Br2.out.put4 _ _ _ _)) rfl ?_
  exact ⟨rfl, below_put4 (HB2.out) (by omega) _ _ _ _⟩

set_option maxRecDepth 100000 in
set_option maxHeartbeats 2000000 in
theorem Add_ii_true_true (w : World) (ha : MayD  1 true (bys ⟨#[]⟩) ( 0)) (hb0 : MayD  1 true (bys ⟨#[]⟩) ( 0)) : Calls Tryz.prog 19 #[.agg #[.int .i64 1, .bool true, .string ⟨#[]⟩, .int .i64 0], .agg #[.int .i64 1, .bool true, .string ⟨#[]⟩, .int .i64 0]] w fun e w' => e = .returned (.tuple #[.agg #[.int .i64 1, .bool true, .string ⟨#[]⟩, .int .i64 0], .int .i64 0]) ∧ Below w.heap.size w w' := by
  have MA := hide (fun W => dmay_yes  1 true ⟨#[]⟩ ( 0) W ha)
  have MB := hide (fun W => dmay_yes  1 true ⟨#[]⟩ ( 0) W hb0)
  clear ha hb0
  have Ba0 := hide (((Blk.newAt w (w.heap.size) (rfl) #[.int .i64 1, .bool true, .string ⟨#[]⟩, .int .i64 0] 23).alloc (.cells #[.int .i64 1, .bool true, .string ⟨#[]⟩, .int .i64 0] 23)).alloc (.cells #[.int .i64 0, .bool false, .string ⟨#[]⟩, .int .i64 0] 23))
  have Bb0 := hide ((Blk.newAt (w.alloc (.cells #[.int .i64 1, .bool true, .string ⟨#[]⟩, .int .i64 0] 23)) (w.heap.size + 1) (by simp) #[.int .i64 1, .bool true, .string ⟨#[]⟩, .int .i64 0] 23).alloc (.cells #[.int .i64 0, .bool false, .string ⟨#[]⟩, .int .i64 0] 23))
  have Br0 := hide (Blk.newAt ((w.alloc (.cells #[.int .i64 1, .bool true, .string ⟨#[]⟩, .int .i64 0] 23)).alloc (.cells #[.int .i64 1, .bool true, .string ⟨#[]⟩, .int .i64 0] 23)) (w.heap.size + 1 + 1) (by simp) #[.int .i64 0, .bool false, .string ⟨#[]⟩, .int .i64 0] 23)
  have HB0 : Hid (Below w.heap.size w (((w.alloc (.cells #[.int .i64 1, .bool true, .string ⟨#[]⟩, .int .i64 0] 23)).alloc (.cells #[.int .i64 1, .bool true, .string ⟨#[]⟩, .int .i64 0] 23)).alloc (.cells #[.int .i64 0, .bool false, .string ⟨#[]⟩, .int .i64 0] 23))) := ((((Below.refl _ _).alloc (Nat.le_refl _) _).alloc (by simp <;> omega) _).alloc (by simp <;> omega) _)
  go_enter Tryz.func19, Tryz.ntmps19
  go_wp2_with fail
  refine (MA.out _).mono ?_
  rintro e w1 ⟨rfl, hb⟩
  have Ba1 := hide (Ba0.out.below hb Ba0.out.lt)
  have Bb1 := hide (Bb0.out.below hb Bb0.out.lt)
  have Br1 := hide (Br0.out.below hb Br0.out.lt)
  have HB1 := hide (HB0.out.trans (hb.mono HB0.out.size))
  clear hb Ba0 Bb0 Br0 HB0 
  have ya0 : w1.cell? ⟨w.heap.size, 0, none⟩ = some (.int .i64 1) := Ba1.out.cell 0
  have ya1 : w1.cell? ⟨w.heap.size, 1, none⟩ = some (.bool true) := Ba1.out.cell 1
  have ya2 : w1.cell? ⟨w.heap.size, 2, none⟩ = some (.string ⟨#[]⟩) := Ba1.out.cell 2
  have ya3 : w1.cell? ⟨w.heap.size, 3, none⟩ = some (.int .i64 0) := Ba1.out.cell 3
  have yb0 : w1.cell? ⟨w.heap.size + 1, 0, none⟩ = some (.int .i64 1) := Bb1.out.cell 0
  have yb1 : w1.cell? ⟨w.heap.size + 1, 1, none⟩ = some (.bool true) := Bb1.out.cell 1
  have yb2 : w1.cell? ⟨w.heap.size + 1, 2, none⟩ = some (.string ⟨#[]⟩) := Bb1.out.cell 2
  have yb3 : w1.cell? ⟨w.heap.size + 1, 3, none⟩ = some (.int .i64 0) := Bb1.out.cell 3
  have yr0 : w1.cell? ⟨w.heap.size + 1 + 1, 0, none⟩ = some (.int .i64 0) := Br1.out.cell 0
  have yr1 : w1.cell? ⟨w.heap.size + 1 + 1, 1, none⟩ = some (.bool false) := Br1.out.cell 1
  have yr2 : w1.cell? ⟨w.heap.size + 1 + 1, 2, none⟩ = some (.string ⟨#[]⟩) := Br1.out.cell 2
  have yr3 : w1.cell? ⟨w.heap.size + 1 + 1, 3, none⟩ = some (.int .i64 0) := Br1.out.cell 3
  go_wp2_with fail
  refine (MB.out _).mono ?_
  rintro e w2 ⟨rfl, hb⟩
  have Ba2 := hide (Ba1.out.below hb Ba1.out.lt)
  have Bb2 := hide (Bb1.out.below hb Bb1.out.lt)
  have Br2 := hide (Br1.out.below hb Br1.out.lt)
  have HB2 := hide (HB1.out.trans (hb.mono HB1.out.size))
  clear hb Ba1 Bb1 Br1 HB1 ya0 ya1 ya2 ya3 yb0 yb1 yb2 yb3 yr0 yr1 yr2 yr3
  have ya0 : w2.cell? ⟨w.heap.size, 0, none⟩ = some (.int .i64 1) := Ba2.out.cell 0
  have ya1 : w2.cell? ⟨w.heap.size, 1, none⟩ = some (.bool true) := Ba2.out.cell 1
  have ya2 : w2.cell? ⟨w.heap.size, 2, none⟩ = some (.string ⟨#[]⟩) := Ba2.out.cell 2
  have ya3 : w2.cell? ⟨w.heap.size, 3, none⟩ = some (.int .i64 0) := Ba2.out.cell 3
  have yb0 : w2.cell? ⟨w.heap.size + 1, 0, none⟩ = some (.int .i64 1) := Bb2.out.cell 0
  have yb1 : w2.cell? ⟨w.heap.size + 1, 1, none⟩ = some (.bool true) := Bb2.out.cell 1
  have yb2 : w2.cell? ⟨w.heap.size + 1, 2, none⟩ = some (.string ⟨#[]⟩) := Bb2.out.cell 2
  have yb3 : w2.cell? ⟨w.heap.size + 1, 3, none⟩ = some (.int .i64 0) := Bb2.out.cell 3
  have yr0 : w2.cell? ⟨w.heap.size + 1 + 1, 0, none⟩ = some (.int .i64 0) := Br2.out.cell 0
  have yr1 : w2.cell? ⟨w.heap.size + 1 + 1, 1, none⟩ = some (.bool false) := Br2.out.cell 1
  have yr2 : w2.cell? ⟨w.heap.size + 1 + 1, 2, none⟩ = some (.string ⟨#[]⟩) := Br2.out.cell 2
  have yr3 : w2.cell? ⟨w.heap.size + 1 + 1, 3, none⟩ = some (.int .i64 0) := Br2.out.cell 3
  have fr0 := Br2.out.free 0
  have fr1 := Br2.out.free 1
  have fr2 := Br2.out.free 2
  have fr3 := Br2.out.free 3
  go_wp2
  refine bodyPost_ret (results_dec2 rfl _ _ _ _ _ _ _ rfl (Br2.out.put4 _ _ _ _)) rfl ?_
  exact ⟨rfl, below_put4 (HB2.out) (by omega) _ _ _ _⟩

set_option maxRecDepth 100000 in
set_option maxHeartbeats 2000000 in
theorem Add_ii_true_false (w : World) (ha : MayD  1 true (bys ⟨#[]⟩) ( 0)) (hb0 : MayD  1 false (bys ⟨#[]⟩) ( 0)) : Calls Tryz.prog 19 #[.agg #[.int .i64 1, .bool true, .string ⟨#[]⟩, .int .i64 0], .agg #[.int .i64 1, .bool false, .string ⟨#[]⟩, .int .i64 0]] w fun e w' => e = .returned (.tuple #[.agg #[.int .i64 2, .bool false, .string ⟨#[]⟩, .int .i64 0], .int .i64 0]) ∧ Below w.heap.size w w' := by
  have MA := hide (fun W => dmay_yes  1 true ⟨#[]⟩ ( 0) W ha)
  have MB := hide (fun W => dmay_yes  1 false ⟨#[]⟩ ( 0) W hb0)
  clear ha hb0
  have Ba0 := hide (((Blk.newAt w (w.heap.size) (rfl) #[.int .i64 1, .bool true, .string ⟨#[]⟩, .int .i64 0] 23).alloc (.cells #[.int .i64 1, .bool false, .string ⟨#[]⟩, .int .i64 0] 23)).alloc (.cells #[.int .i64 0, .bool false, .string ⟨#[]⟩, .int .i64 0] 23))
  have Bb0 := hide ((Blk.newAt (w.alloc (.cells #[.int .i64 1, .bool true, .string ⟨#[]⟩, .int .i64 0] 23)) (w.heap.size + 1) (by simp) #[.int .i64 1, .bool false, .string ⟨#[]⟩, .int .i64 0] 23).alloc (.cells #[.int .i64 0, .bool false, .string ⟨#[]⟩, .int .i64 0] 23))
  have Br0 := hide (Blk.newAt ((w.alloc (.cells #[.int .i64 1, .bool true, .string ⟨#[]⟩, .int .i64 0] 23)).alloc (.cells #[.int .i64 1, .bool false, .string ⟨#[]⟩, .int .i64 0] 23)) (w.heap.size + 1 + 1) (by simp) #[.int .i64 0, .bool false, .string ⟨#[]⟩, .int .i64 0] 23)
  have HB0 : Hid (Below w.heap.size w (((w.alloc (.cells #[.int .i64 1, .bool true, .string ⟨#[]⟩, .int .i64 0] 23)).alloc (.cells #[.int .i64 1, .bool false, .string ⟨#[]⟩, .int .i64 0] 23)).alloc (.cells #[.int .i64 0, .bool false, .string ⟨#[]⟩, .int .i64 0] 23))) := ((((Below.refl _ _).alloc (Nat.le_refl _) _).alloc (by simp <;> omega) _).alloc (by simp <;> omega) _)
  go_enter Tryz.func19, Tryz.ntmps19
  go_wp2_with fail
  refine (MA.out _).mono ?_
  rintro e w1 ⟨rfl, hb⟩
  have Ba1 := hide (Ba0.out.below hb Ba0.out.lt)
  have Bb1 := hide (Bb0.out.below hb Bb0.out.lt)
  have Br1 := hide (Br0.out.below hb Br0.out.lt)
  have HB1 := hide (HB0.out.trans (hb.mono HB0.out.size))
  clear hb Ba0 Bb0 Br0 HB0 
  have ya0 : w1.cell? ⟨w.heap.size, 0, none⟩ = some (.int .i64 1) := Ba1.out.cell 0
  have ya1 : w1.cell? ⟨w.heap.size, 1, none⟩ = some (.bool true) := Ba1.out.cell 1
  have ya2 : w1.cell? ⟨w.heap.size, 2, none⟩ = some (.string ⟨#[]⟩) := Ba1.out.cell 2
  have ya3 : w1.cell? ⟨w.heap.size, 3, none⟩ = some (.int .i64 0) := Ba1.out.cell 3
  have yb0 : w1.cell? ⟨w.heap.size + 1, 0, none⟩ = some (.int .i64 1) := Bb1.out.cell 0
  have yb1 : w1.cell? ⟨w.heap.size + 1, 1, none⟩ = some (.bool false) := Bb1.out.cell 1
  have yb2 : w1.cell? ⟨w.heap.size + 1, 2, none⟩ = some (.string ⟨#[]⟩) := Bb1.out.cell 2
  have yb3 : w1.cell? ⟨w.heap.size + 1, 3, none⟩ = some (.int .i64 0) := Bb1.out.cell 3
  have yr0 : w1.cell? ⟨w.heap.size + 1 + 1, 0, none⟩ = some (.int .i64 0) := Br1.out.cell 0
  have yr1 : w1.cell? ⟨w.heap.size + 1 + 1, 1, none⟩ = some (.bool false) := Br1.out.cell 1
  have yr2 : w1.cell? ⟨w.heap.size + 1 + 1, 2, none⟩ = some (.string ⟨#[]⟩) := Br1.out.cell 2
  have yr3 : w1.cell? ⟨w.heap.size + 1 + 1, 3, none⟩ = some (.int .i64 0) := Br1.out.cell 3
  go_wp2_with fail
  refine (MB.out _).mono ?_
  rintro e w2 ⟨rfl, hb⟩
  have Ba2 := hide (Ba1.out.below hb Ba1.out.lt)
  have Bb2 := hide (Bb1.out.below hb Bb1.out.lt)
  have Br2 := hide (Br1.out.below hb Br1.out.lt)
  have HB2 := hide (HB1.out.trans (hb.mono HB1.out.size))
  clear hb Ba1 Bb1 Br1 HB1 ya0 ya1 ya2 ya3 yb0 yb1 yb2 yb3 yr0 yr1 yr2 yr3
  have ya0 : w2.cell? ⟨w.heap.size, 0, none⟩ = some (.int .i64 1) := Ba2.out.cell 0
  have ya1 : w2.cell? ⟨w.heap.size, 1, none⟩ = some (.bool true) := Ba2.out.cell 1
  have ya2 : w2.cell? ⟨w.heap.size, 2, none⟩ = some (.string ⟨#[]⟩) := Ba2.out.cell 2
  have ya3 : w2.cell? ⟨w.heap.size, 3, none⟩ = some (.int .i64 0) := Ba2.out.cell 3
  have yb0 : w2.cell? ⟨w.heap.size + 1, 0, none⟩ = some (.int .i64 1) := Bb2.out.cell 0
  have yb1 : w2.cell? ⟨w.heap.size + 1, 1, none⟩ = some (.bool false) := Bb2.out.cell 1
  have yb2 : w2.cell? ⟨w.heap.size + 1, 2, none⟩ = some (.string ⟨#[]⟩) := Bb2.out.cell 2
  have yb3 : w2.cell? ⟨w.heap.size + 1, 3, none⟩ = some (.int .i64 0) := Bb2.out.cell 3
  have yr0 : w2.cell? ⟨w.heap.size + 1 + 1, 0, none⟩ = some (.int .i64 0) := Br2.out.cell 0
  have yr1 : w2.cell? ⟨w.heap.size + 1 + 1, 1, none⟩ = some (.bool false) := Br2.out.cell 1
  have yr2 : w2.cell? ⟨w.heap.size + 1 + 1, 2, none⟩ = some (.string ⟨#[]⟩) := Br2.out.cell 2
  have yr3 : w2.cell? ⟨w.heap.size + 1 + 1, 3, none⟩ = some (.int .i64 0) := Br2.out.cell 3
  have fr0 := Br2.out.free 0
  have fr1 := Br2.out.free 1
  have fr2 := Br2.out.free 2
  have fr3 := Br2.out.free 3
  go_wp2
  refine bodyPost_ret (results_dec2 rfl _ _ _ _ _ _ _ rfl (Br2.out.put4 _ _ _ _)) rfl ?_
  exact ⟨rfl, below_put4 (HB2.out) (by omega) _ _ _ _⟩

set_option maxRecDepth 100000 in
set_option maxHeartbeats 2000000 in
theorem Add_ii_false_true (w : World) (ha : MayD  1 false (bys ⟨#[]⟩) ( 0)) (hb0 : MayD  1 true (bys ⟨#[]⟩) ( 0)) : Calls Tryz.prog 19 #[.agg #[.int .i64 1, .bool false, .string ⟨#[]⟩, .int .i64 0], .agg #[.int .i64 1, .bool true, .string ⟨#[]⟩, .int .i64 0]] w fun e w' => e = .returned (.tuple #[.agg #[.int .i64 2, .bool false, .string ⟨#[]⟩, .int .i64 0], .int .i64 0]) ∧ Below w.heap.size w w' := by
  have MA := hide (fun W => dmay_yes  1 false ⟨#[]⟩ ( 0) W ha)
  have MB := hide (fun W => dmay_yes  1 true ⟨#[]⟩ ( 0) W hb0)
  clear ha hb0
  have Ba0 := hide (((Blk.newAt w (w.heap.size) (rfl) #[.int .i64 1, .bool false, .string ⟨#[]⟩, .int .i64 0] 23).alloc (.cells #[.int .i64 1, .bool true, .string ⟨#[]⟩, .int .i64 0] 23)).alloc (.cells #[.int .i64 0, .bool false, .string ⟨#[]⟩, .int .i64 0] 23))
  have Bb0 := hide ((Blk.newAt (w.alloc (.cells #[.int .i64 1, .bool false, .string ⟨#[]⟩, .int .i64 0] 23)) (w.heap.size + 1) (by simp) #[.int .i64 1, .bool true, .string ⟨#[]⟩, .int .i64 0] 23).alloc (.cells #[.int .i64 0, .bool false, .string ⟨#[]⟩, .int .i64 0] 23))
  have Br0 := hide (Blk.newAt ((w.alloc (.cells #[.int .i64 1, .bool false, .string ⟨#[]⟩, .int .i64 0] 23)).alloc (.cells #[.int .i64 1, .bool true, .string ⟨#[]⟩, .int .i64 0] 23)) (w.heap.size + 1 + 1) (by simp) #[.int .i64 0, .bool false, .string ⟨#[]⟩, .int .i64 0] 23)
  have HB0 : Hid (Below w.heap.size w (((w.alloc (.cells #[.int .i64 1, .bool false, .string ⟨#[]⟩, .int .i64 0] 23)).alloc (.cells #[.int .i64 1, .bool true, .string ⟨#[]⟩, .int .i64 0] 23)).alloc (.cells #[.int .i64 0, .bool false, .string ⟨#[]⟩, .int .i64 0] 23))) := ((((Below.refl _ _).alloc (Nat.le_refl _) _).alloc (by simp <;> omega) _).alloc (by simp <;> omega) _)
  go_enter Tryz.func19, Tryz.ntmps19
  go_wp2_with fail
  refine (MA.out _).mono ?_
  rintro e w1 ⟨rfl, hb⟩
  have Ba1 := hide (Ba0.out.below hb Ba0.out.lt)
  have Bb1 := hide (Bb0.out.below hb Bb0.out.lt)
  have Br1 := hide (Br0.out.below hb Br0.out.lt)
  have HB1 := hide (HB0.out.trans (hb.mono HB0.out.size))
  clear hb Ba0 Bb0 Br0 HB0 
  have ya0 : w1.cell? ⟨w.heap.size, 0, none⟩ = some (.int .i64 1) := Ba1.out.cell 0
  have ya1 : w1.cell? ⟨w.heap.size, 1, none⟩ = some (.bool false) := Ba1.out.cell 1
  have ya2 : w1.cell? ⟨w.heap.size, 2, none⟩ = some (.string ⟨#[]⟩) := Ba1.out.cell 2
  have ya3 : w1.cell? ⟨w.heap.size, 3, none⟩ = some (.int .i64 0) := Ba1.out.cell 3
  have yb0 : w1.cell? ⟨w.heap.size + 1, 0, none⟩ = some (.int .i64 1) := Bb1.out.cell 0
  have yb1 : w1.cell? ⟨w.heap.size + 1, 1, none⟩ = some (.bool true) := Bb1.out.cell 1
  have yb2 : w1.cell? ⟨w.heap.size + 1, 2, none⟩ = some (.string ⟨#[]⟩) := Bb1.out.cell 2
  have yb3 : w1.cell? ⟨w.heap.size + 1, 3, none⟩ = some (.int .i64 0) := Bb1.out.cell 3
  have yr0 : w1.cell? ⟨w.heap.size + 1 + 1, 0, none⟩ = some (.int .i64 0) := Br1.out.cell 0
  have yr1 : w1.cell? ⟨w.heap.size + 1 + 1, 1, none⟩ = some (.bool false) := Br1.out.cell 1
  have yr2 : w1.cell? ⟨w.heap.size + 1 + 1, 2, none⟩ = some (.string ⟨#[]⟩) := Br1.out.cell 2
  have yr3 : w1.cell? ⟨w.heap.size + 1 + 1, 3, none⟩ = some (.int .i64 0) := Br1.out.cell 3
  go_wp2_with fail
  refine (MB.out _).mono ?_
  rintro e w2 ⟨rfl, hb⟩
  have Ba2 := hide (Ba1.out.below hb Ba1.out.lt)
  have Bb2 := hide (Bb1.out.below hb Bb1.out.lt)
  have Br2 := hide (Br1.out.below hb Br1.out.lt)
  have HB2 := hide (HB1.out.trans (hb.mono HB1.out.size))
  clear hb Ba1 Bb1 Br1 HB1 ya0 ya1 ya2 ya3 yb0 yb1 yb2 yb3 yr0 yr1 yr2 yr3
  have ya0 : w2.cell? ⟨w.heap.size, 0, none⟩ = some (.int .i64 1) := Ba2.out.cell 0
  have ya1 : w2.cell? ⟨w.heap.size, 1, none⟩ = some (.bool false) := Ba2.out.cell 1
  have ya2 : w2.cell? ⟨w.heap.size, 2, none⟩ = some (.string ⟨#[]⟩) := Ba2.out.cell 2
  have ya3 : w2.cell? ⟨w.heap.size, 3, none⟩ = some (.int .i64 0) := Ba2.out.cell 3
  have yb0 : w2.cell? ⟨w.heap.size + 1, 0, none⟩ = some (.int .i64 1) := Bb2.out.cell 0
  have yb1 : w2.cell? ⟨w.heap.size + 1, 1, none⟩ = some (.bool true) := Bb2.out.cell 1
  have yb2 : w2.cell? ⟨w.heap.size + 1, 2, none⟩ = some (.string ⟨#[]⟩) := Bb2.out.cell 2
  have yb3 : w2.cell? ⟨w.heap.size + 1, 3, none⟩ = some (.int .i64 0) := Bb2.out.cell 3
  have yr0 : w2.cell? ⟨w.heap.size + 1 + 1, 0, none⟩ = some (.int .i64 0) := Br2.out.cell 0
  have yr1 : w2.cell? ⟨w.heap.size + 1 + 1, 1, none⟩ = some (.bool false) := Br2.out.cell 1
  have yr2 : w2.cell? ⟨w.heap.size + 1 + 1, 2, none⟩ = some (.string ⟨#[]⟩) := Br2.out.cell 2
  have yr3 : w2.cell? ⟨w.heap.size + 1 + 1, 3, none⟩ = some (.int .i64 0) := Br2.out.cell 3
  have fr0 := Br2.out.free 0
  have fr1 := Br2.out.free 1
  have fr2 := Br2.out.free 2
  have fr3 := Br2.out.free 3
  go_wp2
  refine bodyPost_ret (results_dec2 rfl _ _ _ _ _ _ _ rfl (Br2.out.put4 _ _ _ _)) rfl ?_
  exact ⟨rfl, below_put4 (HB2.out) (by omega) _ _ _ _⟩

set_option maxRecDepth 100000 in
set_option maxHeartbeats 2000000 in
theorem Add_ii_false_false (w : World) (ha : MayD  1 false (bys ⟨#[]⟩) ( 0)) (hb0 : MayD  1 false (bys ⟨#[]⟩) ( 0)) : Calls Tryz.prog 19 #[.agg #[.int .i64 1, .bool false, .string ⟨#[]⟩, .int .i64 0], .agg #[.int .i64 1, .bool false, .string ⟨#[]⟩, .int .i64 0]] w fun e w' => e = .returned (.tuple #[.agg #[.int .i64 1, .bool false, .string ⟨#[]⟩, .int .i64 0], .int .i64 0]) ∧ Below w.heap.size w w' := by
  have MA := hide (fun W => dmay_yes  1 false ⟨#[]⟩ ( 0) W ha)
  have MB := hide (fun W => dmay_yes  1 false ⟨#[]⟩ ( 0) W hb0)
  clear ha hb0
  have Ba0 := hide (((Blk.newAt w (w.heap.size) (rfl) #[.int .i64 1, .bool false, .string ⟨#[]⟩, .int .i64 0] 23).alloc (.cells #[.int .i64 1, .bool false, .string ⟨#[]⟩, .int .i64 0] 23)).alloc (.cells #[.int .i64 0, .bool false, .string ⟨#[]⟩, .int .i64 0] 23))
  have Bb0 := hide ((Blk.newAt (w.alloc (.cells #[.int .i64 1, .bool false, .string ⟨#[]⟩, .int .i64 0] 23)) (w.heap.size + 1) (by simp) #[.int .i64 1, .bool false, .string ⟨#[]⟩, .int .i64 0] 23).alloc (.cells #[.int .i64 0, .bool false, .string ⟨#[]⟩, .int .i64 0] 23))
  have Br0 := hide (Blk.newAt ((w.alloc (.cells #[.int .i64 1, .bool false, .string ⟨#[]⟩, .int .i64 0] 23)).alloc (.cells #[.int .i64 1, .bool false, .string ⟨#[]⟩, .int .i64 0] 23)) (w.heap.size + 1 + 1) (by simp) #[.int .i64 0, .bool false, .string ⟨#[]⟩, .int .i64 0] 23)
  have HB0 : Hid (Below w.heap.size w (((w.alloc (.cells #[.int .i64 1, .bool false, .string ⟨#[]⟩, .int .i64 0] 23)).alloc (.cells #[.int .i64 1, .bool false, .string ⟨#[]⟩, .int .i64 0] 23)).alloc (.cells #[.int .i64 0, .bool false, .string ⟨#[]⟩, .int .i64 0] 23))) := ((((Below.refl _ _).alloc (Nat.le_refl _) _).alloc (by simp <;> omega) _).alloc (by simp <;> omega) _)
  go_enter Tryz.func19, Tryz.ntmps19
  go_wp2_with fail
  refine (MA.out _).mono ?_
  rintro e w1 ⟨rfl, hb⟩
  have Ba1 := hide (Ba0.out.below hb Ba0.out.lt)
  have Bb1 := hide (Bb0.out.below hb Bb0.out.lt)
  have Br1 := hide (Br0.out.below hb Br0.out.lt)
  have HB1 := hide (HB0.out.trans (hb.mono HB0.out.size))
  clear hb Ba0 Bb0 Br0 HB0 
  have ya0 : w1.cell? ⟨w.heap.size, 0, none⟩ = some (.int .i64 1) := Ba1.out.cell 0
  have ya1 : w1.cell? ⟨w.heap.size, 1, none⟩ = some (.bool false) := Ba1.out.cell 1
  have ya2 : w1.cell? ⟨w.heap.size, 2, none⟩ = some (.string ⟨#[]⟩) := Ba1.out.cell 2
  have ya3 : w1.cell? ⟨w.heap.size, 3, none⟩ = some (.int .i64 0) := Ba1.out.cell 3
  have yb0 : w1.cell? ⟨w.heap.size + 1, 0, none⟩ = some (.int .i64 1) := Bb1.out.cell 0
  have yb1 : w1.cell? ⟨w.heap.size + 1, 1, none⟩ = some (.bool false) := Bb1.out.cell 1
  have yb2 : w1.cell? ⟨w.heap.size + 1, 2, none⟩ = some (.string ⟨#[]⟩) := Bb1.out.cell 2
  have yb3 : w1.cell? ⟨w.heap.size + 1, 3, none⟩ = some (.int .i64 0) := Bb1.out.cell 3
  have yr0 : w1.cell? ⟨w.heap.size + 1 + 1, 0, none⟩ = some (.int .i64 0) := Br1.out.cell 0
  have yr1 : w1.cell? ⟨w.heap.size + 1 + 1, 1, none⟩ = some (.bool false) := Br1.out.cell 1
  have yr2 : w1.cell? ⟨w.heap.size + 1 + 1, 2, none⟩ = some (.string ⟨#[]⟩) := Br1.out.cell 2
  have yr3 : w1.cell? ⟨w.heap.size + 1 + 1, 3, none⟩ = some (.int .i64 0) := Br1.out.cell 3
  go_wp2_with fail
  refine (MB.out _).mono ?_
  rintro e w2 ⟨rfl, hb⟩
  have Ba2 := hide (Ba1.out.below hb Ba1.out.lt)
  have Bb2 := hide (Bb1.out.below hb Bb1.out.lt)
  have Br2 := hide (Br1.out.below hb Br1.out.lt)
  have HB2 := hide (HB1.out.trans (hb.mono HB1.out.size))
  clear hb Ba1 Bb1 Br1 HB1 ya0 ya1 ya2 ya3 yb0 yb1 yb2 yb3 yr0 yr1 yr2 yr3
  have ya0 : w2.cell? ⟨w.heap.size, 0, none⟩ = some (.int .i64 1) := Ba2.out.cell 0
  have ya1 : w2.cell? ⟨w.heap.size, 1, none⟩ = some (.bool false) := Ba2.out.cell 1
  have ya2 : w2.cell? ⟨w.heap.size, 2, none⟩ = some (.string ⟨#[]⟩) := Ba2.out.cell 2
  have ya3 : w2.cell? ⟨w.heap.size, 3, none⟩ = some (.int .i64 0) := Ba2.out.cell 3
  have yb0 : w2.cell? ⟨w.heap.size + 1, 0, none⟩ = some (.int .i64 1) := Bb2.out.cell 0
  have yb1 : w2.cell? ⟨w.heap.size + 1, 1, none⟩ = some (.bool false) := Bb2.out.cell 1
  have yb2 : w2.cell? ⟨w.heap.size + 1, 2, none⟩ = some (.string ⟨#[]⟩) := Bb2.out.cell 2
  have yb3 : w2.cell? ⟨w.heap.size + 1, 3, none⟩ = some (.int .i64 0) := Bb2.out.cell 3
  have yr0 : w2.cell? ⟨w.heap.size + 1 + 1, 0, none⟩ = some (.int .i64 0) := Br2.out.cell 0
  have yr1 : w2.cell? ⟨w.heap.size + 1 + 1, 1, none⟩ = some (.bool false) := Br2.out.cell 1
  have yr2 : w2.cell? ⟨w.heap.size + 1 + 1, 2, none⟩ = some (.string ⟨#[]⟩) := Br2.out.cell 2
  have yr3 : w2.cell? ⟨w.heap.size + 1 + 1, 3, none⟩ = some (.int .i64 0) := Br2.out.cell 3
  have fr0 := Br2.out.free 0
  have fr1 := Br2.out.free 1
  have fr2 := Br2.out.free 2
  have fr3 := Br2.out.free 3
  go_wp2
  refine bodyPost_ret (results_dec2 rfl _ _ _ _ _ _ _ rfl (Br2.out.put4 _ _ _ _)) rfl ?_
  exact ⟨rfl, below_put4 (HB2.out) (by omega) _ _ _ _⟩

end Go.Proofs.YtcclbcnmkaobpaaGreatDoor

namespace Go.Proofs.YtcclbcnmkaobpaaGreatDoor
open Go.RowKit

end Go.Proofs.YtcclbcnmkaobpaaGreatDoor

namespace Go.Proofs.YtcclbcnmkaobpaaGreatDoor
open Go.RowKit

/-- A finite number, counted in 10^x. -/
def zc (d : DecT) (x : Int) : Int := zv d.neg (decV d.dig * 10 ^ (d.exp - x).toNat)

def nanD : DecT := ⟨2, false, [], 0⟩

/-- What Add answers of two that may be. -/
noncomputable def sumT (a b : DecT) : DecT × Int :=
  if a.cls = 0 ∧ b.cls = 0 then tellF (decide (zc a (min a.exp b.exp) + zc b (min a.exp b.exp) < 0) || (a.neg && b.neg)) (zc a (min a.exp b.exp) + zc b (min a.exp b.exp)).natAbs (min a.exp b.exp)
  else if a.cls = 2 ∨ b.cls = 2 then (nanD, 0)
  else if b.cls = 0 then (a, 0)
  else if a.cls = 0 then (b, 0)
  else if a.neg = b.neg then (a, 0) else (nanD, 0)

/-- What Mul answers of two that may be. -/
noncomputable def prodT (a b : DecT) : DecT × Int :=
  if a.cls = 0 ∧ b.cls = 0 then tellF (a.neg != b.neg) (decV a.dig * decV b.dig) (a.exp + b.exp)
  else if a.cls = 2 ∨ b.cls = 2 ∨ (a.cls = 0 ∧ a.dig = []) ∨ (b.cls = 0 ∧ b.dig = []) then (nanD, 0)
  else (⟨1, a.neg != b.neg, [], 0⟩, 0)

/-- A finite one that may be. -/
structure Fz (d : DecT) : Prop where
  cls : d.cls = 0
  len : d.dig.length ≤ 1000
  lo : -3000 ≤ d.exp
  hi : d.exp ≤ 2000
  dig : DigB d.dig

theorem may_fz {d : DecT} (h : May d) (hc : d.cls = 0) : Fz d := by
  rcases may_cases h with ⟨n, rfl⟩ | h | ⟨n, rfl⟩ | rfl
  · exact ⟨rfl, by simp, by simp, by simp, fun k hk => by simp at hk⟩
  · have h1 := h.len
    have h2 := h.lo
    have h3 := h.hi
    exact ⟨h.cls, h1, by omega, by omega, h.dig⟩
  · cases hc
  · cases hc

theorem decVal_0 {d : DecT} (h : d.cls = 0) : decVal d = dcV 0 d.neg ⟨d.dig.toArray⟩ d.exp := by unfold decVal; rw [h]; rfl

theorem zc_lt {d : DecT} (h : Fz d) {x : Int} (hx : -3000 ≤ x) : ∃ k, k ≤ 6000 ∧ (zc d x).natAbs < 10 ^ k := by
  unfold zc
  rw [zv_abs]
  have h1 := decV_lt _ d.dig rfl h.dig
  have h2 : decV d.dig * 10 ^ (d.exp - x).toNat < 10 ^ d.dig.length * 10 ^ (d.exp - x).toNat := Nat.mul_lt_mul_of_pos_right h1 (Nat.pow_pos (by omega))
  rw [← Nat.pow_add] at h2
  refine ⟨d.dig.length + (d.exp - x).toNat, ?_, h2⟩
  have := h.len
  have := h.hi
  omega

theorem zc_sm {d : DecT} (h : Fz d) {x : Int} (hx : -3000 ≤ x) : Sm (zc d x).natAbs := by
  obtain ⟨k, h1, h2⟩ := zc_lt h hx
  exact Sm.of h2 (by omega)

theorem lt_sum {x y a b : Nat} (h1 : x < 10 ^ a) (h2 : y < 10 ^ b) : x + y < 10 ^ (max a b + 1) := by
  have p1 : 10 ^ a ≤ 10 ^ max a b := Nat.pow_le_pow_right (by omega) (by omega)
  have p2 : 10 ^ b ≤ 10 ^ max a b := Nat.pow_le_pow_right (by omega) (by omega)
  rw [Nat.pow_succ]
  omega

theorem counted_d (d : DecT) (x : Int) (hm : May d) (hc : d.cls = 0) (h1 : -3000 ≤ x) (h2 : x ≤ d.exp) (W : World) : Calls Tryz.prog 66 #[dcV 0 d.neg ⟨d.dig.toArray⟩ d.exp, .int .i64 x] W (ZtPost W (zc d x)) := by
  have fz := may_fz hm hc
  rcases may_cases hm with ⟨n, rfl⟩ | h | ⟨n, rfl⟩ | rfl
  · have e : zc ⟨0, n, [], 0⟩ x = 0 := by unfold zc; simp [decV, zv]
    rw [e]
    exact counted_nil n 0 x W
  · have s1 : (⟨d.dig.toArray⟩ : ByteArray).size = d.dig.length := size_mk0 _
    have sm := zc_sm fz h1
    unfold zc at sm ⊢
    rw [zv_abs] at sm
    have p := List.length_pos_iff.2 h.ne
    have l := h.len
    have hi := fz.hi
    have g := counted_fin d.neg ⟨d.dig.toArray⟩ d.exp x (d.exp - x).toNat W (by rw [s1]; omega) (by rw [s1]; exact l) (by rw [bys_mk]; exact h.okT) (by rw [bys_mk]; exact h.first) (by omega) (by omega) (by rw [bys_mk]; exact sm)
    rw [bys_mk] at g
    exact g
  · cases hc
  · cases hc

theorem dd_few {N k : Nat} (h : N < 10 ^ k) (hk : 1 ≤ k) : (Lib.decDigits N).length ≤ k := sizeN_le h hk

theorem sum_d (a b : DecT) (ha : May a) (hb : May b) (ca : a.cls = 0) (cb : b.cls = 0) (w : World) (htab : Tab w) :
    Calls Tryz.prog 38 #[dcV 0 a.neg ⟨a.dig.toArray⟩ a.exp, dcV 0 b.neg ⟨b.dig.toArray⟩ b.exp] w fun e w' => e = .returned (decErr (sumT a b)) ∧ Below w.heap.size w w' := by
  have fa := may_fz ha ca
  have fb := may_fz hb cb
  have x1 : -3000 ≤ min a.exp b.exp := by have := fa.lo; have := fb.lo; omega
  unfold sumT
  rw [if_pos ⟨ca, cb⟩]
  have la := fa.lo
  have lb := fb.lo
  have ha2 := fa.hi
  have hb2 := fb.hi
  obtain ⟨k1, l1, l2⟩ := zc_lt fa x1
  obtain ⟨k2, m1, m2⟩ := zc_lt fb x1
  refine sum_gen a.neg ⟨a.dig.toArray⟩ a.exp b.neg ⟨b.dig.toArray⟩ b.exp _ _ w (fun W => counted_d a _ ha ca x1 (by omega) W) (fun W => counted_d b _ hb cb x1 (by omega) W) (zc_sm fa x1) (zc_sm fb x1) htab ?_ ⟨by omega, by omega, by omega, by omega⟩
  refine Nat.le_trans (dd_few (Nat.lt_of_le_of_lt (Int.natAbs_add_le _ _) (lt_sum l2 m2)) (by omega)) (by omega)

theorem mayd {d : DecT} (h : May d) : MayD (d.cls : Int) d.neg (bys ⟨d.dig.toArray⟩) d.exp := by rw [bys_mk]; exact h

theorem Add_d (a b : DecT) (ha : May a) (hb : May b) (w : World) (htab : Tab w) : Calls Tryz.prog 19 #[decVal a, decVal b] w fun e w' => e = .returned (decErr (sumT a b)) ∧ Below w.heap.size w w' := by
  by_cases ca : a.cls = 0
  · by_cases cb : b.cls = 0
    · have ma := mayd ha
      have mb := mayd hb
      rw [ca] at ma
      rw [cb] at mb
      rw [decVal_0 ca, decVal_0 cb]
      exact Add_ff a.neg ⟨a.dig.toArray⟩ a.exp b.neg ⟨b.dig.toArray⟩ b.exp w ma mb _ htab (fun W hW => sum_d a b ha hb ca cb W hW)
    · have ma := mayd ha
      have mb := mayd hb
      rw [ca] at ma
      rw [decVal_0 ca]
      unfold sumT
      rw [if_neg (fun e => cb e.2)]
      rcases may_cases hb with ⟨n, rfl⟩ | h | ⟨n, rfl⟩ | rfl
      · exact absurd rfl cb
      · exact absurd h.cls cb
      · rw [if_neg (by simp [ca]), if_neg (by simp), if_pos ca]
        exact Add_fi a.neg ⟨a.dig.toArray⟩ a.exp n w ma mb
      · rw [if_pos (by simp)]
        exact Add_fn a.neg ⟨a.dig.toArray⟩ a.exp w ma mb
  · have ma := mayd ha
    have mb := mayd hb
    unfold sumT
    rw [if_neg (fun e => ca e.1)]
    rcases may_cases ha with ⟨n, rfl⟩ | h | ⟨n, rfl⟩ | rfl
    · exact absurd rfl ca
    · exact absurd h.cls ca
    · by_cases cb : b.cls = 0
      · rw [if_neg (by simp [cb]), if_pos cb, decVal_0 cb]
        rw [cb] at mb
        exact Add_if n b.neg ⟨b.dig.toArray⟩ b.exp w ma mb
      · rcases may_cases hb with ⟨m, rfl⟩ | h | ⟨m, rfl⟩ | rfl
        · exact absurd rfl cb
        · exact absurd h.cls cb
        · rw [if_neg (by simp), if_neg (by simp), if_neg (by simp)]
          cases n <;> cases m
          · exact Add_ii_false_false w ma mb
          · exact Add_ii_false_true w ma mb
          · exact Add_ii_true_false w ma mb
          · exact Add_ii_true_true w ma mb
        · rw [if_pos (by simp)]
          exact Add_in n w ma mb
    · rw [if_pos (by simp)]
      by_cases cb : b.cls = 0
      · rw [decVal_0 cb]
        rw [cb] at mb
        exact Add_nf b.neg ⟨b.dig.toArray⟩ b.exp w ma mb
      · rcases may_cases hb with ⟨m, rfl⟩ | h | ⟨m, rfl⟩ | rfl
        · exact absurd rfl cb
        · exact absurd h.cls cb
        · exact Add_ni m w ma mb
        · exact Add_nn w ma mb

end Go.Proofs.YtcclbcnmkaobpaaGreatDoor
