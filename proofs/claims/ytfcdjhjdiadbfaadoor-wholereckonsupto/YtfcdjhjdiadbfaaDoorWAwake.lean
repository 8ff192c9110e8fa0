/-
  What quipulaw02.awake does: it answers true, and leaves what was there as it was.
-/
import Derived.Test.YtfcdjhjdiadbfaaDoorZParse
import Derived.Test.YtfcdjhjdiadbfaaDoorWText
import Derived.Test.YtfcdjhjdiadbfaaDoorZWhole
import Derived.Test.YtfcdjhjdiadbfaaDoorWPow
import Derived.Test.YtfcdjhjdiadbfaaDoorWSame
namespace Go.Proofs.YtfcdjhjdiadbfaaDoor
open Go.RowKit

theorem ok12 : OkT (bys ⟨#[49, 50]⟩) := by
  refine ⟨by decide, fun h => absurd h (by decide +kernel), ?_⟩
  intro k hk
  have hk2 : k < 2 := hk
  rcases (show k = 0 ∨ k = 1 by omega) with rfl | rfl <;> decide +kernel

theorem no01 : ¬ OkT (bys ⟨#[48, 49]⟩) := fun h => absurd (h.2.1 (by decide +kernel)) (by decide)

theorem dd64 : Lib.decDigits (num B64 [0, 1]) = [49, 56, 52, 52, 54, 55, 52, 52, 48, 55, 51, 55, 48, 57, 53, 53, 49, 54, 49, 54] := by
  have e : num B64 [0, 1] = 18446744073709551616 := by decide +kernel
  rw [e, Lib.decDigits_eq, Lib.nDigits_unique 19 18446744073709551616 (by decide +kernel) (by decide +kernel)]
  decide +kernel

set_option maxRecDepth 100000 in
set_option maxHeartbeats 4000000 in
theorem wawake_true (w : World) (tab : Tab w) :
    Calls Tryd.prog 9 #[] w fun e w' => e = .returned (.bool true) ∧ Below w.heap.size w w' := by
  go_enter Tryd.func9, Tryd.ntmps9
  have hbw : Below w.heap.size w w := Below.refl _ _
  go_wp2_with fail
  have t1 : At .u64 ((w.alloc (Obj.cells #[Value.int IntKind.u64 7] 59)).alloc (Obj.cells #[Value.int IntKind.u64 2] 59)) (some ⟨w.heap.size, 0, none⟩) [7] := ((lit_new w (w.heap.size) (by simp) [7]).alloc _)
  have t2 : At .u64 ((w.alloc (Obj.cells #[Value.int IntKind.u64 7] 59)).alloc (Obj.cells #[Value.int IntKind.u64 2] 59)) (some ⟨w.heap.size + 1, 0, none⟩) [2] := (lit_new (w.alloc (Obj.cells #[Value.int IntKind.u64 7] 59)) (w.heap.size + 1) (by simp) [2])
  replace hbw := hbw.alloc hbw.size (Obj.cells #[Value.int IntKind.u64 7] 59)
  replace tab := tab.alloc (Obj.cells #[Value.int IntKind.u64 7] 59)
  replace hbw := hbw.alloc hbw.size (Obj.cells #[Value.int IntKind.u64 2] 59)
  replace tab := tab.alloc (Obj.cells #[Value.int IntKind.u64 2] 59)
  refine (divw_any true false (some ⟨w.heap.size, 0, none⟩) (some ⟨w.heap.size + 1, 0, none⟩) 1 1 1 1 [7] [2] _ (by omega) (by omega) (by omega) (by omega) rfl rfl t1 t2 (ok_of (by decide +kernel) : Ok B64 [7]) (ok_of (by decide +kernel) : Ok B64 [2]) (by decide +kernel)).mono ?_
  rintro e w1 ⟨s1, v1, r1, s2, v2, r2, h1, h2, rfl, hq, hr, iq, ir, hbel⟩
  have e1 : zv true (num B64 [7]) / zv false (num B64 [2]) = -4 := by decide +kernel
  have e2 : zv true (num B64 [7]) % zv false (num B64 [2]) = 1 := by decide +kernel
  rw [e1] at h1 iq
  rw [e2] at h2 ir
  obtain rfl : s1 = true := by rw [h1.out]; decide
  obtain rfl : s2 = false := by rw [h2.out]; decide
  clear h1 h2 e1 e2
  replace iq : Is B64 r1 4 := iq
  replace ir : Is B64 r2 1 := ir
  obtain ⟨oq, cq, rfl, hcq, hmq, q⟩ := own_lit [4] 1 rfl hq iq (is_of [4] (by decide +kernel) (by decide +kernel) (by decide +kernel))
  replace hcq : 1 ≤ cq := hcq
  replace hmq : cq ≤ 5000 := Nat.le_trans hmq (by decide)
  clear hq iq
  obtain ⟨or, cr, rfl, hcr, hmr, r⟩ := own_lit [1] 1 rfl hr ir (is_of [1] (by decide +kernel) (by decide +kernel) (by decide +kernel))
  replace hcr : 1 ≤ cr := hcr
  replace hmr : cr ≤ 5000 := Nat.le_trans hmr (by decide)
  clear hr ir
  replace t1 := t1.below hbel
  replace t2 := t2.below hbel
  replace tab := tab.below hbel
  replace hbw := hbw.trans (hbel.mono hbw.size)
  clear hbel
  clear t1
  clear t2
  go_wp2_with fail
  replace q : At .u64 (((w1.alloc (Obj.cells #[Value.bool true, Value.slice oq 1 cq] 24)).alloc (Obj.cells #[Value.bool false, Value.slice or 1 cr] 24)).alloc (Obj.cells #[Value.int IntKind.u64 0] 59)) oq [4] := (((q.alloc _).alloc _).alloc _)
  replace r : At .u64 (((w1.alloc (Obj.cells #[Value.bool true, Value.slice oq 1 cq] 24)).alloc (Obj.cells #[Value.bool false, Value.slice or 1 cr] 24)).alloc (Obj.cells #[Value.int IntKind.u64 0] 59)) or [1] := (((r.alloc _).alloc _).alloc _)
  have t3 : At .u64 (((w1.alloc (Obj.cells #[Value.bool true, Value.slice oq 1 cq] 24)).alloc (Obj.cells #[Value.bool false, Value.slice or 1 cr] 24)).alloc (Obj.cells #[Value.int IntKind.u64 0] 59)) (some ⟨w1.heap.size + 1 + 1, 0, none⟩) [0] := (lit_new ((w1.alloc (Obj.cells #[Value.bool true, Value.slice oq 1 cq] 24)).alloc (Obj.cells #[Value.bool false, Value.slice or 1 cr] 24)) (w1.heap.size + 1 + 1) (by simp) [0])
  have pq : Pair (((w1.alloc (Obj.cells #[Value.bool true, Value.slice oq 1 cq] 24)).alloc (Obj.cells #[Value.bool false, Value.slice or 1 cr] 24)).alloc (Obj.cells #[Value.int IntKind.u64 0] 59)) (w1.heap.size) (.bool true) (.slice oq 1 cq) 24 := (((Pair.newAt w1 (w1.heap.size) (by simp) (.bool true) (.slice oq 1 cq) 24).alloc _).alloc _)
  have pr : Pair (((w1.alloc (Obj.cells #[Value.bool true, Value.slice oq 1 cq] 24)).alloc (Obj.cells #[Value.bool false, Value.slice or 1 cr] 24)).alloc (Obj.cells #[Value.int IntKind.u64 0] 59)) (w1.heap.size + 1) (.bool false) (.slice or 1 cr) 24 := ((Pair.newAt (w1.alloc (Obj.cells #[Value.bool true, Value.slice oq 1 cq] 24)) (w1.heap.size + 1) (by simp) (.bool false) (.slice or 1 cr) 24).alloc _)
  replace hbw := hbw.alloc hbw.size (Obj.cells #[Value.bool true, Value.slice oq 1 cq] 24)
  replace tab := tab.alloc (Obj.cells #[Value.bool true, Value.slice oq 1 cq] 24)
  replace hbw := hbw.alloc hbw.size (Obj.cells #[Value.bool false, Value.slice or 1 cr] 24)
  replace tab := tab.alloc (Obj.cells #[Value.bool false, Value.slice or 1 cr] 24)
  replace hbw := hbw.alloc hbw.size (Obj.cells #[Value.int IntKind.u64 0] 59)
  replace tab := tab.alloc (Obj.cells #[Value.int IntKind.u64 0] 59)
  refine (divw_zero false true none (some ⟨w1.heap.size + 1 + 1, 0, none⟩) 0 0 1 1 [] [0] _ (by omega) (by omega) (by omega) (by omega) rfl rfl (At.nil _ _ _) t3 (ok_of (by decide +kernel) : Ok B64 []) (ok_of (by decide +kernel) : Ok B64 [0]) (by show num B64 [0] = 0; decide +kernel)).mono ?_
  rintro e w2 ⟨s3, v1, r3, s4, v2, r4, _, _, rfl, hq, hr, _, _, hbel⟩
  obtain ⟨o3, c3, rfl, _, _, _⟩ := hq.shape
  obtain ⟨o4, c4, rfl, _, _, _⟩ := hr.shape
  clear hq hr
  replace q := q.below hbel
  replace r := r.below hbel
  replace t3 := t3.below hbel
  replace pq := pq.below hbel pq.lt
  replace pr := pr.below hbel pr.lt
  replace tab := tab.below hbel
  replace hbw := hbw.trans (hbel.mono hbw.size)
  clear hbel
  clear t3
  go_wp2_with fail
  replace q : At .u64 ((w2.alloc (Obj.cells #[Value.bool s3, Value.slice o3 r3.length c3] 24)).alloc (Obj.cells #[Value.bool s4, Value.slice o4 r4.length c4] 24)) oq [4] := ((q.alloc _).alloc _)
  replace r : At .u64 ((w2.alloc (Obj.cells #[Value.bool s3, Value.slice o3 r3.length c3] 24)).alloc (Obj.cells #[Value.bool s4, Value.slice o4 r4.length c4] 24)) or [1] := ((r.alloc _).alloc _)
  replace pq : Pair ((w2.alloc (Obj.cells #[Value.bool s3, Value.slice o3 r3.length c3] 24)).alloc (Obj.cells #[Value.bool s4, Value.slice o4 r4.length c4] 24)) (w1.heap.size) (.bool true) (.slice oq 1 cq) 24 := ((pq.alloc _).alloc _)
  replace pr : Pair ((w2.alloc (Obj.cells #[Value.bool s3, Value.slice o3 r3.length c3] 24)).alloc (Obj.cells #[Value.bool s4, Value.slice o4 r4.length c4] 24)) (w1.heap.size + 1) (.bool false) (.slice or 1 cr) 24 := ((pr.alloc _).alloc _)
  replace hbw := hbw.alloc hbw.size (Obj.cells #[Value.bool s3, Value.slice o3 r3.length c3] 24)
  replace tab := tab.alloc (Obj.cells #[Value.bool s3, Value.slice o3 r3.length c3] 24)
  replace hbw := hbw.alloc hbw.size (Obj.cells #[Value.bool s4, Value.slice o4 r4.length c4] 24)
  replace tab := tab.alloc (Obj.cells #[Value.bool s4, Value.slice o4 r4.length c4] 24)
  refine (pow5_in 3 _ (by omega)).mono ?_
  rintro e w3 ⟨v, rz, rfl, hown, his, hbel⟩
  obtain ⟨op, cp, rfl, hcp, hmp, p⟩ := own_lit [125] 1 rfl hown his (is_of [125] (by decide +kernel) (by decide +kernel) (by decide +kernel))
  replace hcp : 1 ≤ cp := hcp
  replace hmp : cp ≤ 5000 := Nat.le_trans hmp (by decide)
  clear hown his
  replace q := q.below hbel
  replace r := r.below hbel
  replace pq := pq.below hbel pq.lt
  replace pr := pr.below hbel pr.lt
  replace tab := tab.below hbel
  replace hbw := hbw.trans (hbel.mono hbw.size)
  clear hbel
  go_wp2_with fail
  refine (pow10_in 2 _ (by omega)).mono ?_
  rintro e w4 ⟨v, rz, rfl, hown, his, hbel⟩
  obtain ⟨ot, ct, rfl, hct, hmt, t⟩ := own_lit [100] 1 rfl hown his (is_of [100] (by decide +kernel) (by decide +kernel) (by decide +kernel))
  replace hct : 1 ≤ ct := hct
  replace hmt : ct ≤ 5000 := Nat.le_trans hmt (by decide)
  clear hown his
  replace q := q.below hbel
  replace r := r.below hbel
  replace p := p.below hbel
  replace pq := pq.below hbel pq.lt
  replace pr := pr.below hbel pr.lt
  replace tab := tab.below hbel
  replace hbw := hbw.trans (hbel.mono hbw.size)
  clear hbel
  go_wp2_with fail
  refine (pow10_bad 8193 _ (.inr (by decide))).mono ?_
  rintro e w5 ⟨v, rz, rfl, hown, his, hbel⟩
  clear his
  obtain ⟨oz, cz, rfl, _, _, _⟩ := hown.shape
  clear hown
  replace q := q.below hbel
  replace r := r.below hbel
  replace p := p.below hbel
  replace t := t.below hbel
  replace pq := pq.below hbel pq.lt
  replace pr := pr.below hbel pr.lt
  replace tab := tab.below hbel
  replace hbw := hbw.trans (hbel.mono hbw.size)
  clear hbel
  go_wp2_with fail
  refine (parse_any ⟨#[49, 50]⟩ _ 12 0 (.inr (.inr ⟨by decide, ok12, by decide +kernel, rfl⟩))).mono ?_
  rintro e w6 ⟨v, rz, rfl, hown, his, hbel⟩
  obtain ⟨oa, ca, rfl, hca, hma, a⟩ := own_lit [12] 1 rfl hown his (is_of [12] (by decide +kernel) (by decide +kernel) (by decide +kernel))
  replace hca : 1 ≤ ca := hca
  replace hma : ca ≤ 5000 := Nat.le_trans hma (by decide)
  clear hown his
  replace q := q.below hbel
  replace r := r.below hbel
  replace p := p.below hbel
  replace t := t.below hbel
  replace pq := pq.below hbel pq.lt
  replace pr := pr.below hbel pr.lt
  replace tab := tab.below hbel
  replace hbw := hbw.trans (hbel.mono hbw.size)
  clear hbel
  go_wp2_with fail
  refine (parse_any ⟨#[48, 49]⟩ _ 0 20 (.inr (.inl ⟨by decide, no01, rfl, rfl⟩))).mono ?_
  rintro e w7 ⟨v, rz, rfl, hown, his, hbel⟩
  clear his
  obtain ⟨oz, cz, rfl, _, _, _⟩ := hown.shape
  clear hown
  replace q := q.below hbel
  replace r := r.below hbel
  replace p := p.below hbel
  replace t := t.below hbel
  replace a := a.below hbel
  replace pq := pq.below hbel pq.lt
  replace pr := pr.below hbel pr.lt
  replace tab := tab.below hbel
  replace hbw := hbw.trans (hbel.mono hbw.size)
  clear hbel
  have pq0 := pq.cell0
  have pq1 := pq.cell1
  go_wp2_with fail
  replace q : At .u64 (w7.alloc (Obj.cells #[Value.int IntKind.u64 4] 59)) oq [4] := (q.alloc _)
  replace r : At .u64 (w7.alloc (Obj.cells #[Value.int IntKind.u64 4] 59)) or [1] := (r.alloc _)
  replace p : At .u64 (w7.alloc (Obj.cells #[Value.int IntKind.u64 4] 59)) op [125] := (p.alloc _)
  replace t : At .u64 (w7.alloc (Obj.cells #[Value.int IntKind.u64 4] 59)) ot [100] := (t.alloc _)
  replace a : At .u64 (w7.alloc (Obj.cells #[Value.int IntKind.u64 4] 59)) oa [12] := (a.alloc _)
  have t4 : At .u64 (w7.alloc (Obj.cells #[Value.int IntKind.u64 4] 59)) (some ⟨w7.heap.size, 0, none⟩) [4] := (lit_new w7 (w7.heap.size) (by simp) [4])
  replace pq : Pair (w7.alloc (Obj.cells #[Value.int IntKind.u64 4] 59)) (w1.heap.size) (.bool true) (.slice oq 1 cq) 24 := (pq.alloc _)
  replace pr : Pair (w7.alloc (Obj.cells #[Value.int IntKind.u64 4] 59)) (w1.heap.size + 1) (.bool false) (.slice or 1 cr) 24 := (pr.alloc _)
  clear pq0 pq1
  replace hbw := hbw.alloc hbw.size (Obj.cells #[Value.int IntKind.u64 4] 59)
  replace tab := tab.alloc (Obj.cells #[Value.int IntKind.u64 4] 59)
  refine (samew_true true oq (some ⟨w7.heap.size, 0, none⟩) 1 cq 1 [4] _ (by omega) rfl q t4).mono ?_
  rintro e w8 ⟨rfl, hbel⟩
  replace q := q.below hbel
  replace r := r.below hbel
  replace p := p.below hbel
  replace t := t.below hbel
  replace a := a.below hbel
  replace t4 := t4.below hbel
  replace pq := pq.below hbel pq.lt
  replace pr := pr.below hbel pr.lt
  replace tab := tab.below hbel
  replace hbw := hbw.trans (hbel.mono hbw.size)
  clear hbel
  clear t4
  have pr0 := pr.cell0
  have pr1 := pr.cell1
  go_wp2_with fail
  replace q : At .u64 (w8.alloc (Obj.cells #[Value.int IntKind.u64 1] 59)) oq [4] := (q.alloc _)
  replace r : At .u64 (w8.alloc (Obj.cells #[Value.int IntKind.u64 1] 59)) or [1] := (r.alloc _)
  replace p : At .u64 (w8.alloc (Obj.cells #[Value.int IntKind.u64 1] 59)) op [125] := (p.alloc _)
  replace t : At .u64 (w8.alloc (Obj.cells #[Value.int IntKind.u64 1] 59)) ot [100] := (t.alloc _)
  replace a : At .u64 (w8.alloc (Obj.cells #[Value.int IntKind.u64 1] 59)) oa [12] := (a.alloc _)
  have t5 : At .u64 (w8.alloc (Obj.cells #[Value.int IntKind.u64 1] 59)) (some ⟨w8.heap.size, 0, none⟩) [1] := (lit_new w8 (w8.heap.size) (by simp) [1])
  replace pq : Pair (w8.alloc (Obj.cells #[Value.int IntKind.u64 1] 59)) (w1.heap.size) (.bool true) (.slice oq 1 cq) 24 := (pq.alloc _)
  replace pr : Pair (w8.alloc (Obj.cells #[Value.int IntKind.u64 1] 59)) (w1.heap.size + 1) (.bool false) (.slice or 1 cr) 24 := (pr.alloc _)
  clear pr0 pr1
  replace hbw := hbw.alloc hbw.size (Obj.cells #[Value.int IntKind.u64 1] 59)
  replace tab := tab.alloc (Obj.cells #[Value.int IntKind.u64 1] 59)
  refine (samew_true false or (some ⟨w8.heap.size, 0, none⟩) 1 cr 1 [1] _ (by omega) rfl r t5).mono ?_
  rintro e w9 ⟨rfl, hbel⟩
  replace q := q.below hbel
  replace r := r.below hbel
  replace p := p.below hbel
  replace t := t.below hbel
  replace a := a.below hbel
  replace t5 := t5.below hbel
  replace pq := pq.below hbel pq.lt
  replace pr := pr.below hbel pr.lt
  replace tab := tab.below hbel
  replace hbw := hbw.trans (hbel.mono hbw.size)
  clear hbel
  clear t5
  go_wp2_with fail
  replace q : At .u64 (w9.alloc (Obj.cells #[Value.int IntKind.u64 125] 59)) oq [4] := (q.alloc _)
  replace r : At .u64 (w9.alloc (Obj.cells #[Value.int IntKind.u64 125] 59)) or [1] := (r.alloc _)
  replace p : At .u64 (w9.alloc (Obj.cells #[Value.int IntKind.u64 125] 59)) op [125] := (p.alloc _)
  replace t : At .u64 (w9.alloc (Obj.cells #[Value.int IntKind.u64 125] 59)) ot [100] := (t.alloc _)
  replace a : At .u64 (w9.alloc (Obj.cells #[Value.int IntKind.u64 125] 59)) oa [12] := (a.alloc _)
  have t6 : At .u64 (w9.alloc (Obj.cells #[Value.int IntKind.u64 125] 59)) (some ⟨w9.heap.size, 0, none⟩) [125] := (lit_new w9 (w9.heap.size) (by simp) [125])
  replace pq : Pair (w9.alloc (Obj.cells #[Value.int IntKind.u64 125] 59)) (w1.heap.size) (.bool true) (.slice oq 1 cq) 24 := (pq.alloc _)
  replace pr : Pair (w9.alloc (Obj.cells #[Value.int IntKind.u64 125] 59)) (w1.heap.size + 1) (.bool false) (.slice or 1 cr) 24 := (pr.alloc _)
  replace hbw := hbw.alloc hbw.size (Obj.cells #[Value.int IntKind.u64 125] 59)
  replace tab := tab.alloc (Obj.cells #[Value.int IntKind.u64 125] 59)
  refine (same_any op (some ⟨w9.heap.size, 0, none⟩) 1 cp 1 1 [125] [125] _ (by omega) rfl rfl p t6).mono ?_
  rintro e w10 ⟨rfl, hbel⟩
  rw [show decide ([125] = [125]) = true from decide_eq_true rfl]
  replace q := q.below hbel
  replace r := r.below hbel
  replace p := p.below hbel
  replace t := t.below hbel
  replace a := a.below hbel
  replace t6 := t6.below hbel
  replace pq := pq.below hbel pq.lt
  replace pr := pr.below hbel pr.lt
  replace tab := tab.below hbel
  replace hbw := hbw.trans (hbel.mono hbw.size)
  clear hbel
  clear t6
  clear p
  go_wp2_with fail
  replace q : At .u64 (w10.alloc (Obj.cells #[Value.int IntKind.u64 100] 59)) oq [4] := (q.alloc _)
  replace r : At .u64 (w10.alloc (Obj.cells #[Value.int IntKind.u64 100] 59)) or [1] := (r.alloc _)
  replace t : At .u64 (w10.alloc (Obj.cells #[Value.int IntKind.u64 100] 59)) ot [100] := (t.alloc _)
  replace a : At .u64 (w10.alloc (Obj.cells #[Value.int IntKind.u64 100] 59)) oa [12] := (a.alloc _)
  have t7 : At .u64 (w10.alloc (Obj.cells #[Value.int IntKind.u64 100] 59)) (some ⟨w10.heap.size, 0, none⟩) [100] := (lit_new w10 (w10.heap.size) (by simp) [100])
  replace pq : Pair (w10.alloc (Obj.cells #[Value.int IntKind.u64 100] 59)) (w1.heap.size) (.bool true) (.slice oq 1 cq) 24 := (pq.alloc _)
  replace pr : Pair (w10.alloc (Obj.cells #[Value.int IntKind.u64 100] 59)) (w1.heap.size + 1) (.bool false) (.slice or 1 cr) 24 := (pr.alloc _)
  replace hbw := hbw.alloc hbw.size (Obj.cells #[Value.int IntKind.u64 100] 59)
  replace tab := tab.alloc (Obj.cells #[Value.int IntKind.u64 100] 59)
  refine (same_any ot (some ⟨w10.heap.size, 0, none⟩) 1 ct 1 1 [100] [100] _ (by omega) rfl rfl t t7).mono ?_
  rintro e w11 ⟨rfl, hbel⟩
  rw [show decide ([100] = [100]) = true from decide_eq_true rfl]
  replace q := q.below hbel
  replace r := r.below hbel
  replace t := t.below hbel
  replace a := a.below hbel
  replace t7 := t7.below hbel
  replace pq := pq.below hbel pq.lt
  replace pr := pr.below hbel pr.lt
  replace tab := tab.below hbel
  replace hbw := hbw.trans (hbel.mono hbw.size)
  clear hbel
  clear t7
  clear t
  go_wp2_with fail
  replace q : At .u64 (w11.alloc (Obj.cells #[Value.int IntKind.u64 12] 59)) oq [4] := (q.alloc _)
  replace r : At .u64 (w11.alloc (Obj.cells #[Value.int IntKind.u64 12] 59)) or [1] := (r.alloc _)
  replace a : At .u64 (w11.alloc (Obj.cells #[Value.int IntKind.u64 12] 59)) oa [12] := (a.alloc _)
  have t8 : At .u64 (w11.alloc (Obj.cells #[Value.int IntKind.u64 12] 59)) (some ⟨w11.heap.size, 0, none⟩) [12] := (lit_new w11 (w11.heap.size) (by simp) [12])
  replace pq : Pair (w11.alloc (Obj.cells #[Value.int IntKind.u64 12] 59)) (w1.heap.size) (.bool true) (.slice oq 1 cq) 24 := (pq.alloc _)
  replace pr : Pair (w11.alloc (Obj.cells #[Value.int IntKind.u64 12] 59)) (w1.heap.size + 1) (.bool false) (.slice or 1 cr) 24 := (pr.alloc _)
  replace hbw := hbw.alloc hbw.size (Obj.cells #[Value.int IntKind.u64 12] 59)
  replace tab := tab.alloc (Obj.cells #[Value.int IntKind.u64 12] 59)
  refine (same_any oa (some ⟨w11.heap.size, 0, none⟩) 1 ca 1 1 [12] [12] _ (by omega) rfl rfl a t8).mono ?_
  rintro e w12 ⟨rfl, hbel⟩
  rw [show decide ([12] = [12]) = true from decide_eq_true rfl]
  replace q := q.below hbel
  replace r := r.below hbel
  replace a := a.below hbel
  replace t8 := t8.below hbel
  replace pq := pq.below hbel pq.lt
  replace pr := pr.below hbel pr.lt
  replace tab := tab.below hbel
  replace hbw := hbw.trans (hbel.mono hbw.size)
  clear hbel
  clear t8
  clear a
  go_wp2_with fail
  replace q : At .u64 (w12.alloc (Obj.cells #[Value.int IntKind.u64 0, Value.int IntKind.u64 1] 59)) oq [4] := (q.alloc _)
  replace r : At .u64 (w12.alloc (Obj.cells #[Value.int IntKind.u64 0, Value.int IntKind.u64 1] 59)) or [1] := (r.alloc _)
  have t9 : At .u64 (w12.alloc (Obj.cells #[Value.int IntKind.u64 0, Value.int IntKind.u64 1] 59)) (some ⟨w12.heap.size, 0, none⟩) [0, 1] := (lit_new w12 (w12.heap.size) (by simp) [0, 1])
  replace pq : Pair (w12.alloc (Obj.cells #[Value.int IntKind.u64 0, Value.int IntKind.u64 1] 59)) (w1.heap.size) (.bool true) (.slice oq 1 cq) 24 := (pq.alloc _)
  replace pr : Pair (w12.alloc (Obj.cells #[Value.int IntKind.u64 0, Value.int IntKind.u64 1] 59)) (w1.heap.size + 1) (.bool false) (.slice or 1 cr) 24 := (pr.alloc _)
  replace hbw := hbw.alloc hbw.size (Obj.cells #[Value.int IntKind.u64 0, Value.int IntKind.u64 1] 59)
  replace tab := tab.alloc (Obj.cells #[Value.int IntKind.u64 0, Value.int IntKind.u64 1] 59)
  refine (text_any (some ⟨w12.heap.size, 0, none⟩) 2 2 [0, 1] _ (by omega) (by omega) rfl t9 (ok_of (by decide +kernel) : Ok B64 [0, 1]) tab).mono ?_
  rintro e w13 ⟨rfl, hbel⟩
  rw [dd64]
  replace q := q.below hbel
  replace r := r.below hbel
  replace t9 := t9.below hbel
  replace pq := pq.below hbel pq.lt
  replace pr := pr.below hbel pr.lt
  replace tab := tab.below hbel
  replace hbw := hbw.trans (hbel.mono hbw.size)
  clear hbel
  clear t9
  go_wp2_with fail
  replace q : At .u64 (w13.alloc (Obj.cells #[Value.int IntKind.u64 5] 59)) oq [4] := (q.alloc _)
  replace r : At .u64 (w13.alloc (Obj.cells #[Value.int IntKind.u64 5] 59)) or [1] := (r.alloc _)
  have t10 : At .u64 (w13.alloc (Obj.cells #[Value.int IntKind.u64 5] 59)) (some ⟨w13.heap.size, 0, none⟩) [5] := (lit_new w13 (w13.heap.size) (by simp) [5])
  replace pq : Pair (w13.alloc (Obj.cells #[Value.int IntKind.u64 5] 59)) (w1.heap.size) (.bool true) (.slice oq 1 cq) 24 := (pq.alloc _)
  replace pr : Pair (w13.alloc (Obj.cells #[Value.int IntKind.u64 5] 59)) (w1.heap.size + 1) (.bool false) (.slice or 1 cr) 24 := (pr.alloc _)
  replace hbw := hbw.alloc hbw.size (Obj.cells #[Value.int IntKind.u64 5] 59)
  replace tab := tab.alloc (Obj.cells #[Value.int IntKind.u64 5] 59)
  refine (make_any true (some ⟨w13.heap.size, 0, none⟩) 1 1 [5] _ (by omega) (by omega) rfl t10 (ok_of (by decide +kernel) : Ok B64 [5])).mono ?_
  rintro e w14 ⟨sg, v, rz, hsg, rfl, hown, his, hbel⟩
  have ez : zv true (num B64 [5]) = -5 := by decide +kernel
  rw [ez] at hsg his
  clear ez
  obtain rfl : sg = true := by rw [hsg.out]; decide
  clear hsg
  replace his : Is B64 rz 5 := his
  obtain ⟨om, cm, rfl, hcm, hmm, m⟩ := own_lit [5] 1 rfl hown his (is_of [5] (by decide +kernel) (by decide +kernel) (by decide +kernel))
  replace hcm : 1 ≤ cm := hcm
  replace hmm : cm ≤ 5000 := Nat.le_trans hmm (by decide)
  clear hown his
  replace q := q.below hbel
  replace r := r.below hbel
  replace t10 := t10.below hbel
  replace pq := pq.below hbel pq.lt
  replace pr := pr.below hbel pr.lt
  replace tab := tab.below hbel
  replace hbw := hbw.trans (hbel.mono hbw.size)
  clear hbel
  clear t10
  go_wp2_with fail
  refine (cmpw_any true false om none 1 cm 0 0 [5] [] _ (by omega) (by omega) (by omega) (by omega) rfl rfl m (At.nil _ _ _) (ok_of (by decide +kernel) : Ok B64 [5]) (ok_of (by decide +kernel) : Ok B64 []) (-1) (by decide +kernel)).mono ?_
  rintro e w15 ⟨rfl, hbel⟩
  replace q := q.below hbel
  replace r := r.below hbel
  replace m := m.below hbel
  replace pq := pq.below hbel pq.lt
  replace pr := pr.below hbel pr.lt
  replace tab := tab.below hbel
  replace hbw := hbw.trans (hbel.mono hbw.size)
  clear hbel
  clear m
  go_wp2_with fail
  refine (neg_any false none 0 0 [] _ (by omega) (by omega) rfl (At.nil _ _ _) (ok_of (by decide +kernel) : Ok B64 [])).mono ?_
  rintro e w16 ⟨sg, v, rz, hsg, rfl, hown, his, hbel⟩
  have ez : -zv false (num B64 []) = 0 := by decide +kernel
  rw [ez] at hsg his
  clear ez
  obtain rfl : sg = false := by rw [hsg.out]; decide
  clear hsg
  replace his : Is B64 rz 0 := his
  obtain ⟨on, cn, rfl, hcn, hmn, n⟩ := own_lit [] 0 rfl hown his (is_of [] (by decide +kernel) (by decide +kernel) (by decide +kernel))
  replace hcn : 0 ≤ cn := hcn
  replace hmn : cn ≤ 5000 := Nat.le_trans hmn (by decide)
  clear hown his
  replace q := q.below hbel
  replace r := r.below hbel
  replace pq := pq.below hbel pq.lt
  replace pr := pr.below hbel pr.lt
  replace tab := tab.below hbel
  replace hbw := hbw.trans (hbel.mono hbw.size)
  clear hbel
  go_wp2_with fail
  refine (samew_true false on none 0 cn 0 [] _ (by omega) rfl n (At.nil _ _ _)).mono ?_
  rintro e w17 ⟨rfl, hbel⟩
  replace q := q.below hbel
  replace r := r.below hbel
  replace n := n.below hbel
  replace pq := pq.below hbel pq.lt
  replace pr := pr.below hbel pr.lt
  replace tab := tab.below hbel
  replace hbw := hbw.trans (hbel.mono hbw.size)
  clear hbel
  clear n
  have pq0 := pq.cell0
  have pq1 := pq.cell1
  have pr0 := pr.cell0
  have pr1 := pr.cell1
  go_wp2_with fail
  clear pq0 pq1
  clear pr0 pr1
  refine (addw_any true false oq or 1 cq 1 cr [4] [1] _ (by omega) (by omega) (by omega) (by omega) rfl rfl q r (ok_of (by decide +kernel) : Ok B64 [4]) (ok_of (by decide +kernel) : Ok B64 [1])).mono ?_
  rintro e w18 ⟨sg, v, rz, hsg, rfl, hown, his, hbel⟩
  have ez : zv true (num B64 [4]) + zv false (num B64 [1]) = -3 := by decide +kernel
  rw [ez] at hsg his
  clear ez
  obtain rfl : sg = true := by rw [hsg.out]; decide
  clear hsg
  replace his : Is B64 rz 3 := his
  obtain ⟨od, cd, rfl, hcd, hmd, d⟩ := own_lit [3] 1 rfl hown his (is_of [3] (by decide +kernel) (by decide +kernel) (by decide +kernel))
  replace hcd : 1 ≤ cd := hcd
  replace hmd : cd ≤ 5000 := Nat.le_trans hmd (by decide)
  clear hown his
  replace q := q.below hbel
  replace r := r.below hbel
  replace pq := pq.below hbel pq.lt
  replace pr := pr.below hbel pr.lt
  replace tab := tab.below hbel
  replace hbw := hbw.trans (hbel.mono hbw.size)
  clear hbel
  go_wp2_with fail
  replace q : At .u64 (w18.alloc (Obj.cells #[Value.int IntKind.u64 3] 59)) oq [4] := (q.alloc _)
  replace r : At .u64 (w18.alloc (Obj.cells #[Value.int IntKind.u64 3] 59)) or [1] := (r.alloc _)
  replace d : At .u64 (w18.alloc (Obj.cells #[Value.int IntKind.u64 3] 59)) od [3] := (d.alloc _)
  have t11 : At .u64 (w18.alloc (Obj.cells #[Value.int IntKind.u64 3] 59)) (some ⟨w18.heap.size, 0, none⟩) [3] := (lit_new w18 (w18.heap.size) (by simp) [3])
  replace pq : Pair (w18.alloc (Obj.cells #[Value.int IntKind.u64 3] 59)) (w1.heap.size) (.bool true) (.slice oq 1 cq) 24 := (pq.alloc _)
  replace pr : Pair (w18.alloc (Obj.cells #[Value.int IntKind.u64 3] 59)) (w1.heap.size + 1) (.bool false) (.slice or 1 cr) 24 := (pr.alloc _)
  replace hbw := hbw.alloc hbw.size (Obj.cells #[Value.int IntKind.u64 3] 59)
  replace tab := tab.alloc (Obj.cells #[Value.int IntKind.u64 3] 59)
  refine (samew_true true od (some ⟨w18.heap.size, 0, none⟩) 1 cd 1 [3] _ (by omega) rfl d t11).mono ?_
  rintro e w19 ⟨rfl, hbel⟩
  replace q := q.below hbel
  replace r := r.below hbel
  replace d := d.below hbel
  replace t11 := t11.below hbel
  replace pq := pq.below hbel pq.lt
  replace pr := pr.below hbel pr.lt
  replace tab := tab.below hbel
  replace hbw := hbw.trans (hbel.mono hbw.size)
  clear hbel
  clear t11
  clear d
  have pq0 := pq.cell0
  have pq1 := pq.cell1
  have pr0 := pr.cell0
  have pr1 := pr.cell1
  go_wp2_with fail
  clear pq0 pq1
  clear pr0 pr1
  refine (subw_any true false oq or 1 cq 1 cr [4] [1] _ (by omega) (by omega) (by omega) (by omega) rfl rfl q r (ok_of (by decide +kernel) : Ok B64 [4]) (ok_of (by decide +kernel) : Ok B64 [1])).mono ?_
  rintro e w20 ⟨sg, v, rz, hsg, rfl, hown, his, hbel⟩
  have ez : zv true (num B64 [4]) - zv false (num B64 [1]) = -5 := by decide +kernel
  rw [ez] at hsg his
  clear ez
  obtain rfl : sg = true := by rw [hsg.out]; decide
  clear hsg
  replace his : Is B64 rz 5 := his
  obtain ⟨od, cd, rfl, hcd, hmd, d⟩ := own_lit [5] 1 rfl hown his (is_of [5] (by decide +kernel) (by decide +kernel) (by decide +kernel))
  replace hcd : 1 ≤ cd := hcd
  replace hmd : cd ≤ 5000 := Nat.le_trans hmd (by decide)
  clear hown his
  replace q := q.below hbel
  replace r := r.below hbel
  replace pq := pq.below hbel pq.lt
  replace pr := pr.below hbel pr.lt
  replace tab := tab.below hbel
  replace hbw := hbw.trans (hbel.mono hbw.size)
  clear hbel
  go_wp2_with fail
  replace q : At .u64 (w20.alloc (Obj.cells #[Value.int IntKind.u64 5] 59)) oq [4] := (q.alloc _)
  replace r : At .u64 (w20.alloc (Obj.cells #[Value.int IntKind.u64 5] 59)) or [1] := (r.alloc _)
  replace d : At .u64 (w20.alloc (Obj.cells #[Value.int IntKind.u64 5] 59)) od [5] := (d.alloc _)
  have t12 : At .u64 (w20.alloc (Obj.cells #[Value.int IntKind.u64 5] 59)) (some ⟨w20.heap.size, 0, none⟩) [5] := (lit_new w20 (w20.heap.size) (by simp) [5])
  replace pq : Pair (w20.alloc (Obj.cells #[Value.int IntKind.u64 5] 59)) (w1.heap.size) (.bool true) (.slice oq 1 cq) 24 := (pq.alloc _)
  replace pr : Pair (w20.alloc (Obj.cells #[Value.int IntKind.u64 5] 59)) (w1.heap.size + 1) (.bool false) (.slice or 1 cr) 24 := (pr.alloc _)
  replace hbw := hbw.alloc hbw.size (Obj.cells #[Value.int IntKind.u64 5] 59)
  replace tab := tab.alloc (Obj.cells #[Value.int IntKind.u64 5] 59)
  refine (samew_true true od (some ⟨w20.heap.size, 0, none⟩) 1 cd 1 [5] _ (by omega) rfl d t12).mono ?_
  rintro e w21 ⟨rfl, hbel⟩
  replace q := q.below hbel
  replace r := r.below hbel
  replace d := d.below hbel
  replace t12 := t12.below hbel
  replace pq := pq.below hbel pq.lt
  replace pr := pr.below hbel pr.lt
  replace tab := tab.below hbel
  replace hbw := hbw.trans (hbel.mono hbw.size)
  clear hbel
  clear t12
  clear d
  have pq0 := pq.cell0
  have pq1 := pq.cell1
  go_wp2_with fail
  clear pq0 pq1
  refine (mulw_one true true oq oq 1 cq 1 cq [4] [4] _ (by omega) (by omega) (by omega) (by omega) rfl rfl q q (ok_of (by decide +kernel) : Ok B64 [4]) (ok_of (by decide +kernel) : Ok B64 [4])).mono ?_
  rintro e w22 ⟨sg, v, rz, hsg, rfl, hown, his, hbel⟩
  have ez : zv (true != true) (num B64 [4] * num B64 [4]) = 16 := by decide +kernel
  rw [ez] at hsg his
  clear ez
  obtain rfl : sg = false := by rw [hsg.out]; decide
  clear hsg
  replace his : Is B64 rz 16 := his
  obtain ⟨od, cd, rfl, hcd, hmd, d⟩ := own_lit [16] 1 rfl hown his (is_of [16] (by decide +kernel) (by decide +kernel) (by decide +kernel))
  replace hcd : 1 ≤ cd := hcd
  replace hmd : cd ≤ 5000 := Nat.le_trans hmd (by decide)
  clear hown his
  replace q := q.below hbel
  replace r := r.below hbel
  replace pq := pq.below hbel pq.lt
  replace pr := pr.below hbel pr.lt
  replace tab := tab.below hbel
  replace hbw := hbw.trans (hbel.mono hbw.size)
  clear hbel
  go_wp2_with fail
  replace q : At .u64 (w22.alloc (Obj.cells #[Value.int IntKind.u64 16] 59)) oq [4] := (q.alloc _)
  replace r : At .u64 (w22.alloc (Obj.cells #[Value.int IntKind.u64 16] 59)) or [1] := (r.alloc _)
  replace d : At .u64 (w22.alloc (Obj.cells #[Value.int IntKind.u64 16] 59)) od [16] := (d.alloc _)
  have t13 : At .u64 (w22.alloc (Obj.cells #[Value.int IntKind.u64 16] 59)) (some ⟨w22.heap.size, 0, none⟩) [16] := (lit_new w22 (w22.heap.size) (by simp) [16])
  replace pq : Pair (w22.alloc (Obj.cells #[Value.int IntKind.u64 16] 59)) (w1.heap.size) (.bool true) (.slice oq 1 cq) 24 := (pq.alloc _)
  replace pr : Pair (w22.alloc (Obj.cells #[Value.int IntKind.u64 16] 59)) (w1.heap.size + 1) (.bool false) (.slice or 1 cr) 24 := (pr.alloc _)
  replace hbw := hbw.alloc hbw.size (Obj.cells #[Value.int IntKind.u64 16] 59)
  replace tab := tab.alloc (Obj.cells #[Value.int IntKind.u64 16] 59)
  refine (samew_true false od (some ⟨w22.heap.size, 0, none⟩) 1 cd 1 [16] _ (by omega) rfl d t13).mono ?_
  rintro e w23 ⟨rfl, hbel⟩
  replace q := q.below hbel
  replace r := r.below hbel
  replace d := d.below hbel
  replace t13 := t13.below hbel
  replace pq := pq.below hbel pq.lt
  replace pr := pr.below hbel pr.lt
  replace tab := tab.below hbel
  replace hbw := hbw.trans (hbel.mono hbw.size)
  clear hbel
  clear t13
  clear d
  go_wp2
  go_ret
  exact ⟨rfl, hbw⟩

end Go.Proofs.YtfcdjhjdiadbfaaDoor
