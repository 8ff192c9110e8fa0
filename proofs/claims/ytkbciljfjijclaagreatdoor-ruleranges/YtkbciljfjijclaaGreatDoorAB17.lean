/-
  What dec's sum does.
  Results that are structs of rule.
  What rule's readRange does.
-/
import Derived.Test.YtkbciljfjijclaaGreatDoorAB2
import Derived.Test.YtkbciljfjijclaaGreatDoorAB8
import Derived.Test.YtkbciljfjijclaaGreatDoorAB5
import Derived.Test.YtkbciljfjijclaaGreatDoorAB16
import Derived.Deep.CutRange
import Derived.Test.YtkbciljfjijclaaGreatDoorAB15
import Derived.Deep.RegionHeld3
namespace Go.Proofs.YtkbciljfjijclaaGreatDoor
open Go.RowKit

theorem Blk.put2 {w : World} {b : Nat} {t : TypeId} {x0 x1 : Value} (h : Blk w b #[x0, x1] t) (y0 y1 : Value) : Blk ((w.setCell ⟨b, 0, none⟩ y0).setCell ⟨b, 1, none⟩ y1) b #[y0, y1] t := Pair.put h y0 y1

end Go.Proofs.YtkbciljfjijclaaGreatDoor

namespace Go.Proofs.YtkbciljfjijclaaGreatDoor
open Go.RowKit

theorem results_bounds {fn : Func} {a : Tmp} (h : fn.results = #[.cell a 303]) (tmps : Array Value) (H : Nat) (x0 x1 : Value) (w : World) (ht : tmps.getD a undef = .pointer (some ⟨H, 0, none⟩)) (hp : Blk w H #[x0, x1] 303) :
    (results fn tmps).run Tryz.prog w = .ok (.agg #[x0, x1]) w := by
  have c0 := hp.cell 0
  have c1 := hp.cell 1
  simp at c0 c1
  rw [Array.getD_eq_getD_getElem?] at ht
  simp [results, h, ht, go_sem, c0, c1]

theorem results_expr {fn : Func} {a : Tmp} (h : fn.results = #[.cell a 226]) (tmps : Array Value) (H : Nat) (x0 x1 : Value) (w : World) (ht : tmps.getD a undef = .pointer (some ⟨H, 0, none⟩)) (hp : Blk w H #[x0, x1] 226) :
    (results fn tmps).run Tryz.prog w = .ok (.agg #[x0, x1]) w := by
  have c0 := hp.cell 0
  have c1 := hp.cell 1
  simp at c0 c1
  rw [Array.getD_eq_getD_getElem?] at ht
  simp [results, h, ht, go_sem, c0, c1]

theorem results_rel {fn : Func} {a : Tmp} (h : fn.results = #[.cell a 229]) (tmps : Array Value) (H : Nat) (x0 x1 x2 x3 : Value) (w : World) (ht : tmps.getD a undef = .pointer (some ⟨H, 0, none⟩)) (hp : Blk w H #[x0, x1, x2, x3] 229) :
    (results fn tmps).run Tryz.prog w = .ok (.agg #[x0, x1, x2, x3]) w := by
  have c0 := hp.cell 0
  have c1 := hp.cell 1
  have c2 := hp.cell 2
  have c3 := hp.cell 3
  simp at c0 c1 c2 c3
  rw [Array.getD_eq_getD_getElem?] at ht
  simp [results, h, ht, go_sem, c0, c1, c2, c3]

theorem results_rule {fn : Func} {a : Tmp} (h : fn.results = #[.cell a 120]) (tmps : Array Value) (H : Nat) (x0 x1 : Value) (w : World) (ht : tmps.getD a undef = .pointer (some ⟨H, 0, none⟩)) (hp : Blk w H #[x0, x1] 120) :
    (results fn tmps).run Tryz.prog w = .ok (.agg #[x0, x1]) w := by
  have c0 := hp.cell 0
  have c1 := hp.cell 1
  simp at c0 c1
  rw [Array.getD_eq_getD_getElem?] at ht
  simp [results, h, ht, go_sem, c0, c1]

theorem results_entry {fn : Func} {a : Tmp} (h : fn.results = #[.cell a 135]) (tmps : Array Value) (H : Nat) (x0 x1 x2 : Value) (w : World) (ht : tmps.getD a undef = .pointer (some ⟨H, 0, none⟩)) (hp : Blk w H #[x0, x1, x2] 135) :
    (results fn tmps).run Tryz.prog w = .ok (.agg #[x0, x1, x2]) w := by
  have c0 := hp.cell 0
  have c1 := hp.cell 1
  have c2 := hp.cell 2
  simp at c0 c1 c2
  rw [Array.getD_eq_getD_getElem?] at ht
  simp [results, h, ht, go_sem, c0, c1, c2]

theorem below_put2 {w W : World} {H : Nat} (h : Below w.heap.size w W) (hH : w.heap.size ≤ H) (y0 y1 : Value) : Below w.heap.size w ((W.setCell ⟨H, 0, none⟩ y0).setCell ⟨H, 1, none⟩ y1) :=
  (h.setCell (p := ⟨H, 0, none⟩) hH _).setCell (p := ⟨H, 1, none⟩) hH _

theorem TokV.cell {W : World} {g off cap : Nat} {ts : List Tok} {v : Value} (h : TokV W g off cap ts v) (i : Nat) (t : Tok) (ht : ts[i]? = some t) : W.cell? ⟨g, off + i, none⟩ = some (.string (mkB t)) := h.2.2.2.2 i t ht

theorem TokV.below {W W' : World} {g off cap : Nat} {ts : List Tok} {v : Value} (h : TokV W g off cap ts v) (hb : Below W.heap.size W W') : TokV W' g off cap ts v := by
  obtain ⟨h1, h2, h3, h4, h5⟩ := h
  exact ⟨h1, h2, h3, Nat.lt_of_lt_of_le h4 hb.size, fun i t ht => (hb.cell (p := ⟨g, off + i, none⟩) h4).trans (h5 i t ht)⟩

def Tks (ts : List Tok) : Prop := ∀ t, t ∈ ts → Tk t ∧ t.length ≤ 1024

end Go.Proofs.YtkbciljfjijclaaGreatDoor

namespace Go.Proofs.YtkbciljfjijclaaGreatDoor
open Go.RowKit

def IsPair (x : Nat × Nat) (v : Value) (_ : World) : Prop := v = .agg #[.int .i64 (x.1 : Int), .int .i64 (x.2 : Int)]

set_option maxHeartbeats 1000000 in
theorem rng_1y (g off cap : Nat) (a : Tok) (n : Nat) (ha : Tk a) (hl : a.length ≤ 1024) (hn : numT a = some n) (w : World) (hv : TokV w g off cap [a] (.slice (some ⟨g, off, none⟩) 1 cap)) (he : Evs w) :
    Calls Tryz.prog 300 #[.slice (some ⟨g, off, none⟩) 1 cap] w (Ans (some (n, n)) IsPair w) := by
  have BR := hide (Blk.newAt w w.heap.size rfl #[.int .i64 0, .int .i64 0] 303)
  have HB : Hid (Below w.heap.size w (w.alloc (.cells #[.int .i64 0, .int .i64 0] 303))) := (Below.refl w.heap.size w).alloc (Nat.le_refl _) _
  have HE := hide (he.below HB.out)
  have HT := hide (hv.below HB.out)
  have hcap : 1 ≤ cap := hv.2.1
  have hcm : cap ≤ 9223372036854775807 := hv.2.2.1
  have r0 := HT.out.cell 0 _ rfl
  rw [Nat.add_zero] at r0
  have RN := hide (readNumber_any a _ ha hl HE.out)
  rw [hn] at RN
  clear ha hl hn
  clear hv he
  generalize mkB a = s at *
  go_enter Tryz.func300, Tryz.ntmps300
  go_wp2_with fail
  refine RN.out.mono ?_
  rintro e w1 ⟨hb, v, rfl, rfl⟩
  have BR1 := Blk.on BR hb
  have HB1 := hide (HB.out.trans (hb.mono HB.out.size))
  clear hb RN BR HB HE HT r0
  obtain ⟨f0, f1⟩ : w1.frozen? ⟨w.heap.size, 0, none⟩ = false ∧ w1.frozen? ⟨w.heap.size, 1, none⟩ = false := ⟨BR1.out.free 0, BR1.out.free 1⟩
  obtain ⟨c0, c1⟩ := BR1.out.two
  go_wp2
  refine bodyPost_ret (results_bounds rfl _ _ _ _ _ rfl (BR1.out.put2 _ _)) rfl ?_
  exact Ans.ret rfl (below_put2 HB1.out (Nat.le_refl _) _ _) rfl

set_option maxHeartbeats 1000000 in
theorem rng_1n (g off cap : Nat) (a : Tok) (ha : Tk a) (hl : a.length ≤ 1024) (hn : numT a = none) (w : World) (hv : TokV w g off cap [a] (.slice (some ⟨g, off, none⟩) 1 cap)) (he : Evs w) :
    Calls Tryz.prog 300 #[.slice (some ⟨g, off, none⟩) 1 cap] w (Ans (none : Option (Nat × Nat)) IsPair w) := by
  have BR := hide (Blk.newAt w w.heap.size rfl #[.int .i64 0, .int .i64 0] 303)
  have HB : Hid (Below w.heap.size w (w.alloc (.cells #[.int .i64 0, .int .i64 0] 303))) := (Below.refl w.heap.size w).alloc (Nat.le_refl _) _
  have HE := hide (he.below HB.out)
  have HT := hide (hv.below HB.out)
  have hcap : 1 ≤ cap := hv.2.1
  have hcm : cap ≤ 9223372036854775807 := hv.2.2.1
  have r0 := HT.out.cell 0 _ rfl
  rw [Nat.add_zero] at r0
  have RN := hide (readNumber_any a _ ha hl HE.out)
  rw [hn] at RN
  clear ha hl hn
  clear hv he
  generalize mkB a = s at *
  go_enter Tryz.func300, Tryz.ntmps300
  go_wp2_with fail
  refine RN.out.mono ?_
  rintro e w1 ⟨hb, rfl⟩
  have HB1 := hide (HB.out.trans (hb.mono HB.out.size))
  clear hb RN
  go_wp2
  exact ⟨rfl, Ans.panic rfl HB1.out⟩

set_option maxHeartbeats 1000000 in
theorem rng_3y (g off cap : Nat) (a b : Tok) (x y : Nat) (ha : Tk a) (hla : a.length ≤ 1024) (hb : Tk b) (hlb : b.length ≤ 1024) (hx : numT a = some x) (hy : numT b = some y) (hxy : x ≤ y) (w : World) (hv : TokV w g off cap [a, [46, 46], b] (.slice (some ⟨g, off, none⟩) 3 cap)) (he : Evs w) :
    Calls Tryz.prog 300 #[.slice (some ⟨g, off, none⟩) 3 cap] w (Ans (some (x, y)) IsPair w) := by
  have BR := hide (Blk.newAt w w.heap.size rfl #[.int .i64 0, .int .i64 0] 303)
  have HB : Hid (Below w.heap.size w (w.alloc (.cells #[.int .i64 0, .int .i64 0] 303))) := (Below.refl w.heap.size w).alloc (Nat.le_refl _) _
  have HE := hide (he.below HB.out)
  have HT := hide (hv.below HB.out)
  have hcap : 3 ≤ cap := hv.2.1
  have hcm : cap ≤ 9223372036854775807 := hv.2.2.1
  have r0 := HT.out.cell 0 _ rfl
  have r1 := HT.out.cell 1 _ rfl
  have r2 := HT.out.cell 2 _ rfl
  rw [Nat.add_zero] at r0
  have HLT := hide (HT.out.2.2.2.1)
  rw [show mkB [46, 46] = ⟨#[46, 46]⟩ from rfl] at r1
  clear hv he
  have HC : Hid (∀ w', Below (w.alloc (.cells #[.int .i64 0, .int .i64 0] 303)).heap.size (w.alloc (.cells #[.int .i64 0, .int .i64 0] 303)) w' → w'.cell? ⟨g, off, none⟩ = some (.string (mkB a)) ∧ w'.cell? ⟨g, off + 2, none⟩ = some (.string (mkB b))) := fun w' hb => ⟨(hb.cell (p := ⟨g, off, none⟩) HLT.out).trans r0, (hb.cell (p := ⟨g, off + 2, none⟩) HLT.out).trans r2⟩
  have b0 : Hid (Below (w.alloc (.cells #[.int .i64 0, .int .i64 0] 303)).heap.size (w.alloc (.cells #[.int .i64 0, .int .i64 0] 303)) (w.alloc (.cells #[.int .i64 0, .int .i64 0] 303)).drew) := bdrewD (w.alloc (.cells #[.int .i64 0, .int .i64 0] 303))
  have C0 : Hid (∀ X, Hid (Below (w.alloc (.cells #[.int .i64 0, .int .i64 0] 303)).heap.size (w.alloc (.cells #[.int .i64 0, .int .i64 0] 303)) X) → Calls Tryz.prog 307 #[.string (mkB a)] X fun e w' => e = .returned (.int .i64 (x : Int)) ∧ Hid (Below (w.alloc (.cells #[.int .i64 0, .int .i64 0] 303)).heap.size (w.alloc (.cells #[.int .i64 0, .int .i64 0] 303)) w') ∧ w'.cell? ⟨g, off, none⟩ = some (.string (mkB a)) ∧ w'.cell? ⟨g, off + 2, none⟩ = some (.string (mkB b))) := by
    intro X bX
    refine (readNumber_is a X hx ha hla (HE.out.below bX.out)).mono ?_
    rintro e w' ⟨hb, v, rfl, rfl⟩
    have bb := bX.out.trans (hb.mono bX.out.size)
    exact ⟨rfl, bb, HC.out _ bb⟩
  have C1 : Hid (∀ X, Hid (Below (w.alloc (.cells #[.int .i64 0, .int .i64 0] 303)).heap.size (w.alloc (.cells #[.int .i64 0, .int .i64 0] 303)) X) → Calls Tryz.prog 307 #[.string (mkB b)] X fun e w' => e = .returned (.int .i64 (y : Int)) ∧ Hid (Below (w.alloc (.cells #[.int .i64 0, .int .i64 0] 303)).heap.size (w.alloc (.cells #[.int .i64 0, .int .i64 0] 303)) w') ∧ w'.cell? ⟨g, off, none⟩ = some (.string (mkB a)) ∧ w'.cell? ⟨g, off + 2, none⟩ = some (.string (mkB b))) := by
    intro X bX
    refine (readNumber_is b X hy hb hlb (HE.out.below bX.out)).mono ?_
    rintro e w' ⟨hb, v, rfl, rfl⟩
    have bb := bX.out.trans (hb.mono bX.out.size)
    exact ⟨rfl, bb, HC.out _ bb⟩
  clear ha hla hb hlb HC HLT HE hx hy
  have hxy1 : (x : Int) ≤ (y : Int) := by omega
  clear hxy
  go_enter Tryz.func300, Tryz.ntmps300
  go_wp2_with fail
  have mk0 : True := trivial
  go_region_held3 (fun w' => w'.cell? ⟨g, off, none⟩ = some (.string (mkB a)) ∧ w'.cell? ⟨g, off + 2, none⟩ = some (.string (mkB b))) (go_keep) (first
    | (clear mk0; go_at_call 307; refine (C0.out _ b0).mono ?_; rintro e v1 ⟨rfl, b1, q0_0, q0_1⟩; have mk1 : True := trivial)
    | (clear mk1; go_at_call 307; refine (C1.out _ b1).mono ?_; rintro e v2 ⟨rfl, b2, q1_0, q1_1⟩; have mk2 : True := trivial))
  have HB1 := hide (HB.out.trans (b2.out.mono HB.out.size))
  have BR1 := Blk.on BR b2.out
  clear b0 b1 b2 C0 C1 BR HB HT
  obtain ⟨f0, f1⟩ : v2.frozen? ⟨w.heap.size, 0, none⟩ = false ∧ v2.frozen? ⟨w.heap.size, 1, none⟩ = false := ⟨BR1.out.free 0, BR1.out.free 1⟩
  obtain ⟨c0, c1⟩ := BR1.out.two
  go_wp2
  refine bodyPost_ret (results_bounds rfl _ _ _ _ _ rfl (BR1.out.put2 _ _)) rfl ?_
  exact Ans.ret rfl (below_put2 HB1.out (Nat.le_refl _) _ _) rfl

set_option maxHeartbeats 1000000 in
theorem rng_3g (g off cap : Nat) (a b : Tok) (x y : Nat) (ha : Tk a) (hla : a.length ≤ 1024) (hb : Tk b) (hlb : b.length ≤ 1024) (hx : numT a = some x) (hy : numT b = some y) (hxy : ¬ x ≤ y) (w : World) (hv : TokV w g off cap [a, [46, 46], b] (.slice (some ⟨g, off, none⟩) 3 cap)) (he : Evs w) :
    Calls Tryz.prog 300 #[.slice (some ⟨g, off, none⟩) 3 cap] w (Ans (none : Option (Nat × Nat)) IsPair w) := by
  have BR := hide (Blk.newAt w w.heap.size rfl #[.int .i64 0, .int .i64 0] 303)
  have HB : Hid (Below w.heap.size w (w.alloc (.cells #[.int .i64 0, .int .i64 0] 303))) := (Below.refl w.heap.size w).alloc (Nat.le_refl _) _
  have HE := hide (he.below HB.out)
  have HT := hide (hv.below HB.out)
  have hcap : 3 ≤ cap := hv.2.1
  have hcm : cap ≤ 9223372036854775807 := hv.2.2.1
  have r0 := HT.out.cell 0 _ rfl
  have r1 := HT.out.cell 1 _ rfl
  have r2 := HT.out.cell 2 _ rfl
  rw [Nat.add_zero] at r0
  have HLT := hide (HT.out.2.2.2.1)
  rw [show mkB [46, 46] = ⟨#[46, 46]⟩ from rfl] at r1
  clear hv he
  have HC : Hid (∀ w', Below (w.alloc (.cells #[.int .i64 0, .int .i64 0] 303)).heap.size (w.alloc (.cells #[.int .i64 0, .int .i64 0] 303)) w' → w'.cell? ⟨g, off, none⟩ = some (.string (mkB a)) ∧ w'.cell? ⟨g, off + 2, none⟩ = some (.string (mkB b))) := fun w' hb => ⟨(hb.cell (p := ⟨g, off, none⟩) HLT.out).trans r0, (hb.cell (p := ⟨g, off + 2, none⟩) HLT.out).trans r2⟩
  have b0 : Hid (Below (w.alloc (.cells #[.int .i64 0, .int .i64 0] 303)).heap.size (w.alloc (.cells #[.int .i64 0, .int .i64 0] 303)) (w.alloc (.cells #[.int .i64 0, .int .i64 0] 303)).drew) := bdrewD (w.alloc (.cells #[.int .i64 0, .int .i64 0] 303))
  have C0 : Hid (∀ X, Hid (Below (w.alloc (.cells #[.int .i64 0, .int .i64 0] 303)).heap.size (w.alloc (.cells #[.int .i64 0, .int .i64 0] 303)) X) → Calls Tryz.prog 307 #[.string (mkB a)] X fun e w' => e = .returned (.int .i64 (x : Int)) ∧ Hid (Below (w.alloc (.cells #[.int .i64 0, .int .i64 0] 303)).heap.size (w.alloc (.cells #[.int .i64 0, .int .i64 0] 303)) w') ∧ w'.cell? ⟨g, off, none⟩ = some (.string (mkB a)) ∧ w'.cell? ⟨g, off + 2, none⟩ = some (.string (mkB b))) := by
    intro X bX
    refine (readNumber_is a X hx ha hla (HE.out.below bX.out)).mono ?_
    rintro e w' ⟨hb, v, rfl, rfl⟩
    have bb := bX.out.trans (hb.mono bX.out.size)
    exact ⟨rfl, bb, HC.out _ bb⟩
  have C1 : Hid (∀ X, Hid (Below (w.alloc (.cells #[.int .i64 0, .int .i64 0] 303)).heap.size (w.alloc (.cells #[.int .i64 0, .int .i64 0] 303)) X) → Calls Tryz.prog 307 #[.string (mkB b)] X fun e w' => e = .returned (.int .i64 (y : Int)) ∧ Hid (Below (w.alloc (.cells #[.int .i64 0, .int .i64 0] 303)).heap.size (w.alloc (.cells #[.int .i64 0, .int .i64 0] 303)) w') ∧ w'.cell? ⟨g, off, none⟩ = some (.string (mkB a)) ∧ w'.cell? ⟨g, off + 2, none⟩ = some (.string (mkB b))) := by
    intro X bX
    refine (readNumber_is b X hy hb hlb (HE.out.below bX.out)).mono ?_
    rintro e w' ⟨hb, v, rfl, rfl⟩
    have bb := bX.out.trans (hb.mono bX.out.size)
    exact ⟨rfl, bb, HC.out _ bb⟩
  clear ha hla hb hlb HC HLT HE hx hy
  have hxy1 : ¬ (x : Int) ≤ (y : Int) := by omega
  clear hxy
  go_enter Tryz.func300, Tryz.ntmps300
  go_wp2_with fail
  have mk0 : True := trivial
  go_region_held3 (fun w' => w'.cell? ⟨g, off, none⟩ = some (.string (mkB a)) ∧ w'.cell? ⟨g, off + 2, none⟩ = some (.string (mkB b))) (go_keep) (first
    | (clear mk0; go_at_call 307; refine (C0.out _ b0).mono ?_; rintro e v1 ⟨rfl, b1, q0_0, q0_1⟩; have mk1 : True := trivial)
    | (clear mk1; go_at_call 307; refine (C1.out _ b1).mono ?_; rintro e v2 ⟨rfl, b2, q1_0, q1_1⟩; have mk2 : True := trivial))
  have HB1 := hide (HB.out.trans (b2.out.mono HB.out.size))
  have BR1 := Blk.on BR b2.out
  clear b0 b1 b2 C0 C1 BR HB HT
  obtain ⟨f0, f1⟩ : v2.frozen? ⟨w.heap.size, 0, none⟩ = false ∧ v2.frozen? ⟨w.heap.size, 1, none⟩ = false := ⟨BR1.out.free 0, BR1.out.free 1⟩
  obtain ⟨c0, c1⟩ := BR1.out.two
  go_wp2
  exact ⟨rfl, Ans.panic rfl HB1.out⟩

set_option maxHeartbeats 1000000 in
theorem rng_3b (g off cap : Nat) (a b : Tok) (x : Nat) (ha : Tk a) (hla : a.length ≤ 1024) (hb : Tk b) (hlb : b.length ≤ 1024) (hx : numT a = some x) (hy : numT b = none) (w : World) (hv : TokV w g off cap [a, [46, 46], b] (.slice (some ⟨g, off, none⟩) 3 cap)) (he : Evs w) :
    Calls Tryz.prog 300 #[.slice (some ⟨g, off, none⟩) 3 cap] w (Ans (none : Option (Nat × Nat)) IsPair w) := by
  have BR := hide (Blk.newAt w w.heap.size rfl #[.int .i64 0, .int .i64 0] 303)
  have HB : Hid (Below w.heap.size w (w.alloc (.cells #[.int .i64 0, .int .i64 0] 303))) := (Below.refl w.heap.size w).alloc (Nat.le_refl _) _
  have HE := hide (he.below HB.out)
  have HT := hide (hv.below HB.out)
  have hcap : 3 ≤ cap := hv.2.1
  have hcm : cap ≤ 9223372036854775807 := hv.2.2.1
  have r0 := HT.out.cell 0 _ rfl
  have r1 := HT.out.cell 1 _ rfl
  have r2 := HT.out.cell 2 _ rfl
  rw [Nat.add_zero] at r0
  have HLT := hide (HT.out.2.2.2.1)
  rw [show mkB [46, 46] = ⟨#[46, 46]⟩ from rfl] at r1
  clear hv he
  have HC : Hid (∀ w', Below (w.alloc (.cells #[.int .i64 0, .int .i64 0] 303)).heap.size (w.alloc (.cells #[.int .i64 0, .int .i64 0] 303)) w' → w'.cell? ⟨g, off, none⟩ = some (.string (mkB a)) ∧ w'.cell? ⟨g, off + 2, none⟩ = some (.string (mkB b))) := fun w' hb => ⟨(hb.cell (p := ⟨g, off, none⟩) HLT.out).trans r0, (hb.cell (p := ⟨g, off + 2, none⟩) HLT.out).trans r2⟩
  have b0 : Hid (Below (w.alloc (.cells #[.int .i64 0, .int .i64 0] 303)).heap.size (w.alloc (.cells #[.int .i64 0, .int .i64 0] 303)) (w.alloc (.cells #[.int .i64 0, .int .i64 0] 303)).drew) := bdrewD (w.alloc (.cells #[.int .i64 0, .int .i64 0] 303))
  have C0 : Hid (∀ X, Hid (Below (w.alloc (.cells #[.int .i64 0, .int .i64 0] 303)).heap.size (w.alloc (.cells #[.int .i64 0, .int .i64 0] 303)) X) → Calls Tryz.prog 307 #[.string (mkB a)] X fun e w' => e = .returned (.int .i64 (x : Int)) ∧ Hid (Below (w.alloc (.cells #[.int .i64 0, .int .i64 0] 303)).heap.size (w.alloc (.cells #[.int .i64 0, .int .i64 0] 303)) w') ∧ w'.cell? ⟨g, off, none⟩ = some (.string (mkB a)) ∧ w'.cell? ⟨g, off + 2, none⟩ = some (.string (mkB b))) := by
    intro X bX
    refine (readNumber_is a X hx ha hla (HE.out.below bX.out)).mono ?_
    rintro e w' ⟨hb, v, rfl, rfl⟩
    have bb := bX.out.trans (hb.mono bX.out.size)
    exact ⟨rfl, bb, HC.out _ bb⟩
  have C1 : Hid (∀ X, Hid (Below (w.alloc (.cells #[.int .i64 0, .int .i64 0] 303)).heap.size (w.alloc (.cells #[.int .i64 0, .int .i64 0] 303)) X) → Calls Tryz.prog 307 #[.string (mkB b)] X fun e w' => e = .panicked PC ∧ Hid (Below (w.alloc (.cells #[.int .i64 0, .int .i64 0] 303)).heap.size (w.alloc (.cells #[.int .i64 0, .int .i64 0] 303)) w')) := by
    intro X bX
    refine (readNumber_is b X hy hb hlb (HE.out.below bX.out)).mono ?_
    rintro e w' ⟨hb, rfl⟩
    exact ⟨rfl, bX.out.trans (hb.mono bX.out.size)⟩
  clear ha hla hb hlb HC HLT HE hx hy
  go_enter Tryz.func300, Tryz.ntmps300
  go_wp2_with fail
  refine wp_region_held_drew (S := (fun w' => w'.cell? ⟨g, off, none⟩ = some (.string (mkB a)) ∧ w'.cell? ⟨g, off + 2, none⟩ = some (.string (mkB b)))) (by kernel_rfl) ?_ (fun hHeld => ?_)
  · (try dsimp only)
    go_keep
  refine wpAnyH_take (i := 0) (oi := Oper.mk (some 27) _ _ _ _ _) (v := .slice (some ⟨g, off, none⟩) 3 cap) rfl (by kernel_rfl) (by kernel_rfl) (by kernel_rfl) (fun _ _ _ h => h) (Or.inl ⟨by rfl, ?_⟩) (by assumption) ?_
  · intro wX hSw
    (try dsimp only at hSw)
    go_simp
  simp only [Act.put, List.setIfInBounds_toArray, List.set_cons_succ, List.set_cons_zero]
  refine wpAnyH_take (i := 1) (oi := Oper.mk (some 28) _ _ _ _ _) (v := .pointer (some ⟨g, off, none⟩)) rfl (by kernel_rfl) (by kernel_rfl) (by kernel_rfl) (fun _ _ _ h => h) (Or.inl ⟨by rfl, ?_⟩) (by assumption) ?_
  · intro wX hSw
    (try dsimp only at hSw)
    go_simp
  simp only [Act.put, List.setIfInBounds_toArray, List.set_cons_succ, List.set_cons_zero]
  refine wpAnyH_take (i := 2) (oi := Oper.mk (some 29) _ _ _ _ _) (v := .string (mkB a)) rfl (by kernel_rfl) (by kernel_rfl) (by kernel_rfl) (fun _ _ _ h => h) (Or.inl ⟨by rfl, ?_⟩) (by assumption) ?_
  · intro wX hSw
    (try dsimp only at hSw)
    go_simp
  simp only [Act.put, List.setIfInBounds_toArray, List.set_cons_succ, List.set_cons_zero]
  refine wpAnyH_take (i := 4) (oi := Oper.mk (some 31) _ _ _ _ _) (v := .slice (some ⟨g, off, none⟩) 3 cap) rfl (by kernel_rfl) (by kernel_rfl) (by kernel_rfl) (fun _ _ _ h => h) (Or.inl ⟨by rfl, ?_⟩) (by assumption) ?_
  · intro wX hSw
    (try dsimp only at hSw)
    go_simp
  simp only [Act.put, List.setIfInBounds_toArray, List.set_cons_succ, List.set_cons_zero]
  refine wpAnyH_take (i := 5) (oi := Oper.mk (some 32) _ _ _ _ _) (v := .pointer (some ⟨g, off + 2, none⟩)) rfl (by kernel_rfl) (by kernel_rfl) (by kernel_rfl) (fun _ _ _ h => h) (Or.inl ⟨by rfl, ?_⟩) (by assumption) ?_
  · intro wX hSw
    (try dsimp only at hSw)
    go_simp
  simp only [Act.put, List.setIfInBounds_toArray, List.set_cons_succ, List.set_cons_zero]
  refine wpAnyH_take (i := 6) (oi := Oper.mk (some 33) _ _ _ _ _) (v := .string (mkB b)) rfl (by kernel_rfl) (by kernel_rfl) (by kernel_rfl) (fun _ _ _ h => h) (Or.inl ⟨by rfl, ?_⟩) (by assumption) ?_
  · intro wX hSw
    (try dsimp only at hSw)
    go_simp
  simp only [Act.put, List.setIfInBounds_toArray, List.set_cons_succ, List.set_cons_zero]
  refine wpAnyH_ready (rs := [3]) (by kernel_rfl) (by simp) ?_
  refine AllReadyH.cons (o := Oper.mk (some 30) _ _ _ _ _) rfl (fun K hK => ?_) AllReadyH.nil
  go_simp
  refine (C0.out _ b0).mono ?_
  rintro e v1 ⟨rfl, b1, q0, q1⟩
  refine hK.out _ _ ?_ (fun hHeld => ?_)
  · (try dsimp only)
    go_keep
  clear hK K
  refine wpAnyH_ready (rs := [7]) (by kernel_rfl) (by simp) ?_
  refine AllReadyH.cons (o := Oper.mk (some 34) _ _ _ _ _) rfl (fun K hK => ?_) AllReadyH.nil
  go_simp
  refine (C1.out _ b1).mono ?_
  rintro e v2 ⟨rfl, b2⟩
  exact ⟨rfl, Ans.panic rfl (HB.out.trans (b2.out.mono HB.out.size))⟩

set_option maxHeartbeats 1000000 in
theorem rng_3a (g off cap : Nat) (a b : Tok) (ha : Tk a) (hla : a.length ≤ 1024) (hx : numT a = none) (w : World) (hv : TokV w g off cap [a, [46, 46], b] (.slice (some ⟨g, off, none⟩) 3 cap)) (he : Evs w) :
    Calls Tryz.prog 300 #[.slice (some ⟨g, off, none⟩) 3 cap] w (Ans (none : Option (Nat × Nat)) IsPair w) := by
  have BR := hide (Blk.newAt w w.heap.size rfl #[.int .i64 0, .int .i64 0] 303)
  have HB : Hid (Below w.heap.size w (w.alloc (.cells #[.int .i64 0, .int .i64 0] 303))) := (Below.refl w.heap.size w).alloc (Nat.le_refl _) _
  have HE := hide (he.below HB.out)
  have HT := hide (hv.below HB.out)
  have hcap : 3 ≤ cap := hv.2.1
  have hcm : cap ≤ 9223372036854775807 := hv.2.2.1
  have r0 := HT.out.cell 0 _ rfl
  have r1 := HT.out.cell 1 _ rfl
  have r2 := HT.out.cell 2 _ rfl
  rw [Nat.add_zero] at r0
  have HLT := hide (HT.out.2.2.2.1)
  rw [show mkB [46, 46] = ⟨#[46, 46]⟩ from rfl] at r1
  clear hv he
  have HC : Hid (∀ w', Below (w.alloc (.cells #[.int .i64 0, .int .i64 0] 303)).heap.size (w.alloc (.cells #[.int .i64 0, .int .i64 0] 303)) w' → w'.cell? ⟨g, off, none⟩ = some (.string (mkB a)) ∧ w'.cell? ⟨g, off + 2, none⟩ = some (.string (mkB b))) := fun w' hb => ⟨(hb.cell (p := ⟨g, off, none⟩) HLT.out).trans r0, (hb.cell (p := ⟨g, off + 2, none⟩) HLT.out).trans r2⟩
  have b0 : Hid (Below (w.alloc (.cells #[.int .i64 0, .int .i64 0] 303)).heap.size (w.alloc (.cells #[.int .i64 0, .int .i64 0] 303)) (w.alloc (.cells #[.int .i64 0, .int .i64 0] 303)).drew) := bdrewD (w.alloc (.cells #[.int .i64 0, .int .i64 0] 303))
  have C0 : Hid (∀ X, Hid (Below (w.alloc (.cells #[.int .i64 0, .int .i64 0] 303)).heap.size (w.alloc (.cells #[.int .i64 0, .int .i64 0] 303)) X) → Calls Tryz.prog 307 #[.string (mkB a)] X fun e w' => e = .panicked PC ∧ Hid (Below (w.alloc (.cells #[.int .i64 0, .int .i64 0] 303)).heap.size (w.alloc (.cells #[.int .i64 0, .int .i64 0] 303)) w')) := by
    intro X bX
    refine (readNumber_is a X hx ha hla (HE.out.below bX.out)).mono ?_
    rintro e w' ⟨hb, rfl⟩
    exact ⟨rfl, bX.out.trans (hb.mono bX.out.size)⟩
  clear ha hla HC HLT HE hx
  go_enter Tryz.func300, Tryz.ntmps300
  go_wp2_with fail
  refine wp_region_held_drew (S := (fun w' => w'.cell? ⟨g, off, none⟩ = some (.string (mkB a)) ∧ w'.cell? ⟨g, off + 2, none⟩ = some (.string (mkB b)))) (by kernel_rfl) ?_ (fun hHeld => ?_)
  · (try dsimp only)
    go_keep
  refine wpAnyH_take (i := 0) (oi := Oper.mk (some 27) _ _ _ _ _) (v := .slice (some ⟨g, off, none⟩) 3 cap) rfl (by kernel_rfl) (by kernel_rfl) (by kernel_rfl) (fun _ _ _ h => h) (Or.inl ⟨by rfl, ?_⟩) (by assumption) ?_
  · intro wX hSw
    (try dsimp only at hSw)
    go_simp
  simp only [Act.put, List.setIfInBounds_toArray, List.set_cons_succ, List.set_cons_zero]
  refine wpAnyH_take (i := 1) (oi := Oper.mk (some 28) _ _ _ _ _) (v := .pointer (some ⟨g, off, none⟩)) rfl (by kernel_rfl) (by kernel_rfl) (by kernel_rfl) (fun _ _ _ h => h) (Or.inl ⟨by rfl, ?_⟩) (by assumption) ?_
  · intro wX hSw
    (try dsimp only at hSw)
    go_simp
  simp only [Act.put, List.setIfInBounds_toArray, List.set_cons_succ, List.set_cons_zero]
  refine wpAnyH_take (i := 2) (oi := Oper.mk (some 29) _ _ _ _ _) (v := .string (mkB a)) rfl (by kernel_rfl) (by kernel_rfl) (by kernel_rfl) (fun _ _ _ h => h) (Or.inl ⟨by rfl, ?_⟩) (by assumption) ?_
  · intro wX hSw
    (try dsimp only at hSw)
    go_simp
  simp only [Act.put, List.setIfInBounds_toArray, List.set_cons_succ, List.set_cons_zero]
  refine wpAnyH_take (i := 4) (oi := Oper.mk (some 31) _ _ _ _ _) (v := .slice (some ⟨g, off, none⟩) 3 cap) rfl (by kernel_rfl) (by kernel_rfl) (by kernel_rfl) (fun _ _ _ h => h) (Or.inl ⟨by rfl, ?_⟩) (by assumption) ?_
  · intro wX hSw
    (try dsimp only at hSw)
    go_simp
  simp only [Act.put, List.setIfInBounds_toArray, List.set_cons_succ, List.set_cons_zero]
  refine wpAnyH_take (i := 5) (oi := Oper.mk (some 32) _ _ _ _ _) (v := .pointer (some ⟨g, off + 2, none⟩)) rfl (by kernel_rfl) (by kernel_rfl) (by kernel_rfl) (fun _ _ _ h => h) (Or.inl ⟨by rfl, ?_⟩) (by assumption) ?_
  · intro wX hSw
    (try dsimp only at hSw)
    go_simp
  simp only [Act.put, List.setIfInBounds_toArray, List.set_cons_succ, List.set_cons_zero]
  refine wpAnyH_take (i := 6) (oi := Oper.mk (some 33) _ _ _ _ _) (v := .string (mkB b)) rfl (by kernel_rfl) (by kernel_rfl) (by kernel_rfl) (fun _ _ _ h => h) (Or.inl ⟨by rfl, ?_⟩) (by assumption) ?_
  · intro wX hSw
    (try dsimp only at hSw)
    go_simp
  simp only [Act.put, List.setIfInBounds_toArray, List.set_cons_succ, List.set_cons_zero]
  refine wpAnyH_ready (rs := [3]) (by kernel_rfl) (by simp) ?_
  refine AllReadyH.cons (o := Oper.mk (some 30) _ _ _ _ _) rfl (fun K hK => ?_) AllReadyH.nil
  go_simp
  refine (C0.out _ b0).mono ?_
  rintro e v1 ⟨rfl, b1⟩
  exact ⟨rfl, Ans.panic rfl (HB.out.trans (b1.out.mono HB.out.size))⟩

set_option maxHeartbeats 1000000 in
theorem rng_3d (g off cap : Nat) (a d b : Tok) (hd : d ≠ [46, 46]) (w : World) (hv : TokV w g off cap [a, d, b] (.slice (some ⟨g, off, none⟩) 3 cap)) (he : Evs w) :
    Calls Tryz.prog 300 #[.slice (some ⟨g, off, none⟩) 3 cap] w (Ans (none : Option (Nat × Nat)) IsPair w) := by
  have BR := hide (Blk.newAt w w.heap.size rfl #[.int .i64 0, .int .i64 0] 303)
  have HB : Hid (Below w.heap.size w (w.alloc (.cells #[.int .i64 0, .int .i64 0] 303))) := (Below.refl w.heap.size w).alloc (Nat.le_refl _) _
  have HE := hide (he.below HB.out)
  have HT := hide (hv.below HB.out)
  have hcap : 3 ≤ cap := hv.2.1
  have hcm : cap ≤ 9223372036854775807 := hv.2.2.1
  have r0 := HT.out.cell 0 _ rfl
  have r1 := HT.out.cell 1 _ rfl
  have r2 := HT.out.cell 2 _ rfl
  rw [Nat.add_zero] at r0
  have hq := ne_lit hd
  clear hd HE HT r0 r2
  clear hv he
  go_enter Tryz.func300, Tryz.ntmps300
  go_wp2
  exact ⟨rfl, Ans.panic rfl HB.out⟩

theorem rng_x (a : Option Addr) (n cap : Nat) (w : World) (h1 : n ≠ 1) (h3 : n ≠ 3) : Calls Tryz.prog 300 #[.slice a n cap] w (Ans (none : Option (Nat × Nat)) IsPair w) := by
  have HB : Hid (Below w.heap.size w (w.alloc (.cells #[.int .i64 0, .int .i64 0] 303))) := (Below.refl w.heap.size w).alloc (Nat.le_refl _) _
  have q1 : ((n : Int) == 1) = false := beq_eq_false_iff_ne.2 (by omega)
  have q3 : ((n : Int) == 3) = false := beq_eq_false_iff_ne.2 (by omega)
  clear h1 h3
  go_enter Tryz.func300, Tryz.ntmps300
  go_wp2
  exact ⟨rfl, Ans.panic rfl HB.out⟩

theorem readRange_any (g off cap : Nat) (ts : List Tok) (v : Value) (w : World) (hv : TokV w g off cap ts v) (ht : Tks ts) (he : Evs w) : Calls Tryz.prog 300 #[v] w (Ans (rangeT ts) IsPair w) := by
  obtain rfl : v = .slice (some ⟨g, off, none⟩) ts.length cap := hv.1
  match ts, hv, ht with
  | [], hv, _ => exact rng_x _ 0 cap w (by omega) (by omega)
  | [a], hv, ht =>
    obtain ⟨k1, k2⟩ := ht a (by simp)
    cases hn : numT a with
    | some n => rw [show rangeT [a] = some (n, n) by simp [rangeT, hn]]; exact rng_1y g off cap a n k1 k2 hn w hv he
    | none => rw [show rangeT [a] = none by simp [rangeT, hn]]; exact rng_1n g off cap a k1 k2 hn w hv he
  | [_, _], hv, _ => exact rng_x _ 2 cap w (by omega) (by omega)
  | [a, d, b], hv, ht =>
    obtain ⟨k1, k2⟩ := ht a (by simp)
    obtain ⟨k3, k4⟩ := ht b (by simp)
    by_cases hd : d = [46, 46]
    · subst hd
      cases hn : numT a with
      | none => rw [show rangeT [a, [46, 46], b] = none by simp [rangeT, hn]]; exact rng_3a g off cap a b k1 k2 hn w hv he
      | some x =>
        cases hm : numT b with
        | none => rw [show rangeT [a, [46, 46], b] = none by simp [rangeT, hn, hm]]; exact rng_3b g off cap a b x k1 k2 k3 k4 hn hm w hv he
        | some y =>
          by_cases hxy : x ≤ y
          · rw [show rangeT [a, [46, 46], b] = some (x, y) by simp [rangeT, hn, hm, hxy]]; exact rng_3y g off cap a b x y k1 k2 k3 k4 hn hm hxy w hv he
          · rw [show rangeT [a, [46, 46], b] = none by simp [rangeT, hn, hm, hxy]]; exact rng_3g g off cap a b x y k1 k2 k3 k4 hn hm hxy w hv he
    · rw [show rangeT [a, d, b] = none by simp [rangeT, hd]]; exact rng_3d g off cap a d b hd w hv he
  | _ :: _ :: _ :: _ :: r, hv, _ => exact rng_x _ _ cap w (by simp) (by simp)

end Go.Proofs.YtkbciljfjijclaaGreatDoor
