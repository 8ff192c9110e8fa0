/-
  What rule's readExpr does.
  A region within a round: walked as anywhere, if it defers nothing.
  Lists of rule's structs as they lie in memory, and what is kept while one of them grows.
  What rule's readRanges does.
-/
import Derived.Test.YtkbciljfjijclaaGreatDoorAB17
import Derived.Test.YtkbciljfjijclaaGreatDoorAB12
import Derived.OrdersIn
import Derived.OrdersHeld
import Derived.Deep.RegionHeld
import Derived.Deep.AppendLies
namespace Go.Proofs.YtkbciljfjijclaaGreatDoor
open Go.RowKit

def IsExpr (x : UInt8 × Nat) (v : Value) (_ : World) : Prop := v = .agg #[.int .u8 (x.1.toNat : Int), .int .i64 (x.2 : Int)]

theorem readOperand_is (t : Tok) (w : World) {o : Option UInt8} (h : operT t = o) (hl : t.length ≤ 1024) : Calls Tryz.prog 298 #[.string (mkB t)] w (Ans o IsByte w) := h ▸ readOperand_any t w hl
def divT (t : Tok) : Option Nat := match numT t with | some n => if n = 0 then none else some n | none => none
theorem readDivisor_is (t : Tok) (w : World) {o : Option Nat} (h : divT t = o) (ht : Tk t) (hl : t.length ≤ 1024) (hv : Evs w) : Calls Tryz.prog 299 #[.string (mkB t)] w (Ans o IsNum w) := h ▸ readDivisor_any t w ht hl hv

set_option maxHeartbeats 1000000 in
theorem exp_1y (g off cap : Nat) (a : Tok) (c : UInt8) (hl : a.length ≤ 1024) (hn : operT a = some c) (w : World) (hv : TokV w g off cap [a] (.slice (some ⟨g, off, none⟩) 1 cap)) (he : Evs w) :
    Calls Tryz.prog 279 #[.slice (some ⟨g, off, none⟩) 1 cap] w (Ans (some (c, 0)) IsExpr w) := by
  have BR := hide (Blk.newAt w w.heap.size rfl #[.int .u8 0, .int .i64 0] 226)
  have HB : Hid (Below w.heap.size w (w.alloc (.cells #[.int .u8 0, .int .i64 0] 226))) := (Below.refl w.heap.size w).alloc (Nat.le_refl _) _
  have HE := hide (he.below HB.out)
  have HT := hide (hv.below HB.out)
  have hcap : 1 ≤ cap := hv.2.1
  have hcm : cap ≤ 9223372036854775807 := hv.2.2.1
  have r0 := HT.out.cell 0 _ rfl
  rw [Nat.add_zero] at r0
  have RN := hide (readOperand_is a (w.alloc (.cells #[.int .u8 0, .int .i64 0] 226)) hn hl)
  clear hl hn
  clear hv he
  go_enter Tryz.func279, Tryz.ntmps279
  go_wp2_with fail
  refine RN.out.mono ?_
  rintro e w1 ⟨hb, v, rfl, rfl⟩
  have BR1 := Blk.on BR hb
  have HB1 := hide (HB.out.trans (hb.mono HB.out.size))
  clear hb RN BR HB HE HT r0
  obtain ⟨f0, f1⟩ : w1.frozen? ⟨w.heap.size, 0, none⟩ = false ∧ w1.frozen? ⟨w.heap.size, 1, none⟩ = false := ⟨BR1.out.free 0, BR1.out.free 1⟩
  obtain ⟨c0, c1⟩ := BR1.out.two
  go_wp2
  refine bodyPost_ret (results_expr rfl _ _ _ _ _ rfl (BR1.out.put2 _ _)) rfl ?_
  exact Ans.ret rfl (below_put2 HB1.out (Nat.le_refl _) _ _) rfl

set_option maxHeartbeats 1000000 in
theorem exp_1n (g off cap : Nat) (a : Tok) (hl : a.length ≤ 1024) (hn : operT a = none) (w : World) (hv : TokV w g off cap [a] (.slice (some ⟨g, off, none⟩) 1 cap)) (he : Evs w) :
    Calls Tryz.prog 279 #[.slice (some ⟨g, off, none⟩) 1 cap] w (Ans (none : Option (UInt8 × Nat)) IsExpr w) := by
  have BR := hide (Blk.newAt w w.heap.size rfl #[.int .u8 0, .int .i64 0] 226)
  have HB : Hid (Below w.heap.size w (w.alloc (.cells #[.int .u8 0, .int .i64 0] 226))) := (Below.refl w.heap.size w).alloc (Nat.le_refl _) _
  have HE := hide (he.below HB.out)
  have HT := hide (hv.below HB.out)
  have hcap : 1 ≤ cap := hv.2.1
  have hcm : cap ≤ 9223372036854775807 := hv.2.2.1
  have r0 := HT.out.cell 0 _ rfl
  rw [Nat.add_zero] at r0
  have RN := hide (readOperand_is a (w.alloc (.cells #[.int .u8 0, .int .i64 0] 226)) hn hl)
  clear hl hn
  clear hv he
  go_enter Tryz.func279, Tryz.ntmps279
  go_wp2_with fail
  refine RN.out.mono ?_
  rintro e w1 ⟨hb, rfl⟩
  have HB1 := hide (HB.out.trans (hb.mono HB.out.size))
  clear hb RN
  go_wp2
  exact ⟨rfl, Ans.panic rfl HB1.out⟩

set_option maxHeartbeats 1000000 in
theorem exp_3y (g off cap : Nat) (a b : Tok) (c : UInt8) (k : Nat) (hla : a.length ≤ 1024) (hb : Tk b) (hlb : b.length ≤ 1024) (hx : operT a = some c) (hy : divT b = some k) (w : World) (hv : TokV w g off cap [a, [37], b] (.slice (some ⟨g, off, none⟩) 3 cap)) (he : Evs w) :
    Calls Tryz.prog 279 #[.slice (some ⟨g, off, none⟩) 3 cap] w (Ans (some (c, k)) IsExpr w) := by
  have BR := hide (Blk.newAt w w.heap.size rfl #[.int .u8 0, .int .i64 0] 226)
  have HB : Hid (Below w.heap.size w (w.alloc (.cells #[.int .u8 0, .int .i64 0] 226))) := (Below.refl w.heap.size w).alloc (Nat.le_refl _) _
  have HE := hide (he.below HB.out)
  have HT := hide (hv.below HB.out)
  have hcap : 3 ≤ cap := hv.2.1
  have hcm : cap ≤ 9223372036854775807 := hv.2.2.1
  have r0 := HT.out.cell 0 _ rfl
  have r1 := HT.out.cell 1 _ rfl
  have r2 := HT.out.cell 2 _ rfl
  rw [Nat.add_zero] at r0
  have HLT := hide (HT.out.2.2.2.1)
  have hgn : ¬ g = w.heap.size := by have := hv.2.2.2.1; omega
  have hgm : ¬ w.heap.size = g := by have := hv.2.2.2.1; omega
  rw [show mkB [37] = ⟨#[37]⟩ from rfl] at r1
  clear hv he
  have HC : Hid (∀ w', Below (w.alloc (.cells #[.int .u8 0, .int .i64 0] 226)).heap.size (w.alloc (.cells #[.int .u8 0, .int .i64 0] 226)) w' → w'.cell? ⟨g, off, none⟩ = some (.string (mkB a)) ∧ w'.cell? ⟨g, off + 2, none⟩ = some (.string (mkB b))) := fun w' hb => ⟨(hb.cell (p := ⟨g, off, none⟩) HLT.out).trans r0, (hb.cell (p := ⟨g, off + 2, none⟩) HLT.out).trans r2⟩
  have b0 : Hid (Below (w.alloc (.cells #[.int .u8 0, .int .i64 0] 226)).heap.size (w.alloc (.cells #[.int .u8 0, .int .i64 0] 226)) (w.alloc (.cells #[.int .u8 0, .int .i64 0] 226)).drew) := bdrewD (w.alloc (.cells #[.int .u8 0, .int .i64 0] 226))
  have C0 : Hid (∀ X, Hid (Below (w.alloc (.cells #[.int .u8 0, .int .i64 0] 226)).heap.size (w.alloc (.cells #[.int .u8 0, .int .i64 0] 226)) X) → Calls Tryz.prog 298 #[.string (mkB a)] X fun e w' => e = .returned (.int .u8 (c.toNat : Int)) ∧ Hid (Below (w.alloc (.cells #[.int .u8 0, .int .i64 0] 226)).heap.size (w.alloc (.cells #[.int .u8 0, .int .i64 0] 226)) w') ∧ w'.cell? ⟨g, off, none⟩ = some (.string (mkB a)) ∧ w'.cell? ⟨g, off + 2, none⟩ = some (.string (mkB b))) := by
    intro X bX
    refine (readOperand_is a X hx hla).mono ?_
    rintro e w' ⟨hb, v, rfl, rfl⟩
    have bb := bX.out.trans (hb.mono bX.out.size)
    exact ⟨rfl, bb, HC.out _ bb⟩
  have C1 : Hid (∀ X, Hid (Below (w.alloc (.cells #[.int .u8 0, .int .i64 0] 226)).heap.size (w.alloc (.cells #[.int .u8 0, .int .i64 0] 226)) X) → Calls Tryz.prog 299 #[.string (mkB b)] X fun e w' => e = .returned (.int .i64 (k : Int)) ∧ Hid (Below (w.alloc (.cells #[.int .u8 0, .int .i64 0] 226)).heap.size (w.alloc (.cells #[.int .u8 0, .int .i64 0] 226)) w') ∧ w'.cell? ⟨g, off, none⟩ = some (.string (mkB a)) ∧ w'.cell? ⟨g, off + 2, none⟩ = some (.string (mkB b))) := by
    intro X bX
    refine (readDivisor_is b X hy hb hlb (HE.out.below bX.out)).mono ?_
    rintro e w' ⟨hb, v, rfl, rfl⟩
    have bb := bX.out.trans (hb.mono bX.out.size)
    exact ⟨rfl, bb, HC.out _ bb⟩
  clear hla hb hlb HC HLT HE hx hy
  go_enter Tryz.func279, Tryz.ntmps279
  go_wp2_with fail
  refine wp_region_held_drew (S := (fun w' => w'.cell? ⟨g, off, none⟩ = some (.string (mkB a)) ∧ w'.cell? ⟨g, off + 2, none⟩ = some (.string (mkB b)))) (by kernel_rfl) ?_ (fun hHeld => ?_)
  · (try dsimp only)
    go_keep
  refine wpAnyH_take (i := 0) (oi := Oper.mk (some 22) _ _ _ _ _) (v := .slice (some ⟨g, off, none⟩) 3 cap) rfl (by kernel_rfl) (by kernel_rfl) (by kernel_rfl) (fun _ _ _ h => h) (Or.inl ⟨by rfl, ?_⟩) (by assumption) ?_
  · intro wX hSw
    (try dsimp only at hSw)
    go_simp
  simp only [Act.put, List.setIfInBounds_toArray, List.set_cons_succ, List.set_cons_zero]
  refine wpAnyH_take (i := 1) (oi := Oper.mk (some 23) _ _ _ _ _) (v := .pointer (some ⟨g, off, none⟩)) rfl (by kernel_rfl) (by kernel_rfl) (by kernel_rfl) (fun _ _ _ h => h) (Or.inl ⟨by rfl, ?_⟩) (by assumption) ?_
  · intro wX hSw
    (try dsimp only at hSw)
    go_simp
  simp only [Act.put, List.setIfInBounds_toArray, List.set_cons_succ, List.set_cons_zero]
  refine wpAnyH_take (i := 2) (oi := Oper.mk (some 24) _ _ _ _ _) (v := .string (mkB a)) rfl (by kernel_rfl) (by kernel_rfl) (by kernel_rfl) (fun _ _ _ h => h) (Or.inl ⟨by rfl, ?_⟩) (by assumption) ?_
  · intro wX hSw
    (try dsimp only at hSw)
    go_simp
  simp only [Act.put, List.setIfInBounds_toArray, List.set_cons_succ, List.set_cons_zero]
  refine wpAnyH_take (i := 4) (oi := Oper.mk (some 26) _ _ _ _ _) (v := .slice (some ⟨g, off, none⟩) 3 cap) rfl (by kernel_rfl) (by kernel_rfl) (by kernel_rfl) (fun _ _ _ h => h) (Or.inl ⟨by rfl, ?_⟩) (by assumption) ?_
  · intro wX hSw
    (try dsimp only at hSw)
    go_simp
  simp only [Act.put, List.setIfInBounds_toArray, List.set_cons_succ, List.set_cons_zero]
  refine wpAnyH_take (i := 5) (oi := Oper.mk (some 27) _ _ _ _ _) (v := .pointer (some ⟨g, off + 2, none⟩)) rfl (by kernel_rfl) (by kernel_rfl) (by kernel_rfl) (fun _ _ _ h => h) (Or.inl ⟨by rfl, ?_⟩) (by assumption) ?_
  · intro wX hSw
    (try dsimp only at hSw)
    go_simp
  simp only [Act.put, List.setIfInBounds_toArray, List.set_cons_succ, List.set_cons_zero]
  refine wpAnyH_take (i := 6) (oi := Oper.mk (some 28) _ _ _ _ _) (v := .string (mkB b)) rfl (by kernel_rfl) (by kernel_rfl) (by kernel_rfl) (fun _ _ _ h => h) (Or.inl ⟨by rfl, ?_⟩) (by assumption) ?_
  · intro wX hSw
    (try dsimp only at hSw)
    go_simp
  simp only [Act.put, List.setIfInBounds_toArray, List.set_cons_succ, List.set_cons_zero]
  refine wpAnyH_ready (rs := [3]) (by kernel_rfl) (by simp) ?_
  refine AllReadyH.cons (o := Oper.mk (some 25) _ _ _ _ _) rfl (fun K hK => ?_) AllReadyH.nil
  go_simp
  refine (C0.out _ b0).mono ?_
  rintro e v1 ⟨rfl, b1, q0, q1⟩
  refine hK.out _ _ ?_ (fun hHeld => ?_)
  · (try dsimp only)
    go_keep
  clear hK K
  refine wpAnyH_ready (rs := [7]) (by kernel_rfl) (by simp) ?_
  refine AllReadyH.cons (o := Oper.mk (some 29) _ _ _ _ _) rfl (fun K hK => ?_) AllReadyH.nil
  go_simp
  refine (C1.out _ b1).mono ?_
  rintro e v2 ⟨rfl, b2, q2, q3⟩
  have HB1 := hide (HB.out.trans (b2.out.mono HB.out.size))
  have BR1 := Blk.on BR b2.out
  obtain ⟨f0, f1⟩ : v2.frozen? ⟨w.heap.size, 0, none⟩ = false ∧ v2.frozen? ⟨w.heap.size, 1, none⟩ = false := ⟨BR1.out.free 0, BR1.out.free 1⟩
  obtain ⟨c0, c1⟩ := BR1.out.two
  refine hK.out _ _ ?_ (fun hHeld => ?_)
  · (try dsimp only)
    go_keep
  clear hK K
  refine wpAnyH_take (i := 8) (oi := Oper.mk (some 30) _ _ _ _ _) (v := .agg #[.int .u8 (c.toNat : Int), .int .i64 (k : Int)]) rfl (by kernel_rfl) (by kernel_rfl) (by kernel_rfl) (fun _ _ _ h => h) (Or.inl ⟨by rfl, ?_⟩) (by assumption) ?_
  · intro wX hSw
    (try dsimp only at hSw)
    go_simp
  simp only [Act.put, List.setIfInBounds_toArray, List.set_cons_succ, List.set_cons_zero]
  refine wpAnyH_ready (rs := [9]) (by kernel_rfl) (by simp) ?_
  refine AllReadyH.cons (o := Oper.mk none _ _ _ _ _) rfl (fun K hK => ?_) AllReadyH.nil
  go_simp
  refine hK.out _ _ ?_ (fun hHeld => ?_)
  · (try dsimp only)
    go_keep
  clear hK K
  refine wpAnyH_done (by kernel_rfl) ?_ _
  go_wp2
  refine bodyPost_ret (results_expr rfl _ _ _ _ _ rfl (BR1.out.put2 _ _)) rfl ?_
  exact Ans.ret rfl (below_put2 HB1.out (Nat.le_refl _) _ _) rfl

set_option maxHeartbeats 1000000 in
theorem exp_3b (g off cap : Nat) (a b : Tok) (c : UInt8) (hla : a.length ≤ 1024) (hb : Tk b) (hlb : b.length ≤ 1024) (hx : operT a = some c) (hy : divT b = none) (w : World) (hv : TokV w g off cap [a, [37], b] (.slice (some ⟨g, off, none⟩) 3 cap)) (he : Evs w) :
    Calls Tryz.prog 279 #[.slice (some ⟨g, off, none⟩) 3 cap] w (Ans (none : Option (UInt8 × Nat)) IsExpr w) := by
  have BR := hide (Blk.newAt w w.heap.size rfl #[.int .u8 0, .int .i64 0] 226)
  have HB : Hid (Below w.heap.size w (w.alloc (.cells #[.int .u8 0, .int .i64 0] 226))) := (Below.refl w.heap.size w).alloc (Nat.le_refl _) _
  have HE := hide (he.below HB.out)
  have HT := hide (hv.below HB.out)
  have hcap : 3 ≤ cap := hv.2.1
  have hcm : cap ≤ 9223372036854775807 := hv.2.2.1
  have r0 := HT.out.cell 0 _ rfl
  have r1 := HT.out.cell 1 _ rfl
  have r2 := HT.out.cell 2 _ rfl
  rw [Nat.add_zero] at r0
  have HLT := hide (HT.out.2.2.2.1)
  have hgn : ¬ g = w.heap.size := by have := hv.2.2.2.1; omega
  have hgm : ¬ w.heap.size = g := by have := hv.2.2.2.1; omega
  rw [show mkB [37] = ⟨#[37]⟩ from rfl] at r1
  clear hv he
  have HC : Hid (∀ w', Below (w.alloc (.cells #[.int .u8 0, .int .i64 0] 226)).heap.size (w.alloc (.cells #[.int .u8 0, .int .i64 0] 226)) w' → w'.cell? ⟨g, off, none⟩ = some (.string (mkB a)) ∧ w'.cell? ⟨g, off + 2, none⟩ = some (.string (mkB b))) := fun w' hb => ⟨(hb.cell (p := ⟨g, off, none⟩) HLT.out).trans r0, (hb.cell (p := ⟨g, off + 2, none⟩) HLT.out).trans r2⟩
  have b0 : Hid (Below (w.alloc (.cells #[.int .u8 0, .int .i64 0] 226)).heap.size (w.alloc (.cells #[.int .u8 0, .int .i64 0] 226)) (w.alloc (.cells #[.int .u8 0, .int .i64 0] 226)).drew) := bdrewD (w.alloc (.cells #[.int .u8 0, .int .i64 0] 226))
  have C0 : Hid (∀ X, Hid (Below (w.alloc (.cells #[.int .u8 0, .int .i64 0] 226)).heap.size (w.alloc (.cells #[.int .u8 0, .int .i64 0] 226)) X) → Calls Tryz.prog 298 #[.string (mkB a)] X fun e w' => e = .returned (.int .u8 (c.toNat : Int)) ∧ Hid (Below (w.alloc (.cells #[.int .u8 0, .int .i64 0] 226)).heap.size (w.alloc (.cells #[.int .u8 0, .int .i64 0] 226)) w') ∧ w'.cell? ⟨g, off, none⟩ = some (.string (mkB a)) ∧ w'.cell? ⟨g, off + 2, none⟩ = some (.string (mkB b))) := by
    intro X bX
    refine (readOperand_is a X hx hla).mono ?_
    rintro e w' ⟨hb, v, rfl, rfl⟩
    have bb := bX.out.trans (hb.mono bX.out.size)
    exact ⟨rfl, bb, HC.out _ bb⟩
  have C1 : Hid (∀ X, Hid (Below (w.alloc (.cells #[.int .u8 0, .int .i64 0] 226)).heap.size (w.alloc (.cells #[.int .u8 0, .int .i64 0] 226)) X) → Calls Tryz.prog 299 #[.string (mkB b)] X fun e w' => e = .panicked PC ∧ Hid (Below (w.alloc (.cells #[.int .u8 0, .int .i64 0] 226)).heap.size (w.alloc (.cells #[.int .u8 0, .int .i64 0] 226)) w')) := by
    intro X bX
    refine (readDivisor_is b X hy hb hlb (HE.out.below bX.out)).mono ?_
    rintro e w' ⟨hb, rfl⟩
    exact ⟨rfl, bX.out.trans (hb.mono bX.out.size)⟩
  clear hla hb hlb HC HLT HE hx hy hgn hgm
  go_enter Tryz.func279, Tryz.ntmps279
  go_wp2_with fail
  refine wp_region_held_drew (S := (fun w' => w'.cell? ⟨g, off, none⟩ = some (.string (mkB a)) ∧ w'.cell? ⟨g, off + 2, none⟩ = some (.string (mkB b)))) (by kernel_rfl) ?_ (fun hHeld => ?_)
  · (try dsimp only)
    go_keep
  refine wpAnyH_take (i := 0) (oi := Oper.mk (some 22) _ _ _ _ _) (v := .slice (some ⟨g, off, none⟩) 3 cap) rfl (by kernel_rfl) (by kernel_rfl) (by kernel_rfl) (fun _ _ _ h => h) (Or.inl ⟨by rfl, ?_⟩) (by assumption) ?_
  · intro wX hSw
    (try dsimp only at hSw)
    go_simp
  simp only [Act.put, List.setIfInBounds_toArray, List.set_cons_succ, List.set_cons_zero]
  refine wpAnyH_take (i := 1) (oi := Oper.mk (some 23) _ _ _ _ _) (v := .pointer (some ⟨g, off, none⟩)) rfl (by kernel_rfl) (by kernel_rfl) (by kernel_rfl) (fun _ _ _ h => h) (Or.inl ⟨by rfl, ?_⟩) (by assumption) ?_
  · intro wX hSw
    (try dsimp only at hSw)
    go_simp
  simp only [Act.put, List.setIfInBounds_toArray, List.set_cons_succ, List.set_cons_zero]
  refine wpAnyH_take (i := 2) (oi := Oper.mk (some 24) _ _ _ _ _) (v := .string (mkB a)) rfl (by kernel_rfl) (by kernel_rfl) (by kernel_rfl) (fun _ _ _ h => h) (Or.inl ⟨by rfl, ?_⟩) (by assumption) ?_
  · intro wX hSw
    (try dsimp only at hSw)
    go_simp
  simp only [Act.put, List.setIfInBounds_toArray, List.set_cons_succ, List.set_cons_zero]
  refine wpAnyH_take (i := 4) (oi := Oper.mk (some 26) _ _ _ _ _) (v := .slice (some ⟨g, off, none⟩) 3 cap) rfl (by kernel_rfl) (by kernel_rfl) (by kernel_rfl) (fun _ _ _ h => h) (Or.inl ⟨by rfl, ?_⟩) (by assumption) ?_
  · intro wX hSw
    (try dsimp only at hSw)
    go_simp
  simp only [Act.put, List.setIfInBounds_toArray, List.set_cons_succ, List.set_cons_zero]
  refine wpAnyH_take (i := 5) (oi := Oper.mk (some 27) _ _ _ _ _) (v := .pointer (some ⟨g, off + 2, none⟩)) rfl (by kernel_rfl) (by kernel_rfl) (by kernel_rfl) (fun _ _ _ h => h) (Or.inl ⟨by rfl, ?_⟩) (by assumption) ?_
  · intro wX hSw
    (try dsimp only at hSw)
    go_simp
  simp only [Act.put, List.setIfInBounds_toArray, List.set_cons_succ, List.set_cons_zero]
  refine wpAnyH_take (i := 6) (oi := Oper.mk (some 28) _ _ _ _ _) (v := .string (mkB b)) rfl (by kernel_rfl) (by kernel_rfl) (by kernel_rfl) (fun _ _ _ h => h) (Or.inl ⟨by rfl, ?_⟩) (by assumption) ?_
  · intro wX hSw
    (try dsimp only at hSw)
    go_simp
  simp only [Act.put, List.setIfInBounds_toArray, List.set_cons_succ, List.set_cons_zero]
  refine wpAnyH_ready (rs := [3]) (by kernel_rfl) (by simp) ?_
  refine AllReadyH.cons (o := Oper.mk (some 25) _ _ _ _ _) rfl (fun K hK => ?_) AllReadyH.nil
  go_simp
  refine (C0.out _ b0).mono ?_
  rintro e v1 ⟨rfl, b1, q0, q1⟩
  refine hK.out _ _ ?_ (fun hHeld => ?_)
  · (try dsimp only)
    go_keep
  clear hK K
  refine wpAnyH_ready (rs := [7]) (by kernel_rfl) (by simp) ?_
  refine AllReadyH.cons (o := Oper.mk (some 29) _ _ _ _ _) rfl (fun K hK => ?_) AllReadyH.nil
  go_simp
  refine (C1.out _ b1).mono ?_
  rintro e v2 ⟨rfl, b2⟩
  exact ⟨rfl, Ans.panic rfl (HB.out.trans (b2.out.mono HB.out.size))⟩

set_option maxHeartbeats 1000000 in
theorem exp_3a (g off cap : Nat) (a b : Tok) (hla : a.length ≤ 1024) (hx : operT a = none) (w : World) (hv : TokV w g off cap [a, [37], b] (.slice (some ⟨g, off, none⟩) 3 cap)) (he : Evs w) :
    Calls Tryz.prog 279 #[.slice (some ⟨g, off, none⟩) 3 cap] w (Ans (none : Option (UInt8 × Nat)) IsExpr w) := by
  have BR := hide (Blk.newAt w w.heap.size rfl #[.int .u8 0, .int .i64 0] 226)
  have HB : Hid (Below w.heap.size w (w.alloc (.cells #[.int .u8 0, .int .i64 0] 226))) := (Below.refl w.heap.size w).alloc (Nat.le_refl _) _
  have HE := hide (he.below HB.out)
  have HT := hide (hv.below HB.out)
  have hcap : 3 ≤ cap := hv.2.1
  have hcm : cap ≤ 9223372036854775807 := hv.2.2.1
  have r0 := HT.out.cell 0 _ rfl
  have r1 := HT.out.cell 1 _ rfl
  have r2 := HT.out.cell 2 _ rfl
  rw [Nat.add_zero] at r0
  have HLT := hide (HT.out.2.2.2.1)
  have hgn : ¬ g = w.heap.size := by have := hv.2.2.2.1; omega
  have hgm : ¬ w.heap.size = g := by have := hv.2.2.2.1; omega
  rw [show mkB [37] = ⟨#[37]⟩ from rfl] at r1
  clear hv he
  have HC : Hid (∀ w', Below (w.alloc (.cells #[.int .u8 0, .int .i64 0] 226)).heap.size (w.alloc (.cells #[.int .u8 0, .int .i64 0] 226)) w' → w'.cell? ⟨g, off, none⟩ = some (.string (mkB a)) ∧ w'.cell? ⟨g, off + 2, none⟩ = some (.string (mkB b))) := fun w' hb => ⟨(hb.cell (p := ⟨g, off, none⟩) HLT.out).trans r0, (hb.cell (p := ⟨g, off + 2, none⟩) HLT.out).trans r2⟩
  have b0 : Hid (Below (w.alloc (.cells #[.int .u8 0, .int .i64 0] 226)).heap.size (w.alloc (.cells #[.int .u8 0, .int .i64 0] 226)) (w.alloc (.cells #[.int .u8 0, .int .i64 0] 226)).drew) := bdrewD (w.alloc (.cells #[.int .u8 0, .int .i64 0] 226))
  have C0 : Hid (∀ X, Hid (Below (w.alloc (.cells #[.int .u8 0, .int .i64 0] 226)).heap.size (w.alloc (.cells #[.int .u8 0, .int .i64 0] 226)) X) → Calls Tryz.prog 298 #[.string (mkB a)] X fun e w' => e = .panicked PC ∧ Hid (Below (w.alloc (.cells #[.int .u8 0, .int .i64 0] 226)).heap.size (w.alloc (.cells #[.int .u8 0, .int .i64 0] 226)) w')) := by
    intro X bX
    refine (readOperand_is a X hx hla).mono ?_
    rintro e w' ⟨hb, rfl⟩
    exact ⟨rfl, bX.out.trans (hb.mono bX.out.size)⟩
  clear hla HC HLT HE hx hgn hgm
  go_enter Tryz.func279, Tryz.ntmps279
  go_wp2_with fail
  refine wp_region_held_drew (S := (fun w' => w'.cell? ⟨g, off, none⟩ = some (.string (mkB a)) ∧ w'.cell? ⟨g, off + 2, none⟩ = some (.string (mkB b)))) (by kernel_rfl) ?_ (fun hHeld => ?_)
  · (try dsimp only)
    go_keep
  refine wpAnyH_take (i := 0) (oi := Oper.mk (some 22) _ _ _ _ _) (v := .slice (some ⟨g, off, none⟩) 3 cap) rfl (by kernel_rfl) (by kernel_rfl) (by kernel_rfl) (fun _ _ _ h => h) (Or.inl ⟨by rfl, ?_⟩) (by assumption) ?_
  · intro wX hSw
    (try dsimp only at hSw)
    go_simp
  simp only [Act.put, List.setIfInBounds_toArray, List.set_cons_succ, List.set_cons_zero]
  refine wpAnyH_take (i := 1) (oi := Oper.mk (some 23) _ _ _ _ _) (v := .pointer (some ⟨g, off, none⟩)) rfl (by kernel_rfl) (by kernel_rfl) (by kernel_rfl) (fun _ _ _ h => h) (Or.inl ⟨by rfl, ?_⟩) (by assumption) ?_
  · intro wX hSw
    (try dsimp only at hSw)
    go_simp
  simp only [Act.put, List.setIfInBounds_toArray, List.set_cons_succ, List.set_cons_zero]
  refine wpAnyH_take (i := 2) (oi := Oper.mk (some 24) _ _ _ _ _) (v := .string (mkB a)) rfl (by kernel_rfl) (by kernel_rfl) (by kernel_rfl) (fun _ _ _ h => h) (Or.inl ⟨by rfl, ?_⟩) (by assumption) ?_
  · intro wX hSw
    (try dsimp only at hSw)
    go_simp
  simp only [Act.put, List.setIfInBounds_toArray, List.set_cons_succ, List.set_cons_zero]
  refine wpAnyH_take (i := 4) (oi := Oper.mk (some 26) _ _ _ _ _) (v := .slice (some ⟨g, off, none⟩) 3 cap) rfl (by kernel_rfl) (by kernel_rfl) (by kernel_rfl) (fun _ _ _ h => h) (Or.inl ⟨by rfl, ?_⟩) (by assumption) ?_
  · intro wX hSw
    (try dsimp only at hSw)
    go_simp
  simp only [Act.put, List.setIfInBounds_toArray, List.set_cons_succ, List.set_cons_zero]
  refine wpAnyH_take (i := 5) (oi := Oper.mk (some 27) _ _ _ _ _) (v := .pointer (some ⟨g, off + 2, none⟩)) rfl (by kernel_rfl) (by kernel_rfl) (by kernel_rfl) (fun _ _ _ h => h) (Or.inl ⟨by rfl, ?_⟩) (by assumption) ?_
  · intro wX hSw
    (try dsimp only at hSw)
    go_simp
  simp only [Act.put, List.setIfInBounds_toArray, List.set_cons_succ, List.set_cons_zero]
  refine wpAnyH_take (i := 6) (oi := Oper.mk (some 28) _ _ _ _ _) (v := .string (mkB b)) rfl (by kernel_rfl) (by kernel_rfl) (by kernel_rfl) (fun _ _ _ h => h) (Or.inl ⟨by rfl, ?_⟩) (by assumption) ?_
  · intro wX hSw
    (try dsimp only at hSw)
    go_simp
  simp only [Act.put, List.setIfInBounds_toArray, List.set_cons_succ, List.set_cons_zero]
  refine wpAnyH_ready (rs := [3]) (by kernel_rfl) (by simp) ?_
  refine AllReadyH.cons (o := Oper.mk (some 25) _ _ _ _ _) rfl (fun K hK => ?_) AllReadyH.nil
  go_simp
  refine (C0.out _ b0).mono ?_
  rintro e v1 ⟨rfl, b1⟩
  exact ⟨rfl, Ans.panic rfl (HB.out.trans (b1.out.mono HB.out.size))⟩

set_option maxHeartbeats 1000000 in
theorem exp_3d (g off cap : Nat) (a d b : Tok) (hd : d ≠ [37]) (w : World) (hv : TokV w g off cap [a, d, b] (.slice (some ⟨g, off, none⟩) 3 cap)) (he : Evs w) :
    Calls Tryz.prog 279 #[.slice (some ⟨g, off, none⟩) 3 cap] w (Ans (none : Option (UInt8 × Nat)) IsExpr w) := by
  have BR := hide (Blk.newAt w w.heap.size rfl #[.int .u8 0, .int .i64 0] 226)
  have HB : Hid (Below w.heap.size w (w.alloc (.cells #[.int .u8 0, .int .i64 0] 226))) := (Below.refl w.heap.size w).alloc (Nat.le_refl _) _
  have HE := hide (he.below HB.out)
  have HT := hide (hv.below HB.out)
  have hcap : 3 ≤ cap := hv.2.1
  have hcm : cap ≤ 9223372036854775807 := hv.2.2.1
  have r0 := HT.out.cell 0 _ rfl
  have r1 := HT.out.cell 1 _ rfl
  have r2 := HT.out.cell 2 _ rfl
  rw [Nat.add_zero] at r0
  have hq := ne_lit hd
  clear hd HE HT r0 r2
  clear hv he
  go_enter Tryz.func279, Tryz.ntmps279
  go_wp2
  exact ⟨rfl, Ans.panic rfl HB.out⟩

theorem exp_x (a : Option Addr) (n cap : Nat) (w : World) (h1 : n ≠ 1) (h3 : n ≠ 3) : Calls Tryz.prog 279 #[.slice a n cap] w (Ans (none : Option (UInt8 × Nat)) IsExpr w) := by
  have HB : Hid (Below w.heap.size w (w.alloc (.cells #[.int .u8 0, .int .i64 0] 226))) := (Below.refl w.heap.size w).alloc (Nat.le_refl _) _
  have q1 : ((n : Int) == 1) = false := beq_eq_false_iff_ne.2 (by omega)
  have q3 : ((n : Int) == 3) = false := beq_eq_false_iff_ne.2 (by omega)
  clear h1 h3
  go_enter Tryz.func279, Tryz.ntmps279
  go_wp2
  exact ⟨rfl, Ans.panic rfl HB.out⟩

theorem exprT_3 (a b : Tok) : exprT [a, [37], b] = match operT a, divT b with | some c, some k => some (c, k) | _, _ => none := by
  simp only [exprT, divT, if_true]
  cases operT a <;> cases numT b <;> simp
  split <;> simp_all

theorem readExpr_any (g off cap : Nat) (ts : List Tok) (v : Value) (w : World) (hv : TokV w g off cap ts v) (ht : Tks ts) (he : Evs w) : Calls Tryz.prog 279 #[v] w (Ans (exprT ts) IsExpr w) := by
  obtain rfl : v = .slice (some ⟨g, off, none⟩) ts.length cap := hv.1
  match ts, hv, ht with
  | [], hv, _ => exact exp_x _ 0 cap w (by omega) (by omega)
  | [a], hv, ht =>
    obtain ⟨k1, k2⟩ := ht a (by simp)
    cases hn : operT a with
    | some n => rw [show exprT [a] = some (n, 0) by simp [exprT, hn]]; exact exp_1y g off cap a n k2 hn w hv he
    | none => rw [show exprT [a] = none by simp [exprT, hn]]; exact exp_1n g off cap a k2 hn w hv he
  | [_, _], hv, _ => exact exp_x _ 2 cap w (by omega) (by omega)
  | [a, d, b], hv, ht =>
    obtain ⟨k1, k2⟩ := ht a (by simp)
    obtain ⟨k3, k4⟩ := ht b (by simp)
    by_cases hd : d = [37]
    · subst hd
      rw [exprT_3]
      cases hn : operT a with
      | none => exact exp_3a g off cap a b k2 hn w hv he
      | some x =>
        cases hm : divT b with
        | none => exact exp_3b g off cap a b x k2 k3 k4 hn hm w hv he
        | some y => exact exp_3y g off cap a b x y k2 k3 k4 hn hm w hv he
    · rw [show exprT [a, d, b] = none by simp [exprT, hd]]; exact exp_3d g off cap a d b hd w hv he
  | _ :: _ :: _ :: _ :: r, hv, _ => exact exp_x _ _ cap w (by simp) (by simp)

end Go.Proofs.YtkbciljfjijclaaGreatDoor

namespace Go.Proofs.YtkbciljfjijclaaGreatDoor
open Go.RowKit

section
variable {P : Program} {n l : Nat} {ops : Array Oper} {Q : Exit → Act → World → Prop} {md : Region.Mode}

def noDefer (ops : Array Oper) : Bool := ops.all fun o => match o.op with
  | .defer _ => false
  | _ => true

theorem noDefer_at (h : noDefer ops = true) {i : Nat} {o : Oper} (ho : ops[i]? = some o) : ∀ c, o.op ≠ .defer c := by
  intro c hc
  obtain ⟨hlt, he⟩ := Array.getElem?_eq_some_iff.1 ho
  have := (Array.all_eq_true.1 h) i hlt
  rw [he, hc] at this
  cases this

theorem upon_in {o : Oper} {a : Act} {next : Act → World → Prop} {r : Result Next} (h : o.upon P a next Q r) : o.uponIn (Fence.wide.inRound l) n P a next Q r := by
  cases r with
  | ok x w =>
    cases x <;> first | exact h | exact h.elim | skip
    · exact ⟨fun hd => (by cases hd), callsIn_wide.2 h⟩
    · refine ⟨fun hd => (by cases hd), fun c cs _ => ?_⟩
      obtain ⟨v, w', h1, h2⟩ := h c cs
      exact ⟨v, w', h1, stepsIn_wide.2 h2⟩
  | halt x w => cases x <;> first | exact h | exact h.elim

theorem wpOp_in (hnd : noDefer ops = true) (hlo : ¬ LetsOut Q) {i : Nat} {K K' : Act → World → Prop} {a : Act} {w : World} (hK : ∀ a w, K a w → K' a w) (h : wpOp P ops Q i K a w) : wpOpIn (Fence.wide.inRound l) n P ops Q i K' a w := by
  unfold wpOp at h
  unfold wpOpIn
  cases ho : ops[i]? with
  | none => rw [ho] at h; exact hK _ _ h
  | some o =>
    rw [ho] at h
    dsimp only at h ⊢
    split
    · rename_i hw
      rw [if_pos hw] at h
      rcases h with h | h
      · unfold Oper.wpIn
        refine ⟨fun _ _ => trivial, ?_⟩
        rw [Oper.semAt_eq _ _ _ (noDefer_at hnd ho)]
        exact upon_in (Oper.wp_mono hK h)
      · exact absurd h.2 hlo
    · rename_i hw
      rw [if_neg hw] at h
      exact ⟨fun _ _ => trivial, hK _ _ h⟩

theorem wpAny_in (hnd : noDefer ops = true) (hlo : ¬ LetsOut Q) : ∀ (fuel : Nat) (listed : Array Bool) (a : Act) (w : World), wpAny P md ops Q fuel listed a w → wpAnyIn (Fence.wide.inRound l) n P md ops Q fuel listed a w
  | 0, _, _, _, h => h
  | fuel + 1, _, _, _, h => ⟨h.1, fun i hi => wpOp_in hnd hlo (fun _ _ hh => wpAny_in hnd hlo fuel _ _ _ hh) (h.2 i hi)⟩

theorem region_round {S : World → Prop} {id : Nat} {a : Act} {w : World} (hm : P.follows .mixedOrders = true) (hnd : noDefer ops = true) (hlo : ¬ LetsOut Q) (hS : S w.drew)
    (h : S w.drew → wpAnyH P .any ops Q S ops.size (Array.replicate ops.size false) a w.drew) : (Code.region id ops true).wpIn (Fence.wide.inRound l) n P Q a w :=
  wpIn_region_any hm (wpAny_in hnd hlo _ _ _ _ (wpAny_of_held _ _ _ _ (h hS)))
end

end Go.Proofs.YtkbciljfjijclaaGreatDoor

namespace Go.Proofs.YtkbciljfjijclaaGreatDoor
open Go.RowKit

structure KT (S : TypeId → Prop) (X Y : World) : Prop where
  size : X.heap.size ≤ Y.heap.size
  same : ∀ (k : Nat) (cs : Array Value) (ty : TypeId) (fz : Nat × Nat), X.heap[k]? = some (.cells cs ty fz) → S ty → Y.heap[k]? = some (.cells cs ty fz)

theorem KT.of_xt {S : TypeId → Prop} {B : Nat} {X Y : World} (h : Xt B X Y) : KT S X Y := ⟨h.below.size, fun _ _ _ _ hk _ => h.cells _ _ hk rfl⟩
theorem KT.of_below {S : TypeId → Prop} {X Y : World} (h : Below X.heap.size X Y) : KT S X Y := KT.of_xt (Xt.of_below h (Nat.le_refl _))
theorem KT.trans {S : TypeId → Prop} {X Y Z : World} (h : KT S X Y) (k : KT S Y Z) : KT S X Z := ⟨Nat.le_trans h.size k.size, fun i cs ty fz hi hs => k.same i cs ty fz (h.same i cs ty fz hi hs) hs⟩

theorem Boxed.kt {S : TypeId → Prop} {b : Nat} {t : TypeId} {v : Value} {X Y : World} (h : Go.Boxed X b t v) (hk : KT S X Y) (ht : S t) : Go.Boxed Y b t v := hk.same _ _ _ _ h ht

theorem ownsRow_kt {S : TypeId → Prop} {base : Nat} {e : TypeId} {size k : Nat} {v : Value} {xs : List Value} {X Y : World} (h : X.ownsRow base e size v k xs) (hk : KT S X Y) (he : S e) : Y.ownsRow base e size v k xs := by
  refine ⟨h.1, ?_⟩
  rcases h.2 with h2 | ⟨g, cap, cur, h3, h4, h5, h6⟩
  · exact .inl h2
  · exact .inr ⟨g, cap, cur, h3, h4, hk.same _ _ _ _ h5 he, h6⟩

def Lst {α : Type} (base : Nat) (e : TypeId) (size : Nat) (El : α → List Value → World → Prop) (xs : List α) (v : Value) (W : World) : Prop :=
  ∃ css : List (List Value), css.length = xs.length ∧ W.ownsRow base e size v xs.length css.flatten ∧ ∀ (i : Nat) (x : α) (c : List Value), xs[i]? = some x → css[i]? = some c → c.length = size ∧ El x c W

theorem Lst.kt {α : Type} {S : TypeId → Prop} {base : Nat} {e : TypeId} {size : Nat} {El : α → List Value → World → Prop} {xs : List α} {v : Value} {X Y : World} (h : Lst base e size El xs v X) (hk : KT S X Y) (he : S e)
    (hE : ∀ x c, El x c X → El x c Y) : Lst base e size El xs v Y := by
  obtain ⟨css, h1, h2, h3⟩ := h
  exact ⟨css, h1, ownsRow_kt h2 hk he, fun i x c hx hc => ⟨(h3 i x c hx hc).1, hE _ _ (h3 i x c hx hc).2⟩⟩

theorem Lst.slice {α : Type} {base : Nat} {e : TypeId} {size : Nat} {El : α → List Value → World → Prop} {xs : List α} {v : Value} {X : World} (h : Lst base e size El xs v X) : ∃ a n c, v = .slice a n c := by
  obtain ⟨css, _, h2, _⟩ := h
  rcases h2.2 with ⟨h3, _⟩ | ⟨g, cap, cur, h3, _⟩
  · exact ⟨_, _, _, h3⟩
  · exact ⟨_, _, _, h3⟩

theorem Lst.nil {α : Type} (base : Nat) (e : TypeId) (size : Nat) (El : α → List Value → World → Prop) (W : World) : Lst base e size El [] (.slice none 0 0) W :=
  ⟨[], rfl, World.ownsRow_nil _ _ _ _, fun i x c hx _ => by simp at hx⟩

theorem Lst.grown {α : Type} {S : TypeId → Prop} {base B : Nat} {t e : TypeId} {size : Nat} {El : α → List Value → World → Prop} {xs : List α} {x : α} {v v' : Value} {c : List Value} {W w1 : World} {tmp : Obj}
    (hv : Go.Boxed W B t v) (hte : t ≠ e) (hb : base ≤ W.heap.size) (hB : base ≤ B) (hc : c.length = size) (hS : ∀ ty, S ty ↔ ty ≠ e ∧ ty ≠ t)
    (hE : ∀ X Y, KT S X Y → ∀ x c, El x c X → El x c Y) (hx : El x c W)
    (css : List (List Value)) (hcs : css.length = xs.length) (hrow : W.ownsRow base e size v xs.length css.flatten) (hels : ∀ (i : Nat) (x : α) (c : List Value), xs[i]? = some x → css[i]? = some c → c.length = size ∧ El x c W)
    (hown' : w1.ownsRow base e size v' (xs.length + 1) (css.flatten ++ c)) (hgrow : (W.alloc tmp).grownBy w1 v.ownBlock) :
    Go.Boxed w1 B t v ∧ Go.Boxed (w1.setCell ⟨B, 0, none⟩ v') B t v' ∧ Lst base e size El (xs ++ [x]) v' (w1.setCell ⟨B, 0, none⟩ v') ∧ KeepsOthers W (w1.setCell ⟨B, 0, none⟩ v') ∧ Below base W (w1.setCell ⟨B, 0, none⟩ v') ∧ KT S W (w1.setCell ⟨B, 0, none⟩ v') := by
  obtain ⟨h1, h2, h3, h4, h5⟩ := hv.appended hte hrow hb hB hown' hgrow
  have hk : KT S W (w1.setCell ⟨B, 0, none⟩ v') := by
    refine ⟨h4.size, fun k cs ty fz hkk hs => ?_⟩
    obtain ⟨n1, n2⟩ := (hS ty).1 hs
    have hkB : k ≠ B := by
      rintro rfl
      rw [show W.heap[k]? = _ from hv] at hkk
      cases hkk; exact n2 rfl
    have hlt : k < W.heap.size := (Array.getElem?_eq_some_iff.1 hkk).1
    rw [Below.heap_setCell _ _ _ _ hkB]
    refine (hgrow.block k (by simp; omega) (fun e' => ?_)).trans ((Below.heap_alloc W tmp k hlt).trans hkk)
    rcases hrow.2 with ⟨rfl, _⟩ | ⟨g, cap, cur, rfl, _, hgb, _⟩
    · simp [Value.ownBlock] at e'
    · simp only [Value.ownBlock, Option.some.injEq] at e'
      subst e'
      rw [hgb] at hkk
      cases hkk; exact n1 rfl
  refine ⟨h1, h2, ⟨css ++ [c], by simp [hcs], by simpa using h3, fun i y d hy hd => ?_⟩, h4, h5, hk⟩
  rcases Nat.lt_trichotomy i xs.length with q | q | q
  · rw [List.getElem?_append_left q] at hy
    rw [List.getElem?_append_left (by omega)] at hd
    obtain ⟨r1, r2⟩ := hels i y d hy hd
    exact ⟨r1, hE _ _ hk _ _ r2⟩
  · subst q
    rw [List.getElem?_append_right (Nat.le_refl _), Nat.sub_self] at hy
    rw [← hcs, List.getElem?_append_right (Nat.le_refl _), Nat.sub_self] at hd
    simp only [List.getElem?_cons_zero, Option.some.injEq] at hy hd
    subst hy; subst hd
    exact ⟨hc, hE _ _ hk _ _ hx⟩
  · rw [List.getElem?_eq_none (by simp; omega)] at hy; cases hy

def ElRange (x : Nat × Nat) (c : List Value) (_ : World) : Prop := c = [.int .i64 (x.1 : Int), .int .i64 (x.2 : Int)]
def ElRel (base : Nat) (x : RelT) (c : List Value) (W : World) : Prop := ∃ v, c = [.int .u8 (x.op.toNat : Int), .int .i64 (x.div : Int), .bool x.neq, v] ∧ Lst base 303 2 ElRange x.rs v W
def ElAll (base : Nat) (x : List RelT) (c : List Value) (W : World) : Prop := ∃ v, c = [v] ∧ Lst base 229 4 (ElRel base) x v W
def ElRule (base : Nat) (x : Nat × List (List RelT)) (c : List Value) (W : World) : Prop := ∃ v, c = [.int .i64 (x.1 : Int), v] ∧ Lst base 172 1 (ElAll base) x.2 v W
def ElEntry (x : (Nat × Nat) × Nat) (c : List Value) (_ : World) : Prop := c = [.int .i64 (x.1.1 : Int), .int .i64 (x.1.2 : Int), .int .i64 (x.2 : Int)]

theorem ElRange.kt {S : TypeId → Prop} (X Y : World) (_ : KT S X Y) (x : Nat × Nat) (c : List Value) (h : ElRange x c X) : ElRange x c Y := h
theorem ElRel.kt {S : TypeId → Prop} {base : Nat} (h1 : S 303) (X Y : World) (hk : KT S X Y) (x : RelT) (c : List Value) (h : ElRel base x c X) : ElRel base x c Y := by
  obtain ⟨v, h2, h3⟩ := h
  exact ⟨v, h2, h3.kt hk h1 (fun _ _ h => h)⟩
theorem ElAll.kt {S : TypeId → Prop} {base : Nat} (h1 : S 303) (h2 : S 229) (X Y : World) (hk : KT S X Y) (x : List RelT) (c : List Value) (h : ElAll base x c X) : ElAll base x c Y := by
  obtain ⟨v, h3, h4⟩ := h
  exact ⟨v, h3, h4.kt hk h2 (ElRel.kt h1 X Y hk)⟩
theorem ElRule.kt {S : TypeId → Prop} {base : Nat} (h1 : S 303) (h2 : S 229) (h3 : S 172) (X Y : World) (hk : KT S X Y) (x : Nat × List (List RelT)) (c : List Value) (h : ElRule base x c X) : ElRule base x c Y := by
  obtain ⟨v, h4, h5⟩ := h
  exact ⟨v, h4, h5.kt hk h3 (ElAll.kt h1 h2 X Y hk)⟩

theorem info_bounds : (Tryz.prog.info? 303).map (fun i => (i.zero, i.size, i.bytes)) = some (some (.agg #[.int .i64 0, .int .i64 0]), 2, 16) := by kernel_rfl
theorem info_rel : (Tryz.prog.info? 229).map (fun i => (i.zero, i.size, i.bytes)) = some (some (.agg #[.int .u8 0, .int .i64 0, .bool false, .slice none 0 0]), 4, 48) := by kernel_rfl
theorem info_all : (Tryz.prog.info? 172).map (fun i => (i.zero, i.size, i.bytes)) = some (some (.slice none 0 0), 1, 24) := by kernel_rfl
theorem info_rule : (Tryz.prog.info? 120).map (fun i => (i.zero, i.size, i.bytes)) = some (some (.agg #[.int .i64 0, .slice none 0 0]), 2, 32) := by kernel_rfl
theorem info_entry : (Tryz.prog.info? 135).map (fun i => (i.zero, i.size, i.bytes)) = some (some (.agg #[.int .i64 0, .int .i64 0, .int .i64 0]), 3, 24) := by kernel_rfl

theorem splitT_ne (sep : Tok) (ts : List Tok) : splitT sep ts ≠ [] := by
  cases ts with
  | nil => simp [splitT]
  | cons t r =>
    simp only [splitT]
    split
    · simp
    · split <;> simp

theorem cutsAt_split (sep : Tok) (ts : List Tok) : (cutsAt sep 0 0 ts).map (fun x => (ts.take x.2).drop x.1) = splitT sep ts := by
  have key : ∀ (r pre cur : List Tok) (f : Nat), f = pre.length → (cutsAt sep f (f + cur.length) r).map (fun x => ((pre ++ cur ++ r).take x.2).drop x.1) = (match splitT sep r with | [] => [cur] | q :: qs => (cur ++ q) :: qs) := by
    intro r
    induction r with
    | nil =>
      intro pre cur f hf
      subst hf
      simp [cutsAt, splitT]
      rw [← List.length_append, List.take_length, List.drop_left]
    | cons t r ih =>
      intro pre cur f hf
      subst hf
      by_cases h : t = sep
      · have h1 := ih (pre ++ cur ++ [t]) [] (pre.length + cur.length + 1) (by simp; omega)
        simp only [List.length_nil, Nat.add_zero, List.append_nil, List.nil_append] at h1
        simp only [cutsAt, if_pos h, List.map_cons, splitT]
        have e : pre ++ cur ++ t :: r = pre ++ cur ++ [t] ++ r := by simp
        rw [e, h1]
        have e2 : ((pre ++ cur ++ [t] ++ r).take (pre.length + cur.length)).drop pre.length = cur := by
          rw [List.append_assoc, List.append_assoc, ← List.append_assoc pre cur, List.take_left' (by simp), List.drop_left]
        rw [e2]
        cases hs : splitT sep r with
        | nil => exact absurd hs (splitT_ne sep r)
        | cons q qs => simp
      · have h1 := ih pre (cur ++ [t]) pre.length rfl
        simp only [cutsAt, if_neg h, splitT]
        have e : pre ++ cur ++ t :: r = pre ++ (cur ++ [t]) ++ r := by simp
        rw [e]
        rw [show pre.length + (cur ++ [t]).length = pre.length + cur.length + 1 from by simp; omega] at h1
        rw [h1]
        cases splitT sep r with
        | nil => simp
        | cons q qs => simp
  have h := key ts [] [] 0 rfl
  simp only [List.length_nil, Nat.add_zero, List.append_nil, List.nil_append] at h
  rw [h]
  cases hs : splitT sep ts with
  | nil => exact absurd hs (splitT_ne sep ts)
  | cons q qs => simp

theorem cutsAt_in (sep : Tok) : ∀ (r : List Tok) (f p : Nat), f ≤ p → ∀ x, x ∈ cutsAt sep f p r → x.1 ≤ x.2 ∧ x.2 ≤ p + r.length
  | [], f, p, h, x, hx => by
    simp only [cutsAt, List.mem_singleton] at hx
    subst hx; exact ⟨h, by simp⟩
  | t :: r, f, p, h, x, hx => by
    simp only [cutsAt] at hx
    split at hx
    · rcases List.mem_cons.1 hx with rfl | hx
      · exact ⟨h, by simp⟩
      · have := cutsAt_in sep r (p + 1) (p + 1) (Nat.le_refl _) x hx
        exact ⟨this.1, by simp at this ⊢; omega⟩
    · have := cutsAt_in sep r f (p + 1) (by omega) x hx
      exact ⟨this.1, by simp at this ⊢; omega⟩

theorem cutsAt_len (sep : Tok) : ∀ (r : List Tok) (f p : Nat), (cutsAt sep f p r).length ≤ r.length + 1
  | [], f, p => by simp [cutsAt]
  | t :: r, f, p => by
    simp only [cutsAt]
    split
    · have := cutsAt_len sep r (p + 1) (p + 1); simp; omega
    · have := cutsAt_len sep r f (p + 1); simp; omega

theorem mapM_len {α β : Type} {f : α → Option β} : ∀ {l : List α} {ys : List β}, l.mapM f = some ys → ys.length = l.length
  | [], ys, h => by simp at h; subst h; rfl
  | a :: l, ys, h => by
    rw [List.mapM_cons] at h
    cases ha : f a with
    | none => simp [ha] at h
    | some b =>
      cases hl : l.mapM f with
      | none => simp [ha, hl] at h
      | some bs =>
        simp [ha, hl] at h
        subst h
        simp [mapM_len hl]

theorem KeepsOthers.of_below {X Y : World} (h : Below X.heap.size X Y) : Go.KeepsOthers X Y := ⟨h.size, fun k _ hk _ => (h.block k (Array.getElem?_eq_some_iff.1 hk).1).trans hk⟩

theorem TokV.cut {W : World} {g off cap : Nat} {ts : List Tok} {v : Value} (h : TokV W g off cap ts v) (a b : Nat) (hab : a ≤ b) (hb : b ≤ ts.length) :
    TokV W g (cutA off cap a) (cap - a) ((ts.take b).drop a) (.slice (some ⟨g, cutA off cap a, none⟩) (b - a) (cap - a)) := by
  obtain ⟨h1, h2, h3, h4, h5⟩ := h
  have hl : ((ts.take b).drop a).length = b - a := by simp; omega
  refine ⟨by rw [hl], by rw [hl]; omega, by omega, h4, fun i t ht => ?_⟩
  have hi : i < b - a := by
    rcases Nat.lt_or_ge i (b - a) with q | q
    · exact q
    · rw [List.getElem?_eq_none (by rw [hl]; exact q)] at ht; cases ht
  rw [List.getElem?_drop, List.getElem?_take_of_lt (by omega)] at ht
  rw [show cutA off cap a = off + a from if_neg (by omega), Nat.add_assoc]
  exact h5 _ _ ht

theorem mapM_snoc {α β : Type} {f : α → Option β} {rows : List α} {k : Nat} {r : α} {ys : List β} {y : β} (hr : rows[k]? = some r) (hy : (rows.take k).mapM f = some ys) (hf : f r = some y) : (rows.take (k + 1)).mapM f = some (ys ++ [y]) := by
  rw [List.take_add_one, hr, Option.toList_some, List.mapM_append, hy]
  simp [hf]

theorem mapM_bad {α β : Type} {f : α → Option β} {rows : List α} {k : Nat} {r : α} (hr : rows[k]? = some r) (hf : f r = none) : rows.mapM f = none := by
  induction rows generalizing k with
  | nil => simp at hr
  | cons a l ih =>
    rw [List.mapM_cons]
    cases k with
    | zero =>
      simp only [List.getElem?_cons_zero, Option.some.injEq] at hr
      subst hr
      simp [hf]
    | succ k =>
      rw [ih (by simpa using hr)]
      cases f a <;> simp

theorem ownsRow_low {base base' : Nat} {e : TypeId} {size k : Nat} {v : Value} {xs : List Value} {X : World} (h : X.ownsRow base e size v k xs) (hb : base' ≤ base) : X.ownsRow base' e size v k xs := by
  refine ⟨h.1, ?_⟩
  rcases h.2 with h2 | ⟨g, cap, cur, h3, h4, h5⟩
  · exact .inl h2
  · exact .inr ⟨g, cap, cur, h3, by omega, h5⟩

theorem Lst.low {α : Type} {base base' : Nat} {e : TypeId} {size : Nat} {El El' : α → List Value → World → Prop} {xs : List α} {v : Value} {X : World} (h : Lst base e size El xs v X) (hb : base' ≤ base) (hE : ∀ x c, El x c X → El' x c X) : Lst base' e size El' xs v X := by
  obtain ⟨css, h1, h2, h3⟩ := h
  exact ⟨css, h1, ownsRow_low h2 hb, fun i x c hx hc => ⟨(h3 i x c hx hc).1, hE _ _ (h3 i x c hx hc).2⟩⟩

theorem ElRel.low {base base' : Nat} (hb : base' ≤ base) {X : World} (x : RelT) (c : List Value) (h : ElRel base x c X) : ElRel base' x c X := by
  obtain ⟨v, h2, h3⟩ := h
  exact ⟨v, h2, h3.low hb (fun _ _ h => h)⟩
theorem ElAll.low {base base' : Nat} (hb : base' ≤ base) {X : World} (x : List RelT) (c : List Value) (h : ElAll base x c X) : ElAll base' x c X := by
  obtain ⟨v, h2, h3⟩ := h
  exact ⟨v, h2, h3.low hb (ElRel.low hb)⟩
theorem ElRule.low {base base' : Nat} (hb : base' ≤ base) {X : World} (x : Nat × List (List RelT)) (c : List Value) (h : ElRule base x c X) : ElRule base' x c X := by
  obtain ⟨v, h2, h3⟩ := h
  exact ⟨v, h2, h3.low hb (ElAll.low hb)⟩

theorem Tks.cut {ts : List Tok} (h : Tks ts) (a b : Nat) : Tks ((ts.take b).drop a) := fun t ht => h t (List.mem_of_mem_take (List.mem_of_mem_drop ht))

end Go.Proofs.YtkbciljfjijclaaGreatDoor

namespace Go.Proofs.YtkbciljfjijclaaGreatDoor
open Go.RowKit

attribute [local go_sem] Oper.semAt_some

set_option maxRecDepth 100000 in
set_option maxHeartbeats 4000000 in
theorem readRanges_any (g off cap : Nat) (ts : List Tok) (v : Value) (w : World) (hv : TokV w g off cap ts v) (ht : Tks ts) (he : Evs w) (hl : ts.length ≤ 1024) :
    Calls Tryz.prog 280 #[v] w (Ans ((splitT [44] ts).mapM rangeT) (fun ys v' W' => Lst w.heap.size 303 2 ElRange ys v' W') w) := by
  obtain rfl : v = .slice (some ⟨g, off, none⟩) ts.length cap := hv.1
  have BT := hide (fun X => between_any (some ⟨g, off, none⟩) ts.length cap ⟨#[44]⟩ X)
  obtain ⟨i0, hi, hz0, hz1, hz2⟩ := info_parts info_bounds
  obtain ⟨xs, hxs⟩ : ∃ xs, xs = cutsAt [44] 0 0 ts := ⟨_, rfl⟩
  obtain ⟨rows, hrs⟩ : ∃ rows, rows = splitT [44] ts := ⟨_, rfl⟩
  have hrows : xs.map (fun x => (ts.take x.2).drop x.1) = rows := by rw [hxs, hrs]; exact cutsAt_split _ _
  have hin : ∀ x, x ∈ xs → x.1 ≤ x.2 ∧ x.2 ≤ ts.length := fun x hx => by
    rw [hxs] at hx
    have := cutsAt_in [44] ts 0 0 (Nat.le_refl _) x hx
    exact ⟨this.1, by simpa using this.2⟩
  have hxl : xs.length ≤ 1025 := by rw [hxs]; exact Nat.le_trans (cutsAt_len [44] ts 0 0) (by omega)
  rw [← hrs]
  have HXS := hide hxs
  have HRW := hide hrows
  clear hrs hxs hrows
  refine calls_pan Tryz.func280 rfl ?_
  simp only [Tryz.ntmps280, List.size_toArray, List.length_cons, List.length_nil, Nat.reduceAdd, Nat.reduceSub, Array.replicate_succ, Array.replicate_zero, List.push_toArray, List.append_toArray, List.nil_append, List.cons_append]
  refine WpAt.seq (WpAt.of_wp ?_)
  go_wp2
  refine WpAt.seq (WpAt.of_wp ?_)
  go_wp2
  refine WpAt.seq (WpAt.seq (WpAt.of_wp ?_))
  go_wp2_with fail
  refine (BT.out _).mono ?_
  rintro e w1 ⟨rfl, rfl⟩
  go_wp2
  have hB0 : Below w.heap.size w (((w.alloc (.cells #[.slice none 0 0] 227)).alloc (.cells #[.slice (some ⟨g, off, none⟩) ts.length cap] 112)).alloc (.cells #[.string ⟨#[44]⟩] 9)) := (((Below.refl _ w).alloc (Nat.le_refl _) _).alloc (by simp) _).alloc (by simp; omega) _
  have bO := ((Boxed.new w 227 (.slice none 0 0)).alloc (.cells #[.slice (some ⟨g, off, none⟩) ts.length cap] 112)).alloc (.cells #[.string ⟨#[44]⟩] 9)
  have bx1 := (Boxed.new (w.alloc (.cells #[.slice none 0 0] 227)) 112 (.slice (some ⟨g, off, none⟩) ts.length cap)).alloc (.cells #[.string ⟨#[44]⟩] 9)
  have bx2 := Boxed.new ((w.alloc (.cells #[.slice none 0 0] 227)).alloc (.cells #[.slice (some ⟨g, off, none⟩) ts.length cap] 112)) 9 (.string ⟨#[44]⟩)
  simp only [World.size_alloc] at bx1 bx2
  obtain ⟨W0, hW0⟩ : ∃ W0, W0 = ((w.alloc (.cells #[.slice none 0 0] 227)).alloc (.cells #[.slice (some ⟨g, off, none⟩) ts.length cap] 112)).alloc (.cells #[.string ⟨#[44]⟩] 9) := ⟨_, rfl⟩
  have hsz0 : W0.heap.size = w.heap.size + 3 := by rw [hW0]; simp
  rw [← hW0] at hB0 bO bx1 bx2 ⊢
  clear hW0
  have hseq := between1_pan (w.heap.size + 1) (w.heap.size + 1 + 1) g off cap ⟨#[44]⟩ ts _ W0 (by omega) (by omega) bx1.cell bx2.cell (hv.below hB0)
  rw [show bys ⟨#[44]⟩ = [44] from rfl, ← HXS.out] at hseq
  refine WpAt.block (WpAt.range Tryz.func280 (gf := 149) (lb := #[.pointer (some ⟨w.heap.size + 1, 0, none⟩), .pointer (some ⟨w.heap.size + 1 + 1, 0, none⟩)]) rfl (enters_of Tryz.func149 (by kernel_rfl) rfl)
    hseq (fun h k => h.trans k) (fun {X Y} h => fun k hk => h.below.block k ?klt) (fun _ => rfl)
    (fun k W => (∃ v ys, Boxed W w.heap.size 227 v ∧ (rows.take k).mapM rangeT = some ys ∧ Lst w.heap.size 303 2 ElRange ys v W) ∧ Boxed W (w.heap.size + 1) 112 (.slice (some ⟨g, off, none⟩) ts.length cap) ∧ Boxed W (w.heap.size + 1 + 1) 9 (.string ⟨#[44]⟩) ∧ Below w.heap.size w W) (fun W => rows.mapM rangeT = none ∧ Below w.heap.size w W)
    ?inv ?start (fun x => { tmps := #[.slice (some ⟨g, off, none⟩) ts.length cap, undef, .slice none 0 0, .pointer (some ⟨w.heap.size, 0, none⟩), .slice (some ⟨g, cutA off cap x.1, none⟩) (x.2 - x.1) (cap - x.1), .slice (some ⟨g, off, none⟩) ts.length cap, .func (.func 149) #[] #[.pointer (some ⟨w.heap.size + 1, 0, none⟩), .pointer (some ⟨w.heap.size + 1 + 1, 0, none⟩)], .slice (some ⟨g, cutA off cap x.1, none⟩) (x.2 - x.1) (cap - x.1), undef, undef, undef, undef, undef, undef], defers := [] }) ?assign ?body ?done ?pan) ?x1 ?x2
  case klt =>
    have := hv.2.2.2.1
    rw [hsz0]
    simp only [List.mem_cons, List.not_mem_nil, or_false] at hk
    omega
  case x1 => exact fun _ _ _ h => h
  case x2 => exact fun _ _ _ h => h
  case inv =>
    rintro k X Y ⟨⟨v, ys, hv, hm, hr⟩, hb1, hb2, hB⟩ hx
    exact ⟨⟨v, ys, boxed_xt hv hx, hm, hr.kt (S := fun _ => True) (KT.of_xt hx) trivial (ElRange.kt (S := fun _ => True) X Y (KT.of_xt hx))⟩, boxed_xt hb1 hx, boxed_xt hb2 hx, hB.trans (hx.below.mono (by omega))⟩
  case start => exact ⟨⟨_, [], bO, rfl, Lst.nil _ _ _ _ _⟩, bx1, bx2, hB0⟩
  case assign =>
    intro l x W K hK
    gi_wp2
    exact hK
  case body =>
    rintro l k x W hx ⟨⟨v, ys, hbv, hm, hlst⟩, hb1, hb2, hB⟩ hsz
    have hxm := hin x (List.mem_of_getElem? hx)
    have hrk : rows[k]? = some ((ts.take x.2).drop x.1) := by rw [← HRW.out, List.getElem?_map, hx]; rfl
    have TV := (hv.below hB).cut x.1 x.2 hxm.1 hxm.2
    have TK := ht.cut x.1 x.2
    have EV := he.below hB
    have TL : ((ts.take x.2).drop x.1).length ≤ 1024 := by simp; omega
    have hyl : ys.length = k := by
      have := mapM_len hm
      have hk : k < xs.length := by
        rcases Nat.lt_or_ge k xs.length with q | q
        · exact q
        · rw [List.getElem?_eq_none q] at hx; cases hx
      have h2 : rows.length = xs.length := by rw [← HRW.out]; simp
      rw [this, List.length_take]; omega
    have hk1 : k < 1025 := by
      rcases Nat.lt_or_ge k xs.length with q | q
      · omega
      · rw [List.getElem?_eq_none q] at hx; cases hx
    have hml : 1026 ≤ maxLen := by decide
    obtain ⟨R, hR⟩ : ∃ R, R = (ts.take x.2).drop x.1 := ⟨_, rfl⟩
    rw [← hR] at hrk TV TK TL
    obtain ⟨qa, hqa⟩ : ∃ qa, qa = cutA off cap x.1 := ⟨_, rfl⟩
    obtain ⟨qn, hqn⟩ : ∃ qn, qn = x.2 - x.1 := ⟨_, rfl⟩
    obtain ⟨qc, hqc⟩ : ∃ qc, qc = cap - x.1 := ⟨_, rfl⟩
    rw [← hqa, ← hqn, ← hqc] at TV
    simp only [← hqa, ← hqn, ← hqc]
    have HM := hide hm
    have HR := hide hrk
    have HYL := hide hyl
    have c0 := hbv.cell
    have b0 : Hid (Below W.heap.size W W.drew) := bdrewD W
    have HBW := hide hB
    clear hxm hR hqa hqn hqc hm hrk hyl
    cases hf : rangeT R with
    | none =>
      have C0 : Hid (∀ X, Hid (Below W.heap.size W X) → Calls Tryz.prog 300 #[.slice (some ⟨g, qa, none⟩) qn qc] X fun e w' => e = .panicked PC ∧ Hid (Below W.heap.size W w')) := by
        intro X bX
        have h := readRange_any g qa qc R _ X (TV.below bX.out) TK (EV.below bX.out)
        rw [hf] at h
        refine h.mono ?_
        rintro e w' ⟨hb, rfl⟩
        exact ⟨rfl, bX.out.trans (hb.mono bX.out.size)⟩
      have HF := hide hf
      clear hf TV TK EV TL hB
      gi_wp2
      refine region_round (S := fun _ => True) (by kernel_rfl) (by kernel_rfl) (fun ⟨_, _, h⟩ => h) trivial (fun _ => ?_)
      refine wpAnyH_take (i := 1) (oi := Oper.mk (some 9) _ _ _ _ _) (v := .slice (some ⟨g, qa, none⟩) qn qc) rfl (by kernel_rfl) (by kernel_rfl) (by kernel_rfl) (fun _ _ _ h => h) (Or.inl ⟨by rfl, ?_⟩) trivial ?_
      · intro wX _
        go_simp
      simp only [Act.put, List.setIfInBounds_toArray, List.set_cons_succ, List.set_cons_zero]
      refine wpAnyH_ready (rs := [0, 2]) (by kernel_rfl) (by simp) ?_
      refine AllReadyH.cons (o := Oper.mk (some 8) _ _ _ _ _) rfl (fun K hK => ?_) (AllReadyH.cons (o := Oper.mk (some 10) _ _ _ _ _) rfl (fun K hK => ?_) AllReadyH.nil)
      · go_simp
        refine hK.out _ _ trivial (fun _ => ?_)
        clear hK K
        refine wpAnyH_ready (rs := [2]) (by kernel_rfl) (by simp) ?_
        refine AllReadyH.cons (o := Oper.mk (some 10) _ _ _ _ _) rfl (fun K hK => ?_) AllReadyH.nil
        go_simp
        refine (C0.out _ b0).mono ?_
        rintro e v1 ⟨rfl, b1⟩
        exact ⟨rfl, rfl, (KeepsOthers.of_below b1.out).from _, mapM_bad HR.out HF.out, HBW.out.trans (b1.out.mono HBW.out.size)⟩
      · go_simp
        refine (C0.out _ b0).mono ?_
        rintro e v1 ⟨rfl, b1⟩
        exact ⟨rfl, rfl, (KeepsOthers.of_below b1.out).from _, mapM_bad HR.out HF.out, HBW.out.trans (b1.out.mono HBW.out.size)⟩
    | some y =>
      have C0 : Hid (∀ X, Hid (Below W.heap.size W X) → Calls Tryz.prog 300 #[.slice (some ⟨g, qa, none⟩) qn qc] X fun e w' => (e = .returned (.agg #[.int .i64 (y.1 : Int), .int .i64 (y.2 : Int)]) ∧ Hid (ElRange y [.int .i64 (y.1 : Int), .int .i64 (y.2 : Int)] w')) ∧ Hid (Below W.heap.size W w') ∧ w'.cell? ⟨w.heap.size, 0, none⟩ = some v) := by
        intro X bX
        have h := readRange_any g qa qc R _ X (TV.below bX.out) TK (EV.below bX.out)
        rw [hf] at h
        refine h.mono ?_
        rintro e w' ⟨hb, v', rfl, hv'⟩
        have bb := bX.out.trans (hb.mono bX.out.size)
        have hxs : w.heap.size ≤ X.heap.size := Nat.le_trans HBW.out.size bX.out.size
        have cc : w'.cell? ⟨w.heap.size, 0, none⟩ = some v := (boxed_xt hbv (Xt.of_below bb (Nat.le_refl _))).cell
        obtain rfl : v' = _ := hv'
        exact ⟨⟨rfl, rfl⟩, bb, cc⟩
      have HF := hide hf
      obtain ⟨css, hcs1, hcs2, hcs3⟩ := hlst
      have HCS := hide (And.intro hcs1 (And.intro hcs2 hcs3))
      clear hf TV TK EV TL hB hcs1 hcs2 hcs3
      gi_wp2
      refine region_round (S := fun _ => True) (by kernel_rfl) (by kernel_rfl) (fun ⟨_, _, h⟩ => h) trivial (fun _ => ?_)
      refine wpAnyH_take (i := 1) (oi := Oper.mk (some 9) _ _ _ _ _) (v := .slice (some ⟨g, qa, none⟩) qn qc) rfl (by kernel_rfl) (by kernel_rfl) (by kernel_rfl) (fun _ _ _ h => h) (Or.inl ⟨by rfl, ?_⟩) trivial ?_
      · intro wX _
        go_simp
      simp only [Act.put, List.setIfInBounds_toArray, List.set_cons_succ, List.set_cons_zero]
      refine wpAnyH_ready (rs := [0, 2]) (by kernel_rfl) (by simp) ?_
      refine AllReadyH.cons (o := Oper.mk (some 8) _ _ _ _ _) rfl (fun K hK => ?_) (AllReadyH.cons (o := Oper.mk (some 10) _ _ _ _ _) rfl (fun K hK => ?_) AllReadyH.nil)
      · go_simp
        refine hK.out _ _ trivial (fun _ => ?_)
        clear hK K
        refine wpAnyH_ready (rs := [2]) (by kernel_rfl) (by simp) ?_
        refine AllReadyH.cons (o := Oper.mk (some 10) _ _ _ _ _) rfl (fun K hK => ?_) AllReadyH.nil
        go_simp
        refine (C0.out _ b0).mono ?_
        rintro e v1 ⟨⟨rfl, HEL⟩, b1, cb1⟩
        refine hK.out _ _ trivial (fun _ => ?_)
        clear hK K
        have hxt : Xt W.heap.size W v1 := Xt.of_below b1.out (Nat.le_refl _)
        have hbv1 := boxed_xt hbv hxt
        have hrow1 := ownsRow_xt HCS.out.2.1 hxt
        have hsz1 : w.heap.size ≤ v1.heap.size := Nat.le_trans HBW.out.size b1.out.size
        have hyk := HYL.out
        have cb2 := (hbv1.alloc (.cells #[.int .i64 (y.1 : Int), .int .i64 (y.2 : Int)] 303)).cell
        refine wpAnyH_ready (rs := [3]) (by kernel_rfl) (by simp) ?_
        refine AllReadyH.cons (o := Oper.mk (some 11) _ _ _ _ _) rfl (fun K hK => ?_) AllReadyH.nil
        go_simp
        refine hK.out _ _ trivial (fun _ => ?_)
        clear hK K
        refine wpAnyH_ready (rs := [4]) (by kernel_rfl) (by simp) ?_
        refine AllReadyH.cons (o := Oper.mk (some 12) _ _ _ _ _) rfl (fun K hK => ?_) AllReadyH.nil
        refine step_append_lies _ (by rfl) _ _ 227 (by rfl) w.heap.size 303 i0 (.agg #[.int .i64 0, .int .i64 0]) 2 16 Tryz.underlying227 hi hz0 hz1 hz2 rfl (by decide) v ys.length css.flatten (by rfl) (hrow1.alloc _) ⟨v1.heap.size, 0, none⟩ 1 1 [.int .i64 (y.1 : Int), .int .i64 (y.2 : Int)] (by rfl) rfl (World.news_of_block (heap_alloc_new v1 _)) (by simp [Value.oneCell']) (by decide) (by omega) (by omega) (by simp; omega) _ rfl ?_
        intro g9 cap9 w9 hown9 hgrow9 _ _
        obtain ⟨g1, g2, g3, g4, g5, g6⟩ := Lst.grown (S := fun ty => ty ≠ 303 ∧ ty ≠ 227) (x := y) hbv1 (by decide) hsz1 (Nat.le_refl _) rfl (fun _ => Iff.rfl) (ElRange.kt) HEL.out css HCS.out.1 hrow1 (fun i x c hx hc => ⟨(HCS.out.2.2 i x c hx hc).1, ElRange.kt (S := fun _ => True) _ _ (KT.of_xt hxt) _ _ (HCS.out.2.2 i x c hx hc).2⟩) hown9 hgrow9
        have cc9 := g1.cell
        have ff9 := g1.frozen
        have GG := hide (And.intro g2 (And.intro g3 (And.intro g4 (And.intro g5 g6))))
        clear g1 g2 g3 g4 g5 g6 hown9 hgrow9 hbv1 hrow1 cb2
        refine hK.out _ _ trivial (fun _ => ?_)
        clear hK K
        refine wpAnyH_ready (rs := [5]) (by kernel_rfl) (by simp) ?_
        refine AllReadyH.cons (o := Oper.mk none _ _ _ _ _) rfl (fun K hK => ?_) AllReadyH.nil
        go_simp
        refine hK.out _ _ trivial (fun _ => ?_)
        clear hK K
        refine wpAnyH_done (by kernel_rfl) ?_ _
        obtain ⟨g2, g3, g4, g5, g6⟩ := GG.out
        rw [HYL.out] at g2 g3 g4 g5 g6
        have hb1' := Boxed.kt (boxed_xt hb1 hxt) g6 (by decide)
        have hb2' := Boxed.kt (boxed_xt hb2 hxt) g6 (by decide)
        have hB' := (HBW.out.trans (b1.out.mono HBW.out.size)).trans g5
        refine ⟨((KeepsOthers.of_below b1.out).trans g4).from _, ?_, ⟨_, _, g2, mapM_snoc HR.out HM.out HF.out, g3⟩, hb1', hb2', hB'⟩
        intro j hj
        simp only [List.mem_cons, List.not_mem_nil, or_false] at hj
        rcases hj with rfl | rfl | rfl
        · have hgl := hv.2.2.2.1
          exact (g5.block _ hgl).trans (b1.out.block _ (Nat.lt_of_lt_of_le hgl HBW.out.size))
        · exact (show _ = _ from hb1').trans (show _ = _ from hb1).symm
        · exact (show _ = _ from hb2').trans (show _ = _ from hb2).symm
      · go_simp
        refine (C0.out _ b0).mono ?_
        rintro e v1 ⟨⟨rfl, HEL⟩, b1, cb1⟩
        refine hK.out _ _ trivial (fun _ => ?_)
        clear hK K
        have hxt : Xt W.heap.size W v1 := Xt.of_below b1.out (Nat.le_refl _)
        have hbv1 := boxed_xt hbv hxt
        have hrow1 := ownsRow_xt HCS.out.2.1 hxt
        have hsz1 : w.heap.size ≤ v1.heap.size := Nat.le_trans HBW.out.size b1.out.size
        have hyk := HYL.out
        have cb2 := (hbv1.alloc (.cells #[.int .i64 (y.1 : Int), .int .i64 (y.2 : Int)] 303)).cell
        refine wpAnyH_ready (rs := [0, 3]) (by kernel_rfl) (by simp) ?_
        refine AllReadyH.cons (o := Oper.mk (some 8) _ _ _ _ _) rfl (fun K hK => ?_) (AllReadyH.cons (o := Oper.mk (some 11) _ _ _ _ _) rfl (fun K hK => ?_) AllReadyH.nil)
        · go_simp
          refine hK.out _ _ trivial (fun _ => ?_)
          clear hK K
          refine wpAnyH_ready (rs := [3]) (by kernel_rfl) (by simp) ?_
          refine AllReadyH.cons (o := Oper.mk (some 11) _ _ _ _ _) rfl (fun K hK => ?_) AllReadyH.nil
          go_simp
          refine hK.out _ _ trivial (fun _ => ?_)
          clear hK K
          refine wpAnyH_ready (rs := [4]) (by kernel_rfl) (by simp) ?_
          refine AllReadyH.cons (o := Oper.mk (some 12) _ _ _ _ _) rfl (fun K hK => ?_) AllReadyH.nil
          refine step_append_lies _ (by rfl) _ _ 227 (by rfl) w.heap.size 303 i0 (.agg #[.int .i64 0, .int .i64 0]) 2 16 Tryz.underlying227 hi hz0 hz1 hz2 rfl (by decide) v ys.length css.flatten (by rfl) (hrow1.alloc _) ⟨v1.heap.size, 0, none⟩ 1 1 [.int .i64 (y.1 : Int), .int .i64 (y.2 : Int)] (by rfl) rfl (World.news_of_block (heap_alloc_new v1 _)) (by simp [Value.oneCell']) (by decide) (by omega) (by omega) (by simp; omega) _ rfl ?_
          intro g9 cap9 w9 hown9 hgrow9 _ _
          obtain ⟨g1, g2, g3, g4, g5, g6⟩ := Lst.grown (S := fun ty => ty ≠ 303 ∧ ty ≠ 227) (x := y) hbv1 (by decide) hsz1 (Nat.le_refl _) rfl (fun _ => Iff.rfl) (ElRange.kt) HEL.out css HCS.out.1 hrow1 (fun i x c hx hc => ⟨(HCS.out.2.2 i x c hx hc).1, ElRange.kt (S := fun _ => True) _ _ (KT.of_xt hxt) _ _ (HCS.out.2.2 i x c hx hc).2⟩) hown9 hgrow9
          have cc9 := g1.cell
          have ff9 := g1.frozen
          have GG := hide (And.intro g2 (And.intro g3 (And.intro g4 (And.intro g5 g6))))
          clear g1 g2 g3 g4 g5 g6 hown9 hgrow9 hbv1 hrow1 cb2
          refine hK.out _ _ trivial (fun _ => ?_)
          clear hK K
          refine wpAnyH_ready (rs := [5]) (by kernel_rfl) (by simp) ?_
          refine AllReadyH.cons (o := Oper.mk none _ _ _ _ _) rfl (fun K hK => ?_) AllReadyH.nil
          go_simp
          refine hK.out _ _ trivial (fun _ => ?_)
          clear hK K
          refine wpAnyH_done (by kernel_rfl) ?_ _
          obtain ⟨g2, g3, g4, g5, g6⟩ := GG.out
          rw [HYL.out] at g2 g3 g4 g5 g6
          have hb1' := Boxed.kt (boxed_xt hb1 hxt) g6 (by decide)
          have hb2' := Boxed.kt (boxed_xt hb2 hxt) g6 (by decide)
          have hB' := (HBW.out.trans (b1.out.mono HBW.out.size)).trans g5
          refine ⟨((KeepsOthers.of_below b1.out).trans g4).from _, ?_, ⟨_, _, g2, mapM_snoc HR.out HM.out HF.out, g3⟩, hb1', hb2', hB'⟩
          intro j hj
          simp only [List.mem_cons, List.not_mem_nil, or_false] at hj
          rcases hj with rfl | rfl | rfl
          · have hgl := hv.2.2.2.1
            exact (g5.block _ hgl).trans (b1.out.block _ (Nat.lt_of_lt_of_le hgl HBW.out.size))
          · exact (show _ = _ from hb1').trans (show _ = _ from hb1).symm
          · exact (show _ = _ from hb2').trans (show _ = _ from hb2).symm
        · go_simp
          refine hK.out _ _ trivial (fun _ => ?_)
          clear hK K
          refine wpAnyH_ready (rs := [0]) (by kernel_rfl) (by simp) ?_
          refine AllReadyH.cons (o := Oper.mk (some 8) _ _ _ _ _) rfl (fun K hK => ?_) AllReadyH.nil
          go_simp
          refine hK.out _ _ trivial (fun _ => ?_)
          clear hK K
          refine wpAnyH_ready (rs := [4]) (by kernel_rfl) (by simp) ?_
          refine AllReadyH.cons (o := Oper.mk (some 12) _ _ _ _ _) rfl (fun K hK => ?_) AllReadyH.nil
          refine step_append_lies _ (by rfl) _ _ 227 (by rfl) w.heap.size 303 i0 (.agg #[.int .i64 0, .int .i64 0]) 2 16 Tryz.underlying227 hi hz0 hz1 hz2 rfl (by decide) v ys.length css.flatten (by rfl) (hrow1.alloc _) ⟨v1.heap.size, 0, none⟩ 1 1 [.int .i64 (y.1 : Int), .int .i64 (y.2 : Int)] (by rfl) rfl (World.news_of_block (heap_alloc_new v1 _)) (by simp [Value.oneCell']) (by decide) (by omega) (by omega) (by simp; omega) _ rfl ?_
          intro g9 cap9 w9 hown9 hgrow9 _ _
          obtain ⟨g1, g2, g3, g4, g5, g6⟩ := Lst.grown (S := fun ty => ty ≠ 303 ∧ ty ≠ 227) (x := y) hbv1 (by decide) hsz1 (Nat.le_refl _) rfl (fun _ => Iff.rfl) (ElRange.kt) HEL.out css HCS.out.1 hrow1 (fun i x c hx hc => ⟨(HCS.out.2.2 i x c hx hc).1, ElRange.kt (S := fun _ => True) _ _ (KT.of_xt hxt) _ _ (HCS.out.2.2 i x c hx hc).2⟩) hown9 hgrow9
          have cc9 := g1.cell
          have ff9 := g1.frozen
          have GG := hide (And.intro g2 (And.intro g3 (And.intro g4 (And.intro g5 g6))))
          clear g1 g2 g3 g4 g5 g6 hown9 hgrow9 hbv1 hrow1 cb2
          refine hK.out _ _ trivial (fun _ => ?_)
          clear hK K
          refine wpAnyH_ready (rs := [5]) (by kernel_rfl) (by simp) ?_
          refine AllReadyH.cons (o := Oper.mk none _ _ _ _ _) rfl (fun K hK => ?_) AllReadyH.nil
          go_simp
          refine hK.out _ _ trivial (fun _ => ?_)
          clear hK K
          refine wpAnyH_done (by kernel_rfl) ?_ _
          obtain ⟨g2, g3, g4, g5, g6⟩ := GG.out
          rw [HYL.out] at g2 g3 g4 g5 g6
          have hb1' := Boxed.kt (boxed_xt hb1 hxt) g6 (by decide)
          have hb2' := Boxed.kt (boxed_xt hb2 hxt) g6 (by decide)
          have hB' := (HBW.out.trans (b1.out.mono HBW.out.size)).trans g5
          refine ⟨((KeepsOthers.of_below b1.out).trans g4).from _, ?_, ⟨_, _, g2, mapM_snoc HR.out HM.out HF.out, g3⟩, hb1', hb2', hB'⟩
          intro j hj
          simp only [List.mem_cons, List.not_mem_nil, or_false] at hj
          rcases hj with rfl | rfl | rfl
          · have hgl := hv.2.2.2.1
            exact (g5.block _ hgl).trans (b1.out.block _ (Nat.lt_of_lt_of_le hgl HBW.out.size))
          · exact (show _ = _ from hb1').trans (show _ = _ from hb1).symm
          · exact (show _ = _ from hb2').trans (show _ = _ from hb2).symm
  case done =>
    rintro D W hst hD ⟨⟨v, ys, hbv, hm, hr⟩, _, _, hB⟩ hK
    have hc := hbv.cell
    refine WpAt.seq (WpAt.of_wp ?_)
    go_wp2
    refine WpAt.of_wp ?_
    go_wp2
    refine ⟨by simp, .inl ⟨_, _, rfl, run_takeDeferred hK, ?_⟩⟩
    have hrl : rows.length = xs.length := by rw [← HRW.out]; simp
    rw [← hrl, List.take_length] at hm
    refine ⟨_, results_tmp rfl _ _ _, Ans.ret hm (below_take hB (by omega) hK) ?_⟩
    exact hr.kt (S := fun _ => True) (KT.of_xt (Xt.putObj (B := 0) _ (Nat.zero_le _) hK rfl)) trivial (ElRange.kt (S := fun _ => True) _ _ (KT.of_xt (Xt.putObj (B := 0) _ (Nat.zero_le _) hK rfl)))
  case pan =>
    rintro D W hD (⟨hn, hB⟩ | ⟨hst, _⟩) hK
    · exact leave_pan hK (Ans.panic hn (below_take hB (by omega) hK))
    · cases hst

end Go.Proofs.YtkbciljfjijclaaGreatDoor
