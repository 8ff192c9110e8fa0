/-
  The parts of texts that are joined; rows of parts that are joined.
  A rule more at the end, in plain words.
  Blanks ahead of signs change no part of a text.
  Conditions that are joined, and the other relation, in plain words.
  A divisor that is a power of 10 sees no more of a whole number than its rest.
  What rule's readEntry does.
-/
import Derived.Test.YtkbciljfjijclaaGreatDoorAB21
namespace Go.Proofs.YtkbciljfjijclaaGreatDoor
open Go.RowKit

end Go.Proofs.YtkbciljfjijclaaGreatDoor

namespace Go.Proofs.YtkbciljfjijclaaGreatDoor
open Go.RowKit

end Go.Proofs.YtkbciljfjijclaaGreatDoor

namespace Go.Proofs.YtkbciljfjijclaaGreatDoor
open Go.RowKit

end Go.Proofs.YtkbciljfjijclaaGreatDoor

namespace Go.Proofs.YtkbciljfjijclaaGreatDoor
open Go.RowKit

end Go.Proofs.YtkbciljfjijclaaGreatDoor

namespace Go.Proofs.YtkbciljfjijclaaGreatDoor
open Go.RowKit

end Go.Proofs.YtkbciljfjijclaaGreatDoor

namespace Go.Proofs.YtkbciljfjijclaaGreatDoor
open Go.RowKit

theorem readCategory_is (t : Tok) (w : World) {o : Option Nat} (h : catT t = o) : Calls Tryz.prog 150 #[.string (mkB t)] w (Ans o IsNum w) := h ▸ readCategory_any t w

def IsEntry (y : (Nat × Nat) × Nat) (v : Value) (_ : World) : Prop := v = .agg #[.int .i64 (y.1.1 : Int), .int .i64 (y.1.2 : Int), .int .i64 (y.2 : Int)]

theorem Blk.put3 {w : World} {b : Nat} {t : TypeId} {x0 x1 x2 : Value} (h : Blk w b #[x0, x1, x2] t) (y0 y1 y2 : Value) : Blk (((w.setCell ⟨b, 0, none⟩ y0).setCell ⟨b, 1, none⟩ y1).setCell ⟨b, 2, none⟩ y2) b #[y0, y1, y2] t := by
  unfold Blk at *
  simp only [World.setCell, Array.getElem?_modify, if_true, h, Option.map_some]
  rfl

set_option maxHeartbeats 1000000 in
theorem ent_p (g off cap : Nat) (a p b c d : Tok) (hp : p ≠ [43]) (w : World) (hv : TokV w g off cap [a, p, b, c, d] (.slice (some ⟨g, off, none⟩) 5 cap)) :
    Calls Tryz.prog 109 #[.slice (some ⟨g, off, none⟩) 5 cap] w (Ans (none : Option ((Nat × Nat) × Nat)) IsEntry w) := by
  have BR := hide (Blk.newAt w w.heap.size rfl #[.int .i64 0, .int .i64 0, .int .i64 0] 135)
  have HB : Hid (Below w.heap.size w (w.alloc (.cells #[.int .i64 0, .int .i64 0, .int .i64 0] 135))) := (Below.refl w.heap.size w).alloc (Nat.le_refl _) _
  have HT := hide (hv.below HB.out)
  have hcap : 5 ≤ cap := hv.2.1
  have hcm : cap ≤ 9223372036854775807 := hv.2.2.1
  have hgn : ¬ g = w.heap.size := by have := hv.2.2.2.1; omega
  have hgm : ¬ w.heap.size = g := by have := hv.2.2.2.1; omega
  have r0 := HT.out.cell 0 _ rfl
  have r1 := HT.out.cell 1 _ rfl
  have r2 := HT.out.cell 2 _ rfl
  have r3 := HT.out.cell 3 _ rfl
  have r4 := HT.out.cell 4 _ rfl
  rw [Nat.add_zero] at r0
  have hq := ne_lit hp
  clear hp hv HT r0 r2 r3 r4 BR
  go_enter Tryz.func109, Tryz.ntmps109
  go_wp2
  exact ⟨rfl, Ans.panic rfl HB.out⟩

set_option maxHeartbeats 1000000 in
theorem ent_c (g off cap : Nat) (a b c d : Tok) (hc : c ≠ [58]) (w : World) (hv : TokV w g off cap [a, [43], b, c, d] (.slice (some ⟨g, off, none⟩) 5 cap)) :
    Calls Tryz.prog 109 #[.slice (some ⟨g, off, none⟩) 5 cap] w (Ans (none : Option ((Nat × Nat) × Nat)) IsEntry w) := by
  have BR := hide (Blk.newAt w w.heap.size rfl #[.int .i64 0, .int .i64 0, .int .i64 0] 135)
  have HB : Hid (Below w.heap.size w (w.alloc (.cells #[.int .i64 0, .int .i64 0, .int .i64 0] 135))) := (Below.refl w.heap.size w).alloc (Nat.le_refl _) _
  have HT := hide (hv.below HB.out)
  have hcap : 5 ≤ cap := hv.2.1
  have hcm : cap ≤ 9223372036854775807 := hv.2.2.1
  have hgn : ¬ g = w.heap.size := by have := hv.2.2.2.1; omega
  have hgm : ¬ w.heap.size = g := by have := hv.2.2.2.1; omega
  have r0 := HT.out.cell 0 _ rfl
  have r1 := HT.out.cell 1 _ rfl
  have r2 := HT.out.cell 2 _ rfl
  have r3 := HT.out.cell 3 _ rfl
  have r4 := HT.out.cell 4 _ rfl
  rw [Nat.add_zero] at r0
  rw [show mkB [43] = ⟨#[43]⟩ from rfl] at r1
  have hq := ne_lit hc
  clear hc hv HT r0 r2 r4 BR
  go_enter Tryz.func109, Tryz.ntmps109
  go_wp2
  exact ⟨rfl, Ans.panic rfl HB.out⟩

theorem ent_x (a : Option Addr) (n cap : Nat) (w : World) (h : n ≠ 5) : Calls Tryz.prog 109 #[.slice a n cap] w (Ans (none : Option ((Nat × Nat) × Nat)) IsEntry w) := by
  have HB : Hid (Below w.heap.size w (w.alloc (.cells #[.int .i64 0, .int .i64 0, .int .i64 0] 135))) := (Below.refl w.heap.size w).alloc (Nat.le_refl _) _
  have q1 : ((n : Int) != 5) = true := by rw [bne_iff_ne]; omega
  clear h
  go_enter Tryz.func109, Tryz.ntmps109
  go_wp2
  exact ⟨rfl, Ans.panic rfl HB.out⟩

set_option maxHeartbeats 1000000 in
theorem ent_y (g off cap : Nat) (a b d : Tok) (x y z : Nat) (h0 : catT a = some x) (h1 : catT b = some y) (h2 : catT d = some z) (w : World) (hv : TokV w g off cap [a, [43], b, [58], d] (.slice (some ⟨g, off, none⟩) 5 cap)) :
    Calls Tryz.prog 109 #[.slice (some ⟨g, off, none⟩) 5 cap] w (Ans (some ((x, y), z)) IsEntry w) := by
  have BR := hide (Blk.newAt w w.heap.size rfl #[.int .i64 0, .int .i64 0, .int .i64 0] 135)
  have HB : Hid (Below w.heap.size w (w.alloc (.cells #[.int .i64 0, .int .i64 0, .int .i64 0] 135))) := (Below.refl w.heap.size w).alloc (Nat.le_refl _) _
  have HT := hide (hv.below HB.out)
  have hcap : 5 ≤ cap := hv.2.1
  have hcm : cap ≤ 9223372036854775807 := hv.2.2.1
  have hgn : ¬ g = w.heap.size := by have := hv.2.2.2.1; omega
  have hgm : ¬ w.heap.size = g := by have := hv.2.2.2.1; omega
  have r0 := HT.out.cell 0 _ rfl
  have r1 := HT.out.cell 1 _ rfl
  have r2 := HT.out.cell 2 _ rfl
  have r3 := HT.out.cell 3 _ rfl
  have r4 := HT.out.cell 4 _ rfl
  rw [Nat.add_zero] at r0
  rw [show mkB [43] = ⟨#[43]⟩ from rfl] at r1
  rw [show mkB [58] = ⟨#[58]⟩ from rfl] at r3
  have HLT := hide (HT.out.2.2.2.1)
  have HC : Hid (∀ w', Below (w.alloc (.cells #[.int .i64 0, .int .i64 0, .int .i64 0] 135)).heap.size (w.alloc (.cells #[.int .i64 0, .int .i64 0, .int .i64 0] 135)) w' → w'.cell? ⟨g, off, none⟩ = some (.string (mkB a)) ∧ w'.cell? ⟨g, off + 2, none⟩ = some (.string (mkB b)) ∧ w'.cell? ⟨g, off + 4, none⟩ = some (.string (mkB d))) := fun w' hb => ⟨(hb.cell (p := ⟨g, off, none⟩) HLT.out).trans r0, (hb.cell (p := ⟨g, off + 2, none⟩) HLT.out).trans r2, (hb.cell (p := ⟨g, off + 4, none⟩) HLT.out).trans r4⟩
  have b0 : Hid (Below (w.alloc (.cells #[.int .i64 0, .int .i64 0, .int .i64 0] 135)).heap.size (w.alloc (.cells #[.int .i64 0, .int .i64 0, .int .i64 0] 135)) (w.alloc (.cells #[.int .i64 0, .int .i64 0, .int .i64 0] 135)).drew) := bdrewD (w.alloc (.cells #[.int .i64 0, .int .i64 0, .int .i64 0] 135))
  have C0 : Hid (∀ X, Hid (Below (w.alloc (.cells #[.int .i64 0, .int .i64 0, .int .i64 0] 135)).heap.size (w.alloc (.cells #[.int .i64 0, .int .i64 0, .int .i64 0] 135)) X) → Calls Tryz.prog 150 #[.string (mkB a)] X fun e w' => e = .returned (.int .i64 (x : Int)) ∧ Hid (Below (w.alloc (.cells #[.int .i64 0, .int .i64 0, .int .i64 0] 135)).heap.size (w.alloc (.cells #[.int .i64 0, .int .i64 0, .int .i64 0] 135)) w') ∧ w'.cell? ⟨g, off, none⟩ = some (.string (mkB a)) ∧ w'.cell? ⟨g, off + 2, none⟩ = some (.string (mkB b)) ∧ w'.cell? ⟨g, off + 4, none⟩ = some (.string (mkB d))) := by
    intro X bX
    refine (readCategory_is a X h0).mono ?_
    rintro e w' ⟨hb, v, rfl, rfl⟩
    have bb := bX.out.trans (hb.mono bX.out.size)
    exact ⟨rfl, bb, HC.out _ bb⟩
  have C1 : Hid (∀ X, Hid (Below (w.alloc (.cells #[.int .i64 0, .int .i64 0, .int .i64 0] 135)).heap.size (w.alloc (.cells #[.int .i64 0, .int .i64 0, .int .i64 0] 135)) X) → Calls Tryz.prog 150 #[.string (mkB b)] X fun e w' => e = .returned (.int .i64 (y : Int)) ∧ Hid (Below (w.alloc (.cells #[.int .i64 0, .int .i64 0, .int .i64 0] 135)).heap.size (w.alloc (.cells #[.int .i64 0, .int .i64 0, .int .i64 0] 135)) w') ∧ w'.cell? ⟨g, off, none⟩ = some (.string (mkB a)) ∧ w'.cell? ⟨g, off + 2, none⟩ = some (.string (mkB b)) ∧ w'.cell? ⟨g, off + 4, none⟩ = some (.string (mkB d))) := by
    intro X bX
    refine (readCategory_is b X h1).mono ?_
    rintro e w' ⟨hb, v, rfl, rfl⟩
    have bb := bX.out.trans (hb.mono bX.out.size)
    exact ⟨rfl, bb, HC.out _ bb⟩
  have C2 : Hid (∀ X, Hid (Below (w.alloc (.cells #[.int .i64 0, .int .i64 0, .int .i64 0] 135)).heap.size (w.alloc (.cells #[.int .i64 0, .int .i64 0, .int .i64 0] 135)) X) → Calls Tryz.prog 150 #[.string (mkB d)] X fun e w' => e = .returned (.int .i64 (z : Int)) ∧ Hid (Below (w.alloc (.cells #[.int .i64 0, .int .i64 0, .int .i64 0] 135)).heap.size (w.alloc (.cells #[.int .i64 0, .int .i64 0, .int .i64 0] 135)) w') ∧ w'.cell? ⟨g, off, none⟩ = some (.string (mkB a)) ∧ w'.cell? ⟨g, off + 2, none⟩ = some (.string (mkB b)) ∧ w'.cell? ⟨g, off + 4, none⟩ = some (.string (mkB d))) := by
    intro X bX
    refine (readCategory_is d X h2).mono ?_
    rintro e w' ⟨hb, v, rfl, rfl⟩
    have bb := bX.out.trans (hb.mono bX.out.size)
    exact ⟨rfl, bb, HC.out _ bb⟩
  clear hv HT HC HLT h0 h1 h2
  go_enter Tryz.func109, Tryz.ntmps109
  go_wp2_with fail
  refine wp_region_held_drew (S := (fun w' => w'.cell? ⟨g, off, none⟩ = some (.string (mkB a)) ∧ w'.cell? ⟨g, off + 2, none⟩ = some (.string (mkB b)) ∧ w'.cell? ⟨g, off + 4, none⟩ = some (.string (mkB d)))) (by kernel_rfl) ?_ (fun hHeld => ?_)
  · (try dsimp only)
    go_keep
  refine wpAnyH_take (i := 0) (oi := Oper.mk (some 19) _ _ _ _ _) (v := .slice (some ⟨g, off, none⟩) 5 cap) rfl (by kernel_rfl) (by kernel_rfl) (by kernel_rfl) (fun _ _ _ h => h) (Or.inl ⟨by rfl, ?_⟩) (by assumption) ?_
  · intro wX hSw
    (try dsimp only at hSw)
    go_simp
  simp only [Act.put, List.setIfInBounds_toArray, List.set_cons_succ, List.set_cons_zero]
  refine wpAnyH_take (i := 1) (oi := Oper.mk (some 20) _ _ _ _ _) (v := .pointer (some ⟨g, off, none⟩)) rfl (by kernel_rfl) (by kernel_rfl) (by kernel_rfl) (fun _ _ _ h => h) (Or.inl ⟨by rfl, ?_⟩) (by assumption) ?_
  · intro wX hSw
    (try dsimp only at hSw)
    go_simp
  simp only [Act.put, List.setIfInBounds_toArray, List.set_cons_succ, List.set_cons_zero]
  refine wpAnyH_take (i := 2) (oi := Oper.mk (some 21) _ _ _ _ _) (v := .string (mkB a)) rfl (by kernel_rfl) (by kernel_rfl) (by kernel_rfl) (fun _ _ _ h => h) (Or.inl ⟨by rfl, ?_⟩) (by assumption) ?_
  · intro wX hSw
    (try dsimp only at hSw)
    go_simp
  simp only [Act.put, List.setIfInBounds_toArray, List.set_cons_succ, List.set_cons_zero]
  refine wpAnyH_take (i := 4) (oi := Oper.mk (some 23) _ _ _ _ _) (v := .slice (some ⟨g, off, none⟩) 5 cap) rfl (by kernel_rfl) (by kernel_rfl) (by kernel_rfl) (fun _ _ _ h => h) (Or.inl ⟨by rfl, ?_⟩) (by assumption) ?_
  · intro wX hSw
    (try dsimp only at hSw)
    go_simp
  simp only [Act.put, List.setIfInBounds_toArray, List.set_cons_succ, List.set_cons_zero]
  refine wpAnyH_take (i := 5) (oi := Oper.mk (some 24) _ _ _ _ _) (v := .pointer (some ⟨g, off + 2, none⟩)) rfl (by kernel_rfl) (by kernel_rfl) (by kernel_rfl) (fun _ _ _ h => h) (Or.inl ⟨by rfl, ?_⟩) (by assumption) ?_
  · intro wX hSw
    (try dsimp only at hSw)
    go_simp
  simp only [Act.put, List.setIfInBounds_toArray, List.set_cons_succ, List.set_cons_zero]
  refine wpAnyH_take (i := 6) (oi := Oper.mk (some 25) _ _ _ _ _) (v := .string (mkB b)) rfl (by kernel_rfl) (by kernel_rfl) (by kernel_rfl) (fun _ _ _ h => h) (Or.inl ⟨by rfl, ?_⟩) (by assumption) ?_
  · intro wX hSw
    (try dsimp only at hSw)
    go_simp
  simp only [Act.put, List.setIfInBounds_toArray, List.set_cons_succ, List.set_cons_zero]
  refine wpAnyH_take (i := 8) (oi := Oper.mk (some 27) _ _ _ _ _) (v := .slice (some ⟨g, off, none⟩) 5 cap) rfl (by kernel_rfl) (by kernel_rfl) (by kernel_rfl) (fun _ _ _ h => h) (Or.inl ⟨by rfl, ?_⟩) (by assumption) ?_
  · intro wX hSw
    (try dsimp only at hSw)
    go_simp
  simp only [Act.put, List.setIfInBounds_toArray, List.set_cons_succ, List.set_cons_zero]
  refine wpAnyH_take (i := 9) (oi := Oper.mk (some 28) _ _ _ _ _) (v := .pointer (some ⟨g, off + 4, none⟩)) rfl (by kernel_rfl) (by kernel_rfl) (by kernel_rfl) (fun _ _ _ h => h) (Or.inl ⟨by rfl, ?_⟩) (by assumption) ?_
  · intro wX hSw
    (try dsimp only at hSw)
    go_simp
  simp only [Act.put, List.setIfInBounds_toArray, List.set_cons_succ, List.set_cons_zero]
  refine wpAnyH_take (i := 10) (oi := Oper.mk (some 29) _ _ _ _ _) (v := .string (mkB d)) rfl (by kernel_rfl) (by kernel_rfl) (by kernel_rfl) (fun _ _ _ h => h) (Or.inl ⟨by rfl, ?_⟩) (by assumption) ?_
  · intro wX hSw
    (try dsimp only at hSw)
    go_simp
  simp only [Act.put, List.setIfInBounds_toArray, List.set_cons_succ, List.set_cons_zero]
  refine wpAnyH_ready (rs := [3]) (by kernel_rfl) (by simp) ?_
  refine AllReadyH.cons (o := Oper.mk (some 22) _ _ _ _ _) rfl (fun K hK => ?_) AllReadyH.nil
  go_simp
  refine (C0.out _ b0).mono ?_
  rintro e v1 ⟨rfl, b1, q00, q01, q02⟩
  refine hK.out _ _ ?_ (fun hHeld => ?_)
  · (try dsimp only)
    go_keep
  clear hK K
  refine wpAnyH_ready (rs := [7]) (by kernel_rfl) (by simp) ?_
  refine AllReadyH.cons (o := Oper.mk (some 26) _ _ _ _ _) rfl (fun K hK => ?_) AllReadyH.nil
  go_simp
  refine (C1.out _ b1).mono ?_
  rintro e v2 ⟨rfl, b2, q10, q11, q12⟩
  refine hK.out _ _ ?_ (fun hHeld => ?_)
  · (try dsimp only)
    go_keep
  clear hK K
  refine wpAnyH_ready (rs := [11]) (by kernel_rfl) (by simp) ?_
  refine AllReadyH.cons (o := Oper.mk (some 30) _ _ _ _ _) rfl (fun K hK => ?_) AllReadyH.nil
  go_simp
  refine (C2.out _ b2).mono ?_
  rintro e v3 ⟨rfl, b3, q20, q21, q22⟩
  have HB1 := hide (HB.out.trans (b3.out.mono HB.out.size))
  have BR1 := Blk.on BR b3.out
  obtain ⟨f0, f1, f2⟩ : v3.frozen? ⟨w.heap.size, 0, none⟩ = false ∧ v3.frozen? ⟨w.heap.size, 1, none⟩ = false ∧ v3.frozen? ⟨w.heap.size, 2, none⟩ = false := ⟨BR1.out.free 0, BR1.out.free 1, BR1.out.free 2⟩
  have c0 := BR1.out.cell 0
  have c1 := BR1.out.cell 1
  have c2 := BR1.out.cell 2
  simp at c0 c1 c2
  refine hK.out _ _ ?_ (fun hHeld => ?_)
  · (try dsimp only)
    go_keep
  clear hK K
  refine wpAnyH_take (i := 12) (oi := Oper.mk (some 31) _ _ _ _ _) (v := .agg #[.int .i64 (x : Int), .int .i64 (y : Int), .int .i64 (z : Int)]) rfl (by kernel_rfl) (by kernel_rfl) (by kernel_rfl) (fun _ _ _ h => h) (Or.inl ⟨by rfl, ?_⟩) (by assumption) ?_
  · intro wX hSw
    (try dsimp only at hSw)
    go_simp
  simp only [Act.put, List.setIfInBounds_toArray, List.set_cons_succ, List.set_cons_zero]
  refine wpAnyH_ready (rs := [13]) (by kernel_rfl) (by simp) ?_
  refine AllReadyH.cons (o := Oper.mk none _ _ _ _ _) rfl (fun K hK => ?_) AllReadyH.nil
  go_simp
  refine hK.out _ _ ?_ (fun hHeld => ?_)
  · (try dsimp only)
    go_keep
  clear hK K
  refine wpAnyH_done (by kernel_rfl) ?_ _
  go_wp2
  refine bodyPost_ret (results_entry rfl _ _ _ _ _ _ rfl (BR1.out.put3 _ _ _)) rfl ?_
  exact Ans.ret rfl (((HB1.out.setCell (p := ⟨w.heap.size, 0, none⟩) (Nat.le_refl _) _).setCell (p := ⟨w.heap.size, 1, none⟩) (Nat.le_refl _) _).setCell (p := ⟨w.heap.size, 2, none⟩) (Nat.le_refl _) _) rfl

set_option maxHeartbeats 1000000 in
theorem ent_2 (g off cap : Nat) (a b d : Tok) (x y : Nat) (h0 : catT a = some x) (h1 : catT b = some y) (h2 : catT d = none) (w : World) (hv : TokV w g off cap [a, [43], b, [58], d] (.slice (some ⟨g, off, none⟩) 5 cap)) :
    Calls Tryz.prog 109 #[.slice (some ⟨g, off, none⟩) 5 cap] w (Ans (none : Option ((Nat × Nat) × Nat)) IsEntry w) := by
  have BR := hide (Blk.newAt w w.heap.size rfl #[.int .i64 0, .int .i64 0, .int .i64 0] 135)
  have HB : Hid (Below w.heap.size w (w.alloc (.cells #[.int .i64 0, .int .i64 0, .int .i64 0] 135))) := (Below.refl w.heap.size w).alloc (Nat.le_refl _) _
  have HT := hide (hv.below HB.out)
  have hcap : 5 ≤ cap := hv.2.1
  have hcm : cap ≤ 9223372036854775807 := hv.2.2.1
  have hgn : ¬ g = w.heap.size := by have := hv.2.2.2.1; omega
  have hgm : ¬ w.heap.size = g := by have := hv.2.2.2.1; omega
  have r0 := HT.out.cell 0 _ rfl
  have r1 := HT.out.cell 1 _ rfl
  have r2 := HT.out.cell 2 _ rfl
  have r3 := HT.out.cell 3 _ rfl
  have r4 := HT.out.cell 4 _ rfl
  rw [Nat.add_zero] at r0
  rw [show mkB [43] = ⟨#[43]⟩ from rfl] at r1
  rw [show mkB [58] = ⟨#[58]⟩ from rfl] at r3
  have HLT := hide (HT.out.2.2.2.1)
  have HC : Hid (∀ w', Below (w.alloc (.cells #[.int .i64 0, .int .i64 0, .int .i64 0] 135)).heap.size (w.alloc (.cells #[.int .i64 0, .int .i64 0, .int .i64 0] 135)) w' → w'.cell? ⟨g, off, none⟩ = some (.string (mkB a)) ∧ w'.cell? ⟨g, off + 2, none⟩ = some (.string (mkB b)) ∧ w'.cell? ⟨g, off + 4, none⟩ = some (.string (mkB d))) := fun w' hb => ⟨(hb.cell (p := ⟨g, off, none⟩) HLT.out).trans r0, (hb.cell (p := ⟨g, off + 2, none⟩) HLT.out).trans r2, (hb.cell (p := ⟨g, off + 4, none⟩) HLT.out).trans r4⟩
  have b0 : Hid (Below (w.alloc (.cells #[.int .i64 0, .int .i64 0, .int .i64 0] 135)).heap.size (w.alloc (.cells #[.int .i64 0, .int .i64 0, .int .i64 0] 135)) (w.alloc (.cells #[.int .i64 0, .int .i64 0, .int .i64 0] 135)).drew) := bdrewD (w.alloc (.cells #[.int .i64 0, .int .i64 0, .int .i64 0] 135))
  have C0 : Hid (∀ X, Hid (Below (w.alloc (.cells #[.int .i64 0, .int .i64 0, .int .i64 0] 135)).heap.size (w.alloc (.cells #[.int .i64 0, .int .i64 0, .int .i64 0] 135)) X) → Calls Tryz.prog 150 #[.string (mkB a)] X fun e w' => e = .returned (.int .i64 (x : Int)) ∧ Hid (Below (w.alloc (.cells #[.int .i64 0, .int .i64 0, .int .i64 0] 135)).heap.size (w.alloc (.cells #[.int .i64 0, .int .i64 0, .int .i64 0] 135)) w') ∧ w'.cell? ⟨g, off, none⟩ = some (.string (mkB a)) ∧ w'.cell? ⟨g, off + 2, none⟩ = some (.string (mkB b)) ∧ w'.cell? ⟨g, off + 4, none⟩ = some (.string (mkB d))) := by
    intro X bX
    refine (readCategory_is a X h0).mono ?_
    rintro e w' ⟨hb, v, rfl, rfl⟩
    have bb := bX.out.trans (hb.mono bX.out.size)
    exact ⟨rfl, bb, HC.out _ bb⟩
  have C1 : Hid (∀ X, Hid (Below (w.alloc (.cells #[.int .i64 0, .int .i64 0, .int .i64 0] 135)).heap.size (w.alloc (.cells #[.int .i64 0, .int .i64 0, .int .i64 0] 135)) X) → Calls Tryz.prog 150 #[.string (mkB b)] X fun e w' => e = .returned (.int .i64 (y : Int)) ∧ Hid (Below (w.alloc (.cells #[.int .i64 0, .int .i64 0, .int .i64 0] 135)).heap.size (w.alloc (.cells #[.int .i64 0, .int .i64 0, .int .i64 0] 135)) w') ∧ w'.cell? ⟨g, off, none⟩ = some (.string (mkB a)) ∧ w'.cell? ⟨g, off + 2, none⟩ = some (.string (mkB b)) ∧ w'.cell? ⟨g, off + 4, none⟩ = some (.string (mkB d))) := by
    intro X bX
    refine (readCategory_is b X h1).mono ?_
    rintro e w' ⟨hb, v, rfl, rfl⟩
    have bb := bX.out.trans (hb.mono bX.out.size)
    exact ⟨rfl, bb, HC.out _ bb⟩
  have C2 : Hid (∀ X, Hid (Below (w.alloc (.cells #[.int .i64 0, .int .i64 0, .int .i64 0] 135)).heap.size (w.alloc (.cells #[.int .i64 0, .int .i64 0, .int .i64 0] 135)) X) → Calls Tryz.prog 150 #[.string (mkB d)] X fun e w' => e = .panicked PC ∧ Hid (Below (w.alloc (.cells #[.int .i64 0, .int .i64 0, .int .i64 0] 135)).heap.size (w.alloc (.cells #[.int .i64 0, .int .i64 0, .int .i64 0] 135)) w')) := by
    intro X bX
    refine (readCategory_is d X h2).mono ?_
    rintro e w' ⟨hb, rfl⟩
    exact ⟨rfl, bX.out.trans (hb.mono bX.out.size)⟩
  clear hv HT HC HLT h0 h1 h2 hgn hgm
  go_enter Tryz.func109, Tryz.ntmps109
  go_wp2_with fail
  refine wp_region_held_drew (S := (fun w' => w'.cell? ⟨g, off, none⟩ = some (.string (mkB a)) ∧ w'.cell? ⟨g, off + 2, none⟩ = some (.string (mkB b)) ∧ w'.cell? ⟨g, off + 4, none⟩ = some (.string (mkB d)))) (by kernel_rfl) ?_ (fun hHeld => ?_)
  · (try dsimp only)
    go_keep
  refine wpAnyH_take (i := 0) (oi := Oper.mk (some 19) _ _ _ _ _) (v := .slice (some ⟨g, off, none⟩) 5 cap) rfl (by kernel_rfl) (by kernel_rfl) (by kernel_rfl) (fun _ _ _ h => h) (Or.inl ⟨by rfl, ?_⟩) (by assumption) ?_
  · intro wX hSw
    (try dsimp only at hSw)
    go_simp
  simp only [Act.put, List.setIfInBounds_toArray, List.set_cons_succ, List.set_cons_zero]
  refine wpAnyH_take (i := 1) (oi := Oper.mk (some 20) _ _ _ _ _) (v := .pointer (some ⟨g, off, none⟩)) rfl (by kernel_rfl) (by kernel_rfl) (by kernel_rfl) (fun _ _ _ h => h) (Or.inl ⟨by rfl, ?_⟩) (by assumption) ?_
  · intro wX hSw
    (try dsimp only at hSw)
    go_simp
  simp only [Act.put, List.setIfInBounds_toArray, List.set_cons_succ, List.set_cons_zero]
  refine wpAnyH_take (i := 2) (oi := Oper.mk (some 21) _ _ _ _ _) (v := .string (mkB a)) rfl (by kernel_rfl) (by kernel_rfl) (by kernel_rfl) (fun _ _ _ h => h) (Or.inl ⟨by rfl, ?_⟩) (by assumption) ?_
  · intro wX hSw
    (try dsimp only at hSw)
    go_simp
  simp only [Act.put, List.setIfInBounds_toArray, List.set_cons_succ, List.set_cons_zero]
  refine wpAnyH_take (i := 4) (oi := Oper.mk (some 23) _ _ _ _ _) (v := .slice (some ⟨g, off, none⟩) 5 cap) rfl (by kernel_rfl) (by kernel_rfl) (by kernel_rfl) (fun _ _ _ h => h) (Or.inl ⟨by rfl, ?_⟩) (by assumption) ?_
  · intro wX hSw
    (try dsimp only at hSw)
    go_simp
  simp only [Act.put, List.setIfInBounds_toArray, List.set_cons_succ, List.set_cons_zero]
  refine wpAnyH_take (i := 5) (oi := Oper.mk (some 24) _ _ _ _ _) (v := .pointer (some ⟨g, off + 2, none⟩)) rfl (by kernel_rfl) (by kernel_rfl) (by kernel_rfl) (fun _ _ _ h => h) (Or.inl ⟨by rfl, ?_⟩) (by assumption) ?_
  · intro wX hSw
    (try dsimp only at hSw)
    go_simp
  simp only [Act.put, List.setIfInBounds_toArray, List.set_cons_succ, List.set_cons_zero]
  refine wpAnyH_take (i := 6) (oi := Oper.mk (some 25) _ _ _ _ _) (v := .string (mkB b)) rfl (by kernel_rfl) (by kernel_rfl) (by kernel_rfl) (fun _ _ _ h => h) (Or.inl ⟨by rfl, ?_⟩) (by assumption) ?_
  · intro wX hSw
    (try dsimp only at hSw)
    go_simp
  simp only [Act.put, List.setIfInBounds_toArray, List.set_cons_succ, List.set_cons_zero]
  refine wpAnyH_take (i := 8) (oi := Oper.mk (some 27) _ _ _ _ _) (v := .slice (some ⟨g, off, none⟩) 5 cap) rfl (by kernel_rfl) (by kernel_rfl) (by kernel_rfl) (fun _ _ _ h => h) (Or.inl ⟨by rfl, ?_⟩) (by assumption) ?_
  · intro wX hSw
    (try dsimp only at hSw)
    go_simp
  simp only [Act.put, List.setIfInBounds_toArray, List.set_cons_succ, List.set_cons_zero]
  refine wpAnyH_take (i := 9) (oi := Oper.mk (some 28) _ _ _ _ _) (v := .pointer (some ⟨g, off + 4, none⟩)) rfl (by kernel_rfl) (by kernel_rfl) (by kernel_rfl) (fun _ _ _ h => h) (Or.inl ⟨by rfl, ?_⟩) (by assumption) ?_
  · intro wX hSw
    (try dsimp only at hSw)
    go_simp
  simp only [Act.put, List.setIfInBounds_toArray, List.set_cons_succ, List.set_cons_zero]
  refine wpAnyH_take (i := 10) (oi := Oper.mk (some 29) _ _ _ _ _) (v := .string (mkB d)) rfl (by kernel_rfl) (by kernel_rfl) (by kernel_rfl) (fun _ _ _ h => h) (Or.inl ⟨by rfl, ?_⟩) (by assumption) ?_
  · intro wX hSw
    (try dsimp only at hSw)
    go_simp
  simp only [Act.put, List.setIfInBounds_toArray, List.set_cons_succ, List.set_cons_zero]
  refine wpAnyH_ready (rs := [3]) (by kernel_rfl) (by simp) ?_
  refine AllReadyH.cons (o := Oper.mk (some 22) _ _ _ _ _) rfl (fun K hK => ?_) AllReadyH.nil
  go_simp
  refine (C0.out _ b0).mono ?_
  rintro e v1 ⟨rfl, b1, q00, q01, q02⟩
  refine hK.out _ _ ?_ (fun hHeld => ?_)
  · (try dsimp only)
    go_keep
  clear hK K
  refine wpAnyH_ready (rs := [7]) (by kernel_rfl) (by simp) ?_
  refine AllReadyH.cons (o := Oper.mk (some 26) _ _ _ _ _) rfl (fun K hK => ?_) AllReadyH.nil
  go_simp
  refine (C1.out _ b1).mono ?_
  rintro e v2 ⟨rfl, b2, q10, q11, q12⟩
  refine hK.out _ _ ?_ (fun hHeld => ?_)
  · (try dsimp only)
    go_keep
  clear hK K
  refine wpAnyH_ready (rs := [11]) (by kernel_rfl) (by simp) ?_
  refine AllReadyH.cons (o := Oper.mk (some 30) _ _ _ _ _) rfl (fun K hK => ?_) AllReadyH.nil
  go_simp
  refine (C2.out _ b2).mono ?_
  rintro e v3 ⟨rfl, b3⟩
  exact ⟨rfl, Ans.panic rfl (HB.out.trans (b3.out.mono HB.out.size))⟩

set_option maxHeartbeats 1000000 in
theorem ent_1 (g off cap : Nat) (a b d : Tok) (x : Nat) (h0 : catT a = some x) (h1 : catT b = none) (w : World) (hv : TokV w g off cap [a, [43], b, [58], d] (.slice (some ⟨g, off, none⟩) 5 cap)) :
    Calls Tryz.prog 109 #[.slice (some ⟨g, off, none⟩) 5 cap] w (Ans (none : Option ((Nat × Nat) × Nat)) IsEntry w) := by
  have BR := hide (Blk.newAt w w.heap.size rfl #[.int .i64 0, .int .i64 0, .int .i64 0] 135)
  have HB : Hid (Below w.heap.size w (w.alloc (.cells #[.int .i64 0, .int .i64 0, .int .i64 0] 135))) := (Below.refl w.heap.size w).alloc (Nat.le_refl _) _
  have HT := hide (hv.below HB.out)
  have hcap : 5 ≤ cap := hv.2.1
  have hcm : cap ≤ 9223372036854775807 := hv.2.2.1
  have hgn : ¬ g = w.heap.size := by have := hv.2.2.2.1; omega
  have hgm : ¬ w.heap.size = g := by have := hv.2.2.2.1; omega
  have r0 := HT.out.cell 0 _ rfl
  have r1 := HT.out.cell 1 _ rfl
  have r2 := HT.out.cell 2 _ rfl
  have r3 := HT.out.cell 3 _ rfl
  have r4 := HT.out.cell 4 _ rfl
  rw [Nat.add_zero] at r0
  rw [show mkB [43] = ⟨#[43]⟩ from rfl] at r1
  rw [show mkB [58] = ⟨#[58]⟩ from rfl] at r3
  have HLT := hide (HT.out.2.2.2.1)
  have HC : Hid (∀ w', Below (w.alloc (.cells #[.int .i64 0, .int .i64 0, .int .i64 0] 135)).heap.size (w.alloc (.cells #[.int .i64 0, .int .i64 0, .int .i64 0] 135)) w' → w'.cell? ⟨g, off, none⟩ = some (.string (mkB a)) ∧ w'.cell? ⟨g, off + 2, none⟩ = some (.string (mkB b)) ∧ w'.cell? ⟨g, off + 4, none⟩ = some (.string (mkB d))) := fun w' hb => ⟨(hb.cell (p := ⟨g, off, none⟩) HLT.out).trans r0, (hb.cell (p := ⟨g, off + 2, none⟩) HLT.out).trans r2, (hb.cell (p := ⟨g, off + 4, none⟩) HLT.out).trans r4⟩
  have b0 : Hid (Below (w.alloc (.cells #[.int .i64 0, .int .i64 0, .int .i64 0] 135)).heap.size (w.alloc (.cells #[.int .i64 0, .int .i64 0, .int .i64 0] 135)) (w.alloc (.cells #[.int .i64 0, .int .i64 0, .int .i64 0] 135)).drew) := bdrewD (w.alloc (.cells #[.int .i64 0, .int .i64 0, .int .i64 0] 135))
  have C0 : Hid (∀ X, Hid (Below (w.alloc (.cells #[.int .i64 0, .int .i64 0, .int .i64 0] 135)).heap.size (w.alloc (.cells #[.int .i64 0, .int .i64 0, .int .i64 0] 135)) X) → Calls Tryz.prog 150 #[.string (mkB a)] X fun e w' => e = .returned (.int .i64 (x : Int)) ∧ Hid (Below (w.alloc (.cells #[.int .i64 0, .int .i64 0, .int .i64 0] 135)).heap.size (w.alloc (.cells #[.int .i64 0, .int .i64 0, .int .i64 0] 135)) w') ∧ w'.cell? ⟨g, off, none⟩ = some (.string (mkB a)) ∧ w'.cell? ⟨g, off + 2, none⟩ = some (.string (mkB b)) ∧ w'.cell? ⟨g, off + 4, none⟩ = some (.string (mkB d))) := by
    intro X bX
    refine (readCategory_is a X h0).mono ?_
    rintro e w' ⟨hb, v, rfl, rfl⟩
    have bb := bX.out.trans (hb.mono bX.out.size)
    exact ⟨rfl, bb, HC.out _ bb⟩
  have C1 : Hid (∀ X, Hid (Below (w.alloc (.cells #[.int .i64 0, .int .i64 0, .int .i64 0] 135)).heap.size (w.alloc (.cells #[.int .i64 0, .int .i64 0, .int .i64 0] 135)) X) → Calls Tryz.prog 150 #[.string (mkB b)] X fun e w' => e = .panicked PC ∧ Hid (Below (w.alloc (.cells #[.int .i64 0, .int .i64 0, .int .i64 0] 135)).heap.size (w.alloc (.cells #[.int .i64 0, .int .i64 0, .int .i64 0] 135)) w')) := by
    intro X bX
    refine (readCategory_is b X h1).mono ?_
    rintro e w' ⟨hb, rfl⟩
    exact ⟨rfl, bX.out.trans (hb.mono bX.out.size)⟩
  clear hv HT HC HLT h0 h1 hgn hgm
  go_enter Tryz.func109, Tryz.ntmps109
  go_wp2_with fail
  refine wp_region_held_drew (S := (fun w' => w'.cell? ⟨g, off, none⟩ = some (.string (mkB a)) ∧ w'.cell? ⟨g, off + 2, none⟩ = some (.string (mkB b)) ∧ w'.cell? ⟨g, off + 4, none⟩ = some (.string (mkB d)))) (by kernel_rfl) ?_ (fun hHeld => ?_)
  · (try dsimp only)
    go_keep
  refine wpAnyH_take (i := 0) (oi := Oper.mk (some 19) _ _ _ _ _) (v := .slice (some ⟨g, off, none⟩) 5 cap) rfl (by kernel_rfl) (by kernel_rfl) (by kernel_rfl) (fun _ _ _ h => h) (Or.inl ⟨by rfl, ?_⟩) (by assumption) ?_
  · intro wX hSw
    (try dsimp only at hSw)
    go_simp
  simp only [Act.put, List.setIfInBounds_toArray, List.set_cons_succ, List.set_cons_zero]
  refine wpAnyH_take (i := 1) (oi := Oper.mk (some 20) _ _ _ _ _) (v := .pointer (some ⟨g, off, none⟩)) rfl (by kernel_rfl) (by kernel_rfl) (by kernel_rfl) (fun _ _ _ h => h) (Or.inl ⟨by rfl, ?_⟩) (by assumption) ?_
  · intro wX hSw
    (try dsimp only at hSw)
    go_simp
  simp only [Act.put, List.setIfInBounds_toArray, List.set_cons_succ, List.set_cons_zero]
  refine wpAnyH_take (i := 2) (oi := Oper.mk (some 21) _ _ _ _ _) (v := .string (mkB a)) rfl (by kernel_rfl) (by kernel_rfl) (by kernel_rfl) (fun _ _ _ h => h) (Or.inl ⟨by rfl, ?_⟩) (by assumption) ?_
  · intro wX hSw
    (try dsimp only at hSw)
    go_simp
  simp only [Act.put, List.setIfInBounds_toArray, List.set_cons_succ, List.set_cons_zero]
  refine wpAnyH_take (i := 4) (oi := Oper.mk (some 23) _ _ _ _ _) (v := .slice (some ⟨g, off, none⟩) 5 cap) rfl (by kernel_rfl) (by kernel_rfl) (by kernel_rfl) (fun _ _ _ h => h) (Or.inl ⟨by rfl, ?_⟩) (by assumption) ?_
  · intro wX hSw
    (try dsimp only at hSw)
    go_simp
  simp only [Act.put, List.setIfInBounds_toArray, List.set_cons_succ, List.set_cons_zero]
  refine wpAnyH_take (i := 5) (oi := Oper.mk (some 24) _ _ _ _ _) (v := .pointer (some ⟨g, off + 2, none⟩)) rfl (by kernel_rfl) (by kernel_rfl) (by kernel_rfl) (fun _ _ _ h => h) (Or.inl ⟨by rfl, ?_⟩) (by assumption) ?_
  · intro wX hSw
    (try dsimp only at hSw)
    go_simp
  simp only [Act.put, List.setIfInBounds_toArray, List.set_cons_succ, List.set_cons_zero]
  refine wpAnyH_take (i := 6) (oi := Oper.mk (some 25) _ _ _ _ _) (v := .string (mkB b)) rfl (by kernel_rfl) (by kernel_rfl) (by kernel_rfl) (fun _ _ _ h => h) (Or.inl ⟨by rfl, ?_⟩) (by assumption) ?_
  · intro wX hSw
    (try dsimp only at hSw)
    go_simp
  simp only [Act.put, List.setIfInBounds_toArray, List.set_cons_succ, List.set_cons_zero]
  refine wpAnyH_take (i := 8) (oi := Oper.mk (some 27) _ _ _ _ _) (v := .slice (some ⟨g, off, none⟩) 5 cap) rfl (by kernel_rfl) (by kernel_rfl) (by kernel_rfl) (fun _ _ _ h => h) (Or.inl ⟨by rfl, ?_⟩) (by assumption) ?_
  · intro wX hSw
    (try dsimp only at hSw)
    go_simp
  simp only [Act.put, List.setIfInBounds_toArray, List.set_cons_succ, List.set_cons_zero]
  refine wpAnyH_take (i := 9) (oi := Oper.mk (some 28) _ _ _ _ _) (v := .pointer (some ⟨g, off + 4, none⟩)) rfl (by kernel_rfl) (by kernel_rfl) (by kernel_rfl) (fun _ _ _ h => h) (Or.inl ⟨by rfl, ?_⟩) (by assumption) ?_
  · intro wX hSw
    (try dsimp only at hSw)
    go_simp
  simp only [Act.put, List.setIfInBounds_toArray, List.set_cons_succ, List.set_cons_zero]
  refine wpAnyH_take (i := 10) (oi := Oper.mk (some 29) _ _ _ _ _) (v := .string (mkB d)) rfl (by kernel_rfl) (by kernel_rfl) (by kernel_rfl) (fun _ _ _ h => h) (Or.inl ⟨by rfl, ?_⟩) (by assumption) ?_
  · intro wX hSw
    (try dsimp only at hSw)
    go_simp
  simp only [Act.put, List.setIfInBounds_toArray, List.set_cons_succ, List.set_cons_zero]
  refine wpAnyH_ready (rs := [3]) (by kernel_rfl) (by simp) ?_
  refine AllReadyH.cons (o := Oper.mk (some 22) _ _ _ _ _) rfl (fun K hK => ?_) AllReadyH.nil
  go_simp
  refine (C0.out _ b0).mono ?_
  rintro e v1 ⟨rfl, b1, q00, q01, q02⟩
  refine hK.out _ _ ?_ (fun hHeld => ?_)
  · (try dsimp only)
    go_keep
  clear hK K
  refine wpAnyH_ready (rs := [7]) (by kernel_rfl) (by simp) ?_
  refine AllReadyH.cons (o := Oper.mk (some 26) _ _ _ _ _) rfl (fun K hK => ?_) AllReadyH.nil
  go_simp
  refine (C1.out _ b1).mono ?_
  rintro e v2 ⟨rfl, b2⟩
  exact ⟨rfl, Ans.panic rfl (HB.out.trans (b2.out.mono HB.out.size))⟩

set_option maxHeartbeats 1000000 in
theorem ent_0 (g off cap : Nat) (a b d : Tok) (h0 : catT a = none) (w : World) (hv : TokV w g off cap [a, [43], b, [58], d] (.slice (some ⟨g, off, none⟩) 5 cap)) :
    Calls Tryz.prog 109 #[.slice (some ⟨g, off, none⟩) 5 cap] w (Ans (none : Option ((Nat × Nat) × Nat)) IsEntry w) := by
  have BR := hide (Blk.newAt w w.heap.size rfl #[.int .i64 0, .int .i64 0, .int .i64 0] 135)
  have HB : Hid (Below w.heap.size w (w.alloc (.cells #[.int .i64 0, .int .i64 0, .int .i64 0] 135))) := (Below.refl w.heap.size w).alloc (Nat.le_refl _) _
  have HT := hide (hv.below HB.out)
  have hcap : 5 ≤ cap := hv.2.1
  have hcm : cap ≤ 9223372036854775807 := hv.2.2.1
  have hgn : ¬ g = w.heap.size := by have := hv.2.2.2.1; omega
  have hgm : ¬ w.heap.size = g := by have := hv.2.2.2.1; omega
  have r0 := HT.out.cell 0 _ rfl
  have r1 := HT.out.cell 1 _ rfl
  have r2 := HT.out.cell 2 _ rfl
  have r3 := HT.out.cell 3 _ rfl
  have r4 := HT.out.cell 4 _ rfl
  rw [Nat.add_zero] at r0
  rw [show mkB [43] = ⟨#[43]⟩ from rfl] at r1
  rw [show mkB [58] = ⟨#[58]⟩ from rfl] at r3
  have HLT := hide (HT.out.2.2.2.1)
  have HC : Hid (∀ w', Below (w.alloc (.cells #[.int .i64 0, .int .i64 0, .int .i64 0] 135)).heap.size (w.alloc (.cells #[.int .i64 0, .int .i64 0, .int .i64 0] 135)) w' → w'.cell? ⟨g, off, none⟩ = some (.string (mkB a)) ∧ w'.cell? ⟨g, off + 2, none⟩ = some (.string (mkB b)) ∧ w'.cell? ⟨g, off + 4, none⟩ = some (.string (mkB d))) := fun w' hb => ⟨(hb.cell (p := ⟨g, off, none⟩) HLT.out).trans r0, (hb.cell (p := ⟨g, off + 2, none⟩) HLT.out).trans r2, (hb.cell (p := ⟨g, off + 4, none⟩) HLT.out).trans r4⟩
  have b0 : Hid (Below (w.alloc (.cells #[.int .i64 0, .int .i64 0, .int .i64 0] 135)).heap.size (w.alloc (.cells #[.int .i64 0, .int .i64 0, .int .i64 0] 135)) (w.alloc (.cells #[.int .i64 0, .int .i64 0, .int .i64 0] 135)).drew) := bdrewD (w.alloc (.cells #[.int .i64 0, .int .i64 0, .int .i64 0] 135))
  have C0 : Hid (∀ X, Hid (Below (w.alloc (.cells #[.int .i64 0, .int .i64 0, .int .i64 0] 135)).heap.size (w.alloc (.cells #[.int .i64 0, .int .i64 0, .int .i64 0] 135)) X) → Calls Tryz.prog 150 #[.string (mkB a)] X fun e w' => e = .panicked PC ∧ Hid (Below (w.alloc (.cells #[.int .i64 0, .int .i64 0, .int .i64 0] 135)).heap.size (w.alloc (.cells #[.int .i64 0, .int .i64 0, .int .i64 0] 135)) w')) := by
    intro X bX
    refine (readCategory_is a X h0).mono ?_
    rintro e w' ⟨hb, rfl⟩
    exact ⟨rfl, bX.out.trans (hb.mono bX.out.size)⟩
  clear hv HT HC HLT h0 hgn hgm
  go_enter Tryz.func109, Tryz.ntmps109
  go_wp2_with fail
  refine wp_region_held_drew (S := (fun w' => w'.cell? ⟨g, off, none⟩ = some (.string (mkB a)) ∧ w'.cell? ⟨g, off + 2, none⟩ = some (.string (mkB b)) ∧ w'.cell? ⟨g, off + 4, none⟩ = some (.string (mkB d)))) (by kernel_rfl) ?_ (fun hHeld => ?_)
  · (try dsimp only)
    go_keep
  refine wpAnyH_take (i := 0) (oi := Oper.mk (some 19) _ _ _ _ _) (v := .slice (some ⟨g, off, none⟩) 5 cap) rfl (by kernel_rfl) (by kernel_rfl) (by kernel_rfl) (fun _ _ _ h => h) (Or.inl ⟨by rfl, ?_⟩) (by assumption) ?_
  · intro wX hSw
    (try dsimp only at hSw)
    go_simp
  simp only [Act.put, List.setIfInBounds_toArray, List.set_cons_succ, List.set_cons_zero]
  refine wpAnyH_take (i := 1) (oi := Oper.mk (some 20) _ _ _ _ _) (v := .pointer (some ⟨g, off, none⟩)) rfl (by kernel_rfl) (by kernel_rfl) (by kernel_rfl) (fun _ _ _ h => h) (Or.inl ⟨by rfl, ?_⟩) (by assumption) ?_
  · intro wX hSw
    (try dsimp only at hSw)
    go_simp
  simp only [Act.put, List.setIfInBounds_toArray, List.set_cons_succ, List.set_cons_zero]
  refine wpAnyH_take (i := 2) (oi := Oper.mk (some 21) _ _ _ _ _) (v := .string (mkB a)) rfl (by kernel_rfl) (by kernel_rfl) (by kernel_rfl) (fun _ _ _ h => h) (Or.inl ⟨by rfl, ?_⟩) (by assumption) ?_
  · intro wX hSw
    (try dsimp only at hSw)
    go_simp
  simp only [Act.put, List.setIfInBounds_toArray, List.set_cons_succ, List.set_cons_zero]
  refine wpAnyH_take (i := 4) (oi := Oper.mk (some 23) _ _ _ _ _) (v := .slice (some ⟨g, off, none⟩) 5 cap) rfl (by kernel_rfl) (by kernel_rfl) (by kernel_rfl) (fun _ _ _ h => h) (Or.inl ⟨by rfl, ?_⟩) (by assumption) ?_
  · intro wX hSw
    (try dsimp only at hSw)
    go_simp
  simp only [Act.put, List.setIfInBounds_toArray, List.set_cons_succ, List.set_cons_zero]
  refine wpAnyH_take (i := 5) (oi := Oper.mk (some 24) _ _ _ _ _) (v := .pointer (some ⟨g, off + 2, none⟩)) rfl (by kernel_rfl) (by kernel_rfl) (by kernel_rfl) (fun _ _ _ h => h) (Or.inl ⟨by rfl, ?_⟩) (by assumption) ?_
  · intro wX hSw
    (try dsimp only at hSw)
    go_simp
  simp only [Act.put, List.setIfInBounds_toArray, List.set_cons_succ, List.set_cons_zero]
  refine wpAnyH_take (i := 6) (oi := Oper.mk (some 25) _ _ _ _ _) (v := .string (mkB b)) rfl (by kernel_rfl) (by kernel_rfl) (by kernel_rfl) (fun _ _ _ h => h) (Or.inl ⟨by rfl, ?_⟩) (by assumption) ?_
  · intro wX hSw
    (try dsimp only at hSw)
    go_simp
  simp only [Act.put, List.setIfInBounds_toArray, List.set_cons_succ, List.set_cons_zero]
  refine wpAnyH_take (i := 8) (oi := Oper.mk (some 27) _ _ _ _ _) (v := .slice (some ⟨g, off, none⟩) 5 cap) rfl (by kernel_rfl) (by kernel_rfl) (by kernel_rfl) (fun _ _ _ h => h) (Or.inl ⟨by rfl, ?_⟩) (by assumption) ?_
  · intro wX hSw
    (try dsimp only at hSw)
    go_simp
  simp only [Act.put, List.setIfInBounds_toArray, List.set_cons_succ, List.set_cons_zero]
  refine wpAnyH_take (i := 9) (oi := Oper.mk (some 28) _ _ _ _ _) (v := .pointer (some ⟨g, off + 4, none⟩)) rfl (by kernel_rfl) (by kernel_rfl) (by kernel_rfl) (fun _ _ _ h => h) (Or.inl ⟨by rfl, ?_⟩) (by assumption) ?_
  · intro wX hSw
    (try dsimp only at hSw)
    go_simp
  simp only [Act.put, List.setIfInBounds_toArray, List.set_cons_succ, List.set_cons_zero]
  refine wpAnyH_take (i := 10) (oi := Oper.mk (some 29) _ _ _ _ _) (v := .string (mkB d)) rfl (by kernel_rfl) (by kernel_rfl) (by kernel_rfl) (fun _ _ _ h => h) (Or.inl ⟨by rfl, ?_⟩) (by assumption) ?_
  · intro wX hSw
    (try dsimp only at hSw)
    go_simp
  simp only [Act.put, List.setIfInBounds_toArray, List.set_cons_succ, List.set_cons_zero]
  refine wpAnyH_ready (rs := [3]) (by kernel_rfl) (by simp) ?_
  refine AllReadyH.cons (o := Oper.mk (some 22) _ _ _ _ _) rfl (fun K hK => ?_) AllReadyH.nil
  go_simp
  refine (C0.out _ b0).mono ?_
  rintro e v1 ⟨rfl, b1⟩
  exact ⟨rfl, Ans.panic rfl (HB.out.trans (b1.out.mono HB.out.size))⟩

theorem readEntry_any (g off cap : Nat) (ts : List Tok) (v : Value) (w : World) (hv : TokV w g off cap ts v) : Calls Tryz.prog 109 #[v] w (Ans (entryT ts) IsEntry w) := by
  obtain rfl : v = .slice (some ⟨g, off, none⟩) ts.length cap := hv.1
  match ts, hv with
  | [], hv => exact ent_x _ 0 cap w (by omega)
  | [_], hv => exact ent_x _ 1 cap w (by omega)
  | [_, _], hv => exact ent_x _ 2 cap w (by omega)
  | [_, _, _], hv => exact ent_x _ 3 cap w (by omega)
  | [_, _, _, _], hv => exact ent_x _ 4 cap w (by omega)
  | [a, p, b, c, d], hv =>
    by_cases hp : p = [43]
    · subst hp
      by_cases hc : c = [58]
      · subst hc
        cases h0 : catT a with
        | none => rw [show entryT [a, [43], b, [58], d] = none by simp [entryT, h0]]; exact ent_0 g off cap a b d h0 w hv
        | some x =>
          cases h1 : catT b with
          | none => rw [show entryT [a, [43], b, [58], d] = none by simp [entryT, h0, h1]]; exact ent_1 g off cap a b d x h0 h1 w hv
          | some y =>
            cases h2 : catT d with
            | none => rw [show entryT [a, [43], b, [58], d] = none by simp [entryT, h0, h1, h2]]; exact ent_2 g off cap a b d x y h0 h1 h2 w hv
            | some z => rw [show entryT [a, [43], b, [58], d] = some ((x, y), z) by simp [entryT, h0, h1, h2]]; exact ent_y g off cap a b d x y z h0 h1 h2 w hv
      · rw [show entryT [a, [43], b, c, d] = none by simp [entryT, hc]]; exact ent_c g off cap a b c d hc w hv
    · rw [show entryT [a, p, b, c, d] = none by simp [entryT, hp]]; exact ent_p g off cap a p b c d hp w hv
  | _ :: _ :: _ :: _ :: _ :: _ :: r, hv => exact ent_x _ _ cap w (by simp)

end Go.Proofs.YtkbciljfjijclaaGreatDoor
