/-
  What digits' Pieces answers.
  What quipuref07's digits does.
  What quipuref07's May does.
-/
import Derived.Test.YtbfegnbaleclfaaGreatDoorAB16
import Derived.Test.YtbfegnbaleclfaaGreatDoorAB20
import Derived.Deep.MidRow
namespace Go.Proofs.YtbfegnbaleclfaaGreatDoor
open Go.RowKit

theorem putGroups_none (a b : Value) (c : Nat) (ao : Option Addr) (w : World) : Calls Tryz.prog 13 #[a, .slice ao 0 c, b] w fun e w' => e = .returned (.tuple #[]) ∧ w' = w := by
  go_enter Tryz.func13, Tryz.ntmps13
  go_wp2
  go_loopw [10] (fun q wr => q = .int .i64 0 ∧ wr = w) (fun _ _ => 0)
  case atStart => exact ⟨rfl, rfl⟩
  case round =>
    obtain ⟨rfl, rfl⟩ := hrel
    go_wp2
    go_end0
    exact ⟨rfl, rfl⟩

theorem szG_sum (n : Nat) (first further least : Int) : (szG n first further least).sum = n := by
  have h : ∀ (f a : Nat) (L : List Nat), n - a ≤ f → Rem n first further least a L → L.sum + a = n := by
    intro f
    induction f with
    | zero =>
      intro a L hf h
      have := h.1
      obtain rfl : a = n := by omega
      rw [h.done]; simp
    | succ f ih =>
      intro a L hf h
      by_cases ha : a < n
      · obtain ⟨s, L', rfl, h1, h2, _, h4, _⟩ := h.step ha
        have := ih (a + s) L' (by omega) h4
        rw [List.sum_cons]
        omega
      · have := h.1
        obtain rfl : a = n := by omega
        rw [h.done]; simp
  have := h n 0 _ (by omega) (Rem.start n first further least)
  omega
theorem szG_le (n : Nat) (first further least : Int) : (szG n first further least).length ≤ n := by
  have := (Rem.start n first further least).len
  omega
theorem szG_zero (first further least : Int) : szG 0 first further least = [] := by unfold szG; rw [if_pos rfl]

def GrpsAt (w : World) (B : Nat) (s : Sy) (ds : List UInt8) (L : List Nat) (gv tv : Value) : Prop := ∃ Bt, w.ownsRow Bt 9 1 tv ds.length (cellsD s ds) ∧ ((L = [] ∧ ∃ a c, gv = .slice a 0 c) ∨ ∃ bt ct gg gc, tv = .slice (some ⟨bt, 0, none⟩) ds.length ct ∧ gv = .slice (some ⟨gg, 0, none⟩) L.length gc ∧ w.ownsRow B 55 1 gv L.length (cellsG bt 0 L))

theorem cutG_own {w : World} {Bt nn : Nat} {tv : Value} (s : Sy) (ds : List UInt8) (first further least : Int) (ho : w.ownsRow Bt 9 1 tv nn (cellsD s ds)) (hnn : nn = ds.length) (hn : ds.length ≤ 100000) (hf : first ≤ 9223372036854775807) (hu : further ≤ 9223372036854775807) :
    Calls Tryz.prog 15 #[grpV first further least, tv] w fun e w' => (∃ v, e = .returned v ∧ GrpsAt w' w.heap.size s ds (szG ds.length first further least) v tv) ∧ Below w.heap.size w w' := by
  subst hnn
  by_cases h0 : ds.length = 0
  · obtain ⟨ao, cap, hv⟩ := ownD_slice ho
    have hc := cutG_nil ao cap first further least w
    rw [h0] at hv
    rw [hv]
    refine hc.mono ?_
    rintro e w' ⟨h1, hb⟩
    refine ⟨⟨_, h1, Bt, by rw [← hv]; exact ownD_below ho hb, .inl ⟨by rw [h0]; exact szG_zero _ _ _, _, _, rfl⟩⟩, hb⟩
  · obtain ⟨bt, ct, hv, _, _, h3⟩ := ownD_some ho h0
    rw [hv]
    refine (cutG_any bt ds.length ct first further least w hn h3 hf hu).mono ?_
    rintro e w' ⟨⟨v, h1, h2⟩, hb⟩
    refine ⟨⟨v, h1, Bt, by rw [← hv]; exact ownD_below ho hb, ?_⟩, hb⟩
    by_cases hL : (szG ds.length first further least).length = 0
    · obtain ⟨a, c, hh⟩ := ownD_slice h2
      exact .inl ⟨List.eq_nil_of_length_eq_zero hL, a, c, by rw [hh, hL]⟩
    · obtain ⟨gg, gc, hg, _⟩ := ownD_some h2 hL
      exact .inr ⟨bt, ct, gg, gc, rfl, hg, h2⟩

theorem putGroups_own {w : World} {D B : Nat} {v gv tv : Value} (ps : List Pc) (s : Sy) (ds : List UInt8) (L : List Nat) (h : RowV w D v ps) (hL : L.sum = ds.length) (hl : ds.length ≤ 100000) (hLn : L.length ≤ 100000) (hps : ps.length ≤ 100000) (hw : (wrL s ds).length ≤ 140737488355328) (hG : GrpsAt w B s ds L gv tv) :
    Calls Tryz.prog 13 #[.pointer (some ⟨D, 0, none⟩), gv, .string s.grp] w fun e w' => e = .returned (.tuple #[]) ∧ (∃ v', RowV w' D v' (ps ++ intP s L ds)) ∧ Below D w w' ∧ KD w w' := by
  obtain ⟨Bt, ho, ⟨rfl, a, c, rfl⟩ | ⟨bt, ct, gg, gc, rfl, rfl, hg⟩⟩ := hG
  · refine (putGroups_none _ _ c a w).mono ?_
    rintro e w' ⟨h1, rfl⟩
    exact ⟨h1, ⟨v, by rw [intP, List.append_nil]; exact h⟩, Below.refl _ _, KD.refl _⟩
  · exact putGroups_some ps s ds L bt ct gg gc Bt B h hL hl hLn hps hw hg ho


theorem shown6 {w : World} {b : Nat} {c x : Int} {n cm : Bool} {ti tf : ByteArray} (h : Blk w b #[.int .i64 c, .bool n, .string ti, .string tf, .int .i64 x, .bool cm] 23) : w.cell? ⟨b, 0, none⟩ = some (.int .i64 c) ∧ w.cell? ⟨b, 1, none⟩ = some (.bool n) ∧ w.cell? ⟨b, 2, none⟩ = some (.string ti) ∧ w.cell? ⟨b, 3, none⟩ = some (.string tf) ∧ w.cell? ⟨b, 4, none⟩ = some (.int .i64 x) ∧ w.cell? ⟨b, 5, none⟩ = some (.bool cm) := ⟨h.cell 0, h.cell 1, h.cell 2, h.cell 3, h.cell 4, h.cell 5⟩
theorem sym21 {w : World} {b : Nat} {s : Sy} (h : Blk w b (symC s) 26) : w.cell? ⟨b, 0, none⟩ = some (.string s.d0) ∧ w.cell? ⟨b, 1, none⟩ = some (.string s.d1) ∧ w.cell? ⟨b, 2, none⟩ = some (.string s.d2) ∧ w.cell? ⟨b, 3, none⟩ = some (.string s.d3) ∧ w.cell? ⟨b, 4, none⟩ = some (.string s.d4) ∧ w.cell? ⟨b, 5, none⟩ = some (.string s.d5) ∧ w.cell? ⟨b, 6, none⟩ = some (.string s.d6) ∧ w.cell? ⟨b, 7, none⟩ = some (.string s.d7) ∧ w.cell? ⟨b, 8, none⟩ = some (.string s.d8) ∧ w.cell? ⟨b, 9, none⟩ = some (.string s.d9) ∧ w.cell? ⟨b, 10, none⟩ = some (.string s.dec) ∧ w.cell? ⟨b, 11, none⟩ = some (.string s.grp) ∧ w.cell? ⟨b, 12, none⟩ = some (.string s.min) ∧ w.cell? ⟨b, 13, none⟩ = some (.string s.plu) ∧ w.cell? ⟨b, 14, none⟩ = some (.string s.pct) ∧ w.cell? ⟨b, 15, none⟩ = some (.string s.pml) ∧ w.cell? ⟨b, 16, none⟩ = some (.string s.exp) ∧ w.cell? ⟨b, 17, none⟩ = some (.string s.inf) ∧ w.cell? ⟨b, 18, none⟩ = some (.string s.nan) ∧ w.cell? ⟨b, 19, none⟩ = some (.string s.app) ∧ w.cell? ⟨b, 20, none⟩ = some (.string s.rng) := ⟨h.cell 0, h.cell 1, h.cell 2, h.cell 3, h.cell 4, h.cell 5, h.cell 6, h.cell 7, h.cell 8, h.cell 9, h.cell 10, h.cell 11, h.cell 12, h.cell 13, h.cell 14, h.cell 15, h.cell 16, h.cell 17, h.cell 18, h.cell 19, h.cell 20⟩


theorem Blk.range {w : World} {b : Nat} {cs : Array Value} {t : TypeId} (h : Blk w b cs t) : w.rangeAt b 0 cs.toList := fun j v hj => by
  rw [Nat.zero_add, h.cell j]
  simpa using hj
theorem symInfo : (Tryz.prog.info? 26).map (·.size) = some 21 := by kernel_rfl
theorem valueS_err (y : ShownT) : (valueS y).2 = 71 ↔ ¬ MayS y := by
  unfold valueS
  by_cases h : MayS y
  · rw [if_neg (fun g => g h)]
    refine ⟨fun e => ?_, fun g => absurd h g⟩
    split at e
    · cases e
    · unfold tellF at e
      split at e <;> cases e
  · rw [if_pos h]
    exact ⟨fun _ => h, fun _ => rfl⟩

set_option maxRecDepth 100000 in
set_option maxHeartbeats 4000000 in
theorem pieces_no (c : Int) (n : Bool) (ti tf : ByteArray) (x : Int) (cm : Bool) (s : Sy) (first further least : Int) (al : Bool) (w : World) (htab : Tab w) (h : ¬ MayS ⟨c, n, bys ti, bys tf, x, cm⟩) :
    Calls Tryz.prog 9 #[shV c n ti tf x cm, symV s, .int .i64 first, .int .i64 further, .int .i64 least, .bool al] w fun e w' => e = .returned (.slice none 0 0) ∧ Below w.heap.size w w' := by
  have H1 := hide (Value_any c n ti tf x cm)
  obtain ⟨W, hW⟩ : ∃ W, W = (w.alloc (.cells #[.int .i64 c, .bool n, .string ti, .string tf, .int .i64 x, .bool cm] 23)).alloc (.cells (symC s) 26) := ⟨_, rfl⟩
  have BX0 := hide (show Blk W w.heap.size #[.int .i64 c, .bool n, .string ti, .string tf, .int .i64 x, .bool cm] 23 by rw [hW]; exact (Blk.newAt w w.heap.size rfl _ _).alloc _)
  have BY0 := hide (show Blk W (w.heap.size + 1) (symC s) 26 by rw [hW]; exact Blk.newAt _ _ (by simp) _ _)
  have HB0 : Hid (Below w.heap.size w W) := hide (by rw [hW]; exact ((Below.refl _ _).alloc (Nat.le_refl _) _).alloc (by simp) _)
  have H2 := hide (H1.out W (htab.below HB0.out))
  unfold symC at hW
  have HW := hide hW.symm
  clear hW H1
  have he := (valueS_err _).2 h
  generalize valueS ⟨c, n, bys ti, bys tf, x, cm⟩ = VS at *
  obtain ⟨d, er⟩ := VS
  simp only at he
  subst he
  unfold decErr decVal at H2
  simp only at H2
  unfold symV symC
  clear h htab
  go_enter Tryz.func9, Tryz.ntmps9
  obtain ⟨x_0, x_1, x_2, x_3, x_4, x_5⟩ := shown6 BX0.out
  go_wp2_with (simp only [HW.out])
  refine H2.out.mono ?_
  rintro e w0 ⟨rfl, hb⟩
  clear x_0 x_1 x_2 x_3 x_4 x_5
  have HB1 : Hid (∀ o, Below w.heap.size w (w0.alloc o)) := hide (fun o => (HB0.out.trans (hb.mono HB0.out.size)).alloc (HB0.out.trans (hb.mono HB0.out.size)).size _)
  clear hb
  go_wp2
  go_ret
  exact ⟨rfl, HB1.out _⟩


set_option maxRecDepth 100000 in
set_option maxHeartbeats 4000000 in
theorem pieces_inf (n : Bool) (ti tf : ByteArray) (x : Int) (cm : Bool) (s : Sy) (first further least : Int) (al : Bool) (w : World) (htab : Tab w) (h : MayS ⟨1, n, bys ti, bys tf, x, cm⟩) :
    Calls Tryz.prog 9 #[shV 1 n ti tf x cm, symV s, .int .i64 first, .int .i64 further, .int .i64 least, .bool al] w fun e w' => (∃ v, e = .returned v ∧ w'.ownsRow w.heap.size 36 2 v (oneP s.inf 2).length (cellsP (oneP s.inf 2))) ∧ Below w.heap.size w w' := by
  have H1 := hide (Value_any 1 n ti tf x cm)
  obtain ⟨W, hW⟩ : ∃ W, W = (w.alloc (.cells #[.int .i64 1, .bool n, .string ti, .string tf, .int .i64 x, .bool cm] 23)).alloc (.cells (symC s) 26) := ⟨_, rfl⟩
  have BX0 := hide (show Blk W w.heap.size #[.int .i64 1, .bool n, .string ti, .string tf, .int .i64 x, .bool cm] 23 by rw [hW]; exact (Blk.newAt w w.heap.size rfl _ _).alloc _)
  have BY0 := hide (show Blk W (w.heap.size + 1) (symC s) 26 by rw [hW]; exact Blk.newAt _ _ (by simp) _ _)
  have HB0 : Hid (Below w.heap.size w W) := hide (by rw [hW]; exact ((Below.refl _ _).alloc (Nat.le_refl _) _).alloc (by simp) _)
  have H2 := hide (H1.out W (htab.below HB0.out))
  unfold symC at hW
  have HW := hide hW.symm
  clear hW H1
  have he := fun g => (valueS_err _).1 g h
  clear h
  generalize valueS ⟨1, n, bys ti, bys tf, x, cm⟩ = VS at *
  obtain ⟨d, er⟩ := VS
  simp only at he
  have he1 : (er == 71) = false := beq_eq_false_iff_ne.2 he
  unfold decErr decVal at H2
  simp only at H2
  unfold symV symC
  clear htab
  go_enter Tryz.func9, Tryz.ntmps9
  obtain ⟨x_0, x_1, x_2, x_3, x_4, x_5⟩ := shown6 BX0.out
  go_wp2_with (simp only [HW.out])
  refine H2.out.mono ?_
  rintro e w0 ⟨rfl, hb0⟩
  clear x_0 x_1 x_2 x_3 x_4 x_5
  obtain ⟨w1, hw1⟩ : ∃ w1, w1 = w0.alloc (.cells #[.int .i64 d.cls, .bool d.neg, .string ⟨d.dig.toArray⟩, .int .i64 d.exp] 43) := ⟨_, rfl⟩
  have hb : Below W.heap.size W w1 := by rw [hw1]; exact hb0.alloc hb0.size _
  have BX1 := Blk.on BX0 hb
  have BY1 := Blk.on BY0 hb
  have HB1 := hide (HB0.out.trans (hb.mono HB0.out.size))
  have HW1 := hide hw1.symm
  clear hw1 hb0
  have hD : w.heap.size + 1 < w1.heap.size := BY1.out.lt
  obtain ⟨W2, hW2⟩ : ∃ W2, W2 = w1.alloc (.cells #[.slice none 0 0] 47) := ⟨_, rfl⟩
  have BB2 : Hid (Below w1.heap.size w1 W2) := hide (by rw [hW2]; exact (Below.refl _ _).alloc (Nat.le_refl _) _)
  have BX2 := Blk.on BX1 BB2.out
  have BY2 := Blk.on BY1 BB2.out
  have HB2 := hide (HB1.out.trans (BB2.out.mono HB1.out.size))
  have R2 : Hid (RowV W2 w1.heap.size (.slice none 0 0) []) := hide ⟨by rw [hW2]; exact Blk.newAt w1 w1.heap.size rfl _ _, World.ownsRow_nil _ _ _ _⟩
  have HW2 := hide hW2.symm
  clear hW2 hb BX0 BY0 HB0 H2 BB2 BX1 BY1 HB1 HW
  obtain ⟨x_0, x_1, x_2, x_3, x_4, x_5⟩ := shown6 BX2.out
  obtain ⟨y_0, y_1, y_2, y_3, y_4, y_5, y_6, y_7, y_8, y_9, y_10, y_11, y_12, y_13, y_14, y_15, y_16, y_17, y_18, y_19, y_20⟩ := sym21 BY2.out
  go_wp2_with (first | simp only [HW1.out] | simp only [HW2.out])
  refine (put_any [] s.inf 2 R2.out (by simp)).mono ?_
  rintro e w3 ⟨rfl, ⟨v3, hv3⟩, hb3, _⟩
  have HB3 := hide ((HB2.out.trans (hb3.mono (by omega))))
  have R3 := hide hv3
  have d3 := R3.out.1.cell 0
  clear hv3 hb3 x_0 x_1 x_2 x_3 x_4 x_5 y_0 y_1 y_2 y_3 y_4 y_5 y_6 y_7 y_8 y_9 y_10 y_11 y_12 y_13 y_14 y_15 y_16 y_17 y_18 y_19 y_20 BX2 BY2 R2 HB2
  go_wp2
  go_ret
  exact ⟨⟨_, rfl, ownD_mono R3.out.2 (by omega)⟩, HB3.out⟩


set_option maxRecDepth 100000 in
set_option maxHeartbeats 4000000 in
theorem pieces_nan (n : Bool) (ti tf : ByteArray) (x : Int) (cm : Bool) (s : Sy) (first further least : Int) (al : Bool) (w : World) (htab : Tab w) (h : MayS ⟨2, n, bys ti, bys tf, x, cm⟩) :
    Calls Tryz.prog 9 #[shV 2 n ti tf x cm, symV s, .int .i64 first, .int .i64 further, .int .i64 least, .bool al] w fun e w' => (∃ v, e = .returned v ∧ w'.ownsRow w.heap.size 36 2 v (oneP s.nan 2).length (cellsP (oneP s.nan 2))) ∧ Below w.heap.size w w' := by
  have H1 := hide (Value_any 2 n ti tf x cm)
  obtain ⟨W, hW⟩ : ∃ W, W = (w.alloc (.cells #[.int .i64 2, .bool n, .string ti, .string tf, .int .i64 x, .bool cm] 23)).alloc (.cells (symC s) 26) := ⟨_, rfl⟩
  have BX0 := hide (show Blk W w.heap.size #[.int .i64 2, .bool n, .string ti, .string tf, .int .i64 x, .bool cm] 23 by rw [hW]; exact (Blk.newAt w w.heap.size rfl _ _).alloc _)
  have BY0 := hide (show Blk W (w.heap.size + 1) (symC s) 26 by rw [hW]; exact Blk.newAt _ _ (by simp) _ _)
  have HB0 : Hid (Below w.heap.size w W) := hide (by rw [hW]; exact ((Below.refl _ _).alloc (Nat.le_refl _) _).alloc (by simp) _)
  have H2 := hide (H1.out W (htab.below HB0.out))
  unfold symC at hW
  have HW := hide hW.symm
  clear hW H1
  have he := fun g => (valueS_err _).1 g h
  clear h
  generalize valueS ⟨2, n, bys ti, bys tf, x, cm⟩ = VS at *
  obtain ⟨d, er⟩ := VS
  simp only at he
  have he1 : (er == 71) = false := beq_eq_false_iff_ne.2 he
  unfold decErr decVal at H2
  simp only at H2
  unfold symV symC
  clear htab
  go_enter Tryz.func9, Tryz.ntmps9
  obtain ⟨x_0, x_1, x_2, x_3, x_4, x_5⟩ := shown6 BX0.out
  go_wp2_with (simp only [HW.out])
  refine H2.out.mono ?_
  rintro e w0 ⟨rfl, hb0⟩
  clear x_0 x_1 x_2 x_3 x_4 x_5
  obtain ⟨w1, hw1⟩ : ∃ w1, w1 = w0.alloc (.cells #[.int .i64 d.cls, .bool d.neg, .string ⟨d.dig.toArray⟩, .int .i64 d.exp] 43) := ⟨_, rfl⟩
  have hb : Below W.heap.size W w1 := by rw [hw1]; exact hb0.alloc hb0.size _
  have BX1 := Blk.on BX0 hb
  have BY1 := Blk.on BY0 hb
  have HB1 := hide (HB0.out.trans (hb.mono HB0.out.size))
  have HW1 := hide hw1.symm
  clear hw1 hb0
  have hD : w.heap.size + 1 < w1.heap.size := BY1.out.lt
  obtain ⟨W2, hW2⟩ : ∃ W2, W2 = w1.alloc (.cells #[.slice none 0 0] 47) := ⟨_, rfl⟩
  have BB2 : Hid (Below w1.heap.size w1 W2) := hide (by rw [hW2]; exact (Below.refl _ _).alloc (Nat.le_refl _) _)
  have BX2 := Blk.on BX1 BB2.out
  have BY2 := Blk.on BY1 BB2.out
  have HB2 := hide (HB1.out.trans (BB2.out.mono HB1.out.size))
  have R2 : Hid (RowV W2 w1.heap.size (.slice none 0 0) []) := hide ⟨by rw [hW2]; exact Blk.newAt w1 w1.heap.size rfl _ _, World.ownsRow_nil _ _ _ _⟩
  have HW2 := hide hW2.symm
  clear hW2 hb BX0 BY0 HB0 H2 BB2 BX1 BY1 HB1 HW
  obtain ⟨x_0, x_1, x_2, x_3, x_4, x_5⟩ := shown6 BX2.out
  obtain ⟨y_0, y_1, y_2, y_3, y_4, y_5, y_6, y_7, y_8, y_9, y_10, y_11, y_12, y_13, y_14, y_15, y_16, y_17, y_18, y_19, y_20⟩ := sym21 BY2.out
  go_wp2_with (first | simp only [HW1.out] | simp only [HW2.out])
  refine (put_any [] s.nan 2 R2.out (by simp)).mono ?_
  rintro e w3 ⟨rfl, ⟨v3, hv3⟩, hb3, _⟩
  have HB3 := hide ((HB2.out.trans (hb3.mono (by omega))))
  have R3 := hide hv3
  have d3 := R3.out.1.cell 0
  clear hv3 hb3 x_0 x_1 x_2 x_3 x_4 x_5 y_0 y_1 y_2 y_3 y_4 y_5 y_6 y_7 y_8 y_9 y_10 y_11 y_12 y_13 y_14 y_15 y_16 y_17 y_18 y_19 y_20 BX2 BY2 R2 HB2
  go_wp2
  go_ret
  exact ⟨⟨_, rfl, ownD_mono R3.out.2 (by omega)⟩, HB3.out⟩


structure PcS (b : Nat) (ti sg : ByteArray) (SC : Array Value) (w : World) : Prop where
  rng : w.rangeAt (b + 1) 0 SC.toList
  int : w.cell? ⟨b, 2, none⟩ = some (.string ti)
  grp : w.cell? ⟨b + 1, 11, none⟩ = some (.string sg)

set_option maxRecDepth 100000 in
set_option maxHeartbeats 16000000 in
theorem pieces_fin (n : Bool) (ti tf : ByteArray) (x : Int) (cm : Bool) (s : Sy) (first further least : Int) (al : Bool) (w : World) (htab : Tab w) (h : MayS ⟨0, n, bys ti, bys tf, x, cm⟩) (hf : first ≤ 9223372036854775807) (hu : further ≤ 9223372036854775807) (hwi : (wrL s (bys ti)).length ≤ 140737488355328) (hwf : (wrL s (bys tf)).length ≤ 140737488355328) :
    Calls Tryz.prog 9 #[shV 0 n ti tf x cm, symV s, .int .i64 first, .int .i64 further, .int .i64 least, .bool al] w fun e w' => (∃ v, e = .returned v ∧ w'.ownsRow w.heap.size 36 2 v (intP s (szG (bys ti).length first further least) (bys ti) ++ fraP s ⟨0, n, bys ti, bys tf, x, cm⟩ al).length (cellsP (intP s (szG (bys ti).length first further least) (bys ti) ++ fraP s ⟨0, n, bys ti, bys tf, x, cm⟩ al))) ∧ Below w.heap.size w w' := by
  have H1 := hide (Value_any 0 n ti tf x cm)
  have he := fun g => (valueS_err _).1 g h
  obtain ⟨hdi, hdf, hli, hlf⟩ : DigB (bys ti) ∧ DigB (bys tf) ∧ ti.size ≤ 4096 ∧ tf.size ≤ 4096 := by
    obtain ⟨_, ⟨_, _, ⟨h1, h2⟩, ⟨h3, h4⟩⟩ | ⟨h1, _⟩ | ⟨h1, _⟩⟩ := h
    · simp only [bys_len] at h1 h2 h3 h4
      exact ⟨h2, h4, h1, h3⟩
    · exact absurd (show (0 : Int) = 1 from h1) (by decide)
    · exact absurd (show (0 : Int) = 2 from h1) (by decide)
  obtain ⟨SC, hSC⟩ : ∃ SC, SC = symC s := ⟨_, rfl⟩
  obtain ⟨W, hW⟩ : ∃ W, W = (w.alloc (.cells #[.int .i64 0, .bool n, .string ti, .string tf, .int .i64 x, .bool cm] 23)).alloc (.cells SC 26) := ⟨_, rfl⟩
  have BX0 := hide (show Blk W w.heap.size #[.int .i64 0, .bool n, .string ti, .string tf, .int .i64 x, .bool cm] 23 by rw [hW]; exact (Blk.newAt w w.heap.size rfl _ _).alloc _)
  have BY0 := hide (show Blk W (w.heap.size + 1) SC 26 by rw [hW]; exact Blk.newAt _ _ (by simp) _ _)
  have HB0 : Hid (Below w.heap.size w W) := hide (by rw [hW]; exact ((Below.refl _ _).alloc (Nat.le_refl _) _).alloc (by simp) _)
  have H2 := hide (H1.out W (htab.below HB0.out))
  have HW := hide hW.symm
  have SL : SC.toList.length = 21 := by rw [hSC]; rfl
  have C10 : Hid (SC[10]? = some (.string s.dec) ∧ SC[11]? = some (.string s.grp)) := hide (by rw [hSC]; exact ⟨rfl, rfl⟩)
  have SI : (Tryz.prog.info? 26).map (·.size) = some SC.toList.length := by rw [SL]; exact symInfo
  obtain ⟨SZ, hSZ⟩ : ∃ SZ, SZ = szG (bys ti).length first further least := ⟨_, rfl⟩
  have SZs : Hid (SZ.sum = (bys ti).length ∧ SZ.length ≤ 4096) := hide (by rw [hSZ]; exact ⟨szG_sum _ _ _ _, Nat.le_trans (szG_le _ _ _ _) (by rw [bys_len]; exact hli)⟩)
  obtain ⟨P1, hP1⟩ : ∃ P1, P1 = intP s SZ (bys ti) := ⟨_, rfl⟩
  have hP1l : P1.length ≤ 8192 := by have := intP_len s SZ (bys ti); rw [← hP1] at this; have := SZs.out.2; omega
  rw [← hSZ, ← hP1]
  have WR : Hid (∀ (t : ByteArray) X, DigB (bys t) → t.size ≤ 4096 → Calls Tryz.prog 16 #[.string t, .agg SC] X fun e w' => (∃ v, e = .returned v ∧ ∃ B, w'.ownsRow B 9 1 v t.size (cellsD s (bys t))) ∧ Below X.heap.size X w') := hide (fun t X h1 h2 => by
    rw [hSC]
    exact (written_any t s X h1 (by omega)).mono fun e w' ⟨⟨v, q1, q2⟩, q3⟩ => ⟨⟨v, q1, _, q2⟩, q3⟩)
  have EV : symV s = .agg SC := by rw [hSC]; rfl
  rw [EV]
  clear h hW H1 EV SL hSC
  generalize valueS ⟨0, n, bys ti, bys tf, x, cm⟩ = VS at *
  obtain ⟨d, er⟩ := VS
  simp only at he
  have he1 : (er == 71) = false := beq_eq_false_iff_ne.2 he
  unfold decErr decVal at H2
  simp only at H2
  clear htab
  go_enter Tryz.func9, Tryz.ntmps9
  obtain ⟨x_0, x_1, x_2, x_3, x_4, x_5⟩ := shown6 BX0.out
  go_wp2_with (simp only [HW.out])
  refine H2.out.mono ?_
  rintro e w0 ⟨rfl, hb0⟩
  clear x_0 x_1 x_2 x_3 x_4 x_5
  obtain ⟨w1, hw1⟩ : ∃ w1, w1 = w0.alloc (.cells #[.int .i64 d.cls, .bool d.neg, .string ⟨d.dig.toArray⟩, .int .i64 d.exp] 43) := ⟨_, rfl⟩
  have hb : Below W.heap.size W w1 := by rw [hw1]; exact hb0.alloc hb0.size _
  have BX1 := Blk.on BX0 hb
  have BY1 := Blk.on BY0 hb
  have HB1 := hide (HB0.out.trans (hb.mono HB0.out.size))
  have HW1 := hide hw1.symm
  have hD : w.heap.size + 1 < w1.heap.size := BY1.out.lt
  obtain ⟨W2, hW2⟩ : ∃ W2, W2 = w1.alloc (.cells #[.slice none 0 0] 47) := ⟨_, rfl⟩
  have BB2 : Hid (Below w1.heap.size w1 W2) := hide (by rw [hW2]; exact (Below.refl _ _).alloc (Nat.le_refl _) _)
  have BX2 := Blk.on BX1 BB2.out
  have BY2 := Blk.on BY1 BB2.out
  have HB2 := hide (HB1.out.trans (BB2.out.mono HB1.out.size))
  have R2 : Hid (RowV W2 w1.heap.size (.slice none 0 0) []) := hide ⟨by rw [hW2]; exact Blk.newAt w1 w1.heap.size rfl _ _, World.ownsRow_nil _ _ _ _⟩
  have HW2 := hide hW2.symm
  clear hW2 hw1 hb0 hb BX0 BY0 HB0 H2 BB2 BX1 BY1 HB1 HW
  have KS : Hid (∀ w', Below W2.heap.size W2 w' → PcS w.heap.size ti s.grp SC w') := hide (fun w' hb => by
    have BXq := BX2.out.below hb BX2.out.lt
    have BYq := BY2.out.below hb BY2.out.lt
    exact ⟨BYq.range, BXq.cell 2, (BYq.cell 11).trans C10.out.2⟩)
  have hD2 : w1.heap.size < W2.heap.size := R2.out.1.lt
  have C0 : Hid (∀ X, Hid (Below W2.heap.size W2 X) → Calls Tryz.prog 14 #[.int .i64 first, .int .i64 further, .int .i64 least] X fun e w' => e = .returned (grpV first further least) ∧ Hid (Below W2.heap.size W2 w') ∧ PcS w.heap.size ti s.grp SC w') := hide (by
    intro X bX
    refine (grouped_any first further least X).mono ?_
    rintro e w' ⟨rfl, hb⟩
    have bb := bX.out.trans (hb.mono bX.out.size)
    exact ⟨rfl, hide bb, KS.out w' bb⟩)
  have C1 : Hid (∀ X, Hid (Below W2.heap.size W2 X) → Calls Tryz.prog 16 #[.string ti, .agg SC] X fun e w' => (∃ v, e = .returned v ∧ Hid (∃ B, w'.ownsRow B 9 1 v ti.size (cellsD s (bys ti)))) ∧ Hid (Below W2.heap.size W2 w') ∧ PcS w.heap.size ti s.grp SC w') := hide (by
    intro X bX
    refine (WR.out ti X hdi hli).mono ?_
    rintro e w' ⟨⟨v, rfl, ho⟩, hb⟩
    have bb := bX.out.trans (hb.mono bX.out.size)
    exact ⟨⟨v, rfl, hide ho⟩, hide bb, KS.out w' bb⟩)
  have C2 : Hid (∀ X tv, Hid (∃ B, X.ownsRow B 9 1 tv ti.size (cellsD s (bys ti))) → Hid (Below W2.heap.size W2 X) → Calls Tryz.prog 15 #[grpV first further least, tv] X fun e w' => (∃ v, e = .returned v ∧ Hid (∃ B, GrpsAt w' B s (bys ti) SZ v tv)) ∧ Hid (Below W2.heap.size W2 w') ∧ PcS w.heap.size ti s.grp SC w') := hide (by
    intro X tv ho bX
    obtain ⟨B, ho⟩ := ho.out
    refine (cutG_own s (bys ti) first further least ho (bys_len ti).symm (by rw [bys_len]; omega) hf hu).mono ?_
    rintro e w' ⟨⟨v, rfl, hg⟩, hb⟩
    have bb := bX.out.trans (hb.mono bX.out.size)
    rw [← hSZ] at hg
    exact ⟨⟨v, rfl, hide ⟨_, hg⟩⟩, hide bb, KS.out w' bb⟩)
  have C3 : Hid (∀ X gv tv, Hid (∃ B, GrpsAt X B s (bys ti) SZ gv tv) → Hid (Below W2.heap.size W2 X) → Calls Tryz.prog 13 #[.pointer (some ⟨w1.heap.size, 0, none⟩), gv, .string s.grp] X fun e w' => e = .returned (.tuple #[]) ∧ Hid (∃ v', RowV w' w1.heap.size v' P1) ∧ Hid (Below w1.heap.size W2 w') ∧ PcS w.heap.size ti s.grp SC w') := hide (by
    intro X gv tv hg bX
    obtain ⟨B, hg⟩ := hg.out
    refine (putGroups_own [] s (bys ti) SZ (R2.out.below bX.out) SZs.out.1 (by rw [bys_len]; omega) (by have := SZs.out.2; omega) (by simp) hwi hg).mono ?_
    rintro e w' ⟨rfl, ⟨v', hv⟩, hb, hk⟩
    have BXq := hk.blk (BX2.out.below bX.out BX2.out.lt) (by decide) (by decide)
    have BYq := hk.blk (BY2.out.below bX.out BY2.out.lt) (by decide) (by decide)
    rw [List.nil_append, ← hP1] at hv
    exact ⟨rfl, hide ⟨v', hv⟩, hide ((bX.out.mono (Nat.le_of_lt hD2)).trans hb), ⟨BYq.range, BXq.cell 2, (BYq.cell 11).trans C10.out.2⟩⟩)
  have KX : Hid (∀ w', Below w1.heap.size W2 w' → Blk w' w.heap.size #[.int .i64 0, .bool n, .string ti, .string tf, .int .i64 x, .bool cm] 23 ∧ Blk w' (w.heap.size + 1) SC 26 ∧ Below w.heap.size w w') := hide (fun w' hb => ⟨BX2.out.below hb (by omega), BY2.out.below hb hD, HB2.out.trans (hb.mono (by omega))⟩)
  have b0 : Hid (Below W2.heap.size W2 W2.drew) := bdrewD W2
  have hS0 := KS.out W2.drew (Below.refl _ _).drew
  clear hP1 SZs hSZ KS hwi hdi hf hu
  unfold grpV at C0 C2
  generalize furR first further = R at *
  generalize max 1 least = m at *
  obtain ⟨x_0, x_1, x_2, x_3, x_4, x_5⟩ := shown6 BX2.out
  go_wp2_with (first | simp only [HW1.out] | simp only [HW2.out])
  refine wp_region_held_drew (S := PcS w.heap.size ti s.grp SC) (by kernel_rfl) ?_ (fun hHeld => ?_)
  · assumption
  refine wpAnyH_take (i := 0) (oi := Oper.mk (some 25) _ _ _ _ _) (v := .int .i64 first) rfl (by kernel_rfl) (by kernel_rfl) (by kernel_rfl) (fun _ _ _ h => h) (Or.inl ⟨by rfl, ?_⟩) (by assumption) ?_
  · intro wX hSw
    (try dsimp only at hSw)
    go_simp
  simp only [Act.put, List.setIfInBounds_toArray, List.set_cons_succ, List.set_cons_zero]
  refine wpAnyH_take (i := 1) (oi := Oper.mk (some 26) _ _ _ _ _) (v := .int .i64 further) rfl (by kernel_rfl) (by kernel_rfl) (by kernel_rfl) (fun _ _ _ h => h) (Or.inl ⟨by rfl, ?_⟩) (by assumption) ?_
  · intro wX hSw
    (try dsimp only at hSw)
    go_simp
  simp only [Act.put, List.setIfInBounds_toArray, List.set_cons_succ, List.set_cons_zero]
  refine wpAnyH_take (i := 2) (oi := Oper.mk (some 27) _ _ _ _ _) (v := .int .i64 least) rfl (by kernel_rfl) (by kernel_rfl) (by kernel_rfl) (fun _ _ _ h => h) (Or.inl ⟨by rfl, ?_⟩) (by assumption) ?_
  · intro wX hSw
    (try dsimp only at hSw)
    go_simp
  simp only [Act.put, List.setIfInBounds_toArray, List.set_cons_succ, List.set_cons_zero]
  refine wpAnyH_take (i := 4) (oi := Oper.mk (some 29) _ _ _ _ _) (v := .pointer (some ⟨w.heap.size, 2, none⟩)) rfl (by kernel_rfl) (by kernel_rfl) (by kernel_rfl) (fun _ _ _ h => h) (Or.inl ⟨by rfl, ?_⟩) (by assumption) ?_
  · intro wX hSw
    (try dsimp only at hSw)
    go_simp
  simp only [Act.put, List.setIfInBounds_toArray, List.set_cons_succ, List.set_cons_zero]
  refine wpAnyH_take (i := 5) (oi := Oper.mk (some 30) _ _ _ _ _) (v := .string ti) rfl (by kernel_rfl) (by kernel_rfl) (by kernel_rfl) (fun _ _ _ h => h) (Or.inl ⟨by rfl, ?_⟩) (by assumption) ?_
  · intro wX hSw
    (try dsimp only at hSw)
    have hq := hSw.int
    go_simp
  simp only [Act.put, List.setIfInBounds_toArray, List.set_cons_succ, List.set_cons_zero]
  refine wpAnyH_take (i := 6) (oi := Oper.mk (some 31) _ _ _ _ _) (v := .agg SC.toList.toArray) rfl (by kernel_rfl) (by kernel_rfl) (by kernel_rfl) (fun _ _ _ h => h) (yieldsIf_load_mid (by rfl) _ _ rfl _ _ rfl SC.toList _ (fun _ hw => hw.rng) Tryz.underlying26 rfl SI) (by assumption) ?_
  rw [Array.toArray_toList]
  simp only [Act.put, List.setIfInBounds_toArray, List.set_cons_succ, List.set_cons_zero]
  refine wpAnyH_take (i := 9) (oi := Oper.mk (some 34) _ _ _ _ _) (v := .pointer (some ⟨w.heap.size + 1, 11, none⟩)) rfl (by kernel_rfl) (by kernel_rfl) (by kernel_rfl) (fun _ _ _ h => h) (Or.inl ⟨by rfl, ?_⟩) (by assumption) ?_
  · intro wX hSw
    (try dsimp only at hSw)
    go_simp
  simp only [Act.put, List.setIfInBounds_toArray, List.set_cons_succ, List.set_cons_zero]
  refine wpAnyH_take (i := 10) (oi := Oper.mk (some 35) _ _ _ _ _) (v := .string s.grp) rfl (by kernel_rfl) (by kernel_rfl) (by kernel_rfl) (fun _ _ _ h => h) (Or.inl ⟨by rfl, ?_⟩) (by assumption) ?_
  · intro wX hSw
    (try dsimp only at hSw)
    have hq := hSw.grp
    go_simp
  simp only [Act.put, List.setIfInBounds_toArray, List.set_cons_succ, List.set_cons_zero]
  refine wpAnyH_ready (rs := [3]) (by kernel_rfl) (by simp) ?_
  refine AllReadyH.cons (o := Oper.mk (some 28) _ _ _ _ _) rfl (fun K hK => ?_) AllReadyH.nil
  go_simp
  refine (C0.out _ b0).mono ?_
  rintro e w3 ⟨rfl, b1, s1⟩
  refine hK.out _ _ ?_ (fun hHeld => ?_)
  · assumption
  clear hK K
  refine wpAnyH_ready (rs := [7]) (by kernel_rfl) (by simp) ?_
  refine AllReadyH.cons (o := Oper.mk (some 32) _ _ _ _ _) rfl (fun K hK => ?_) AllReadyH.nil
  go_simp
  refine (C1.out _ b1).mono ?_
  rintro e w4 ⟨⟨tv, rfl, o1⟩, b2, s2⟩
  refine hK.out _ _ ?_ (fun hHeld => ?_)
  · assumption
  clear hK K
  refine wpAnyH_ready (rs := [8]) (by kernel_rfl) (by simp) ?_
  refine AllReadyH.cons (o := Oper.mk (some 33) _ _ _ _ _) rfl (fun K hK => ?_) AllReadyH.nil
  go_simp
  refine (C2.out _ _ o1 b2).mono ?_
  rintro e w5 ⟨⟨gv, rfl, o2⟩, b3, s3⟩
  refine hK.out _ _ ?_ (fun hHeld => ?_)
  · assumption
  clear hK K
  refine wpAnyH_ready (rs := [11]) (by kernel_rfl) (by simp) ?_
  refine AllReadyH.cons (o := Oper.mk (some 36) _ _ _ _ _) rfl (fun K hK => ?_) AllReadyH.nil
  go_simp
  refine (C3.out _ _ _ o2 b3).mono ?_
  rintro e wz1 ⟨rfl, RZ0, b4, s4⟩
  refine hK.out _ _ ?_ (fun hHeld => ?_)
  · assumption
  clear hK K
  refine wpAnyH_done (by kernel_rfl) ?_ _
  obtain ⟨BXZ1', BYZ1', HBZ1'⟩ := KX.out wz1 b4.out
  obtain ⟨vz1, RZ1'⟩ := RZ0.out
  have BXZ1 := hide BXZ1'
  have BYZ1 := hide BYZ1'
  have HBZ1 := hide HBZ1'
  have RZ1 := hide RZ1'
  clear BXZ1' BYZ1' HBZ1' RZ1' RZ0 KX b4 b3 b2 b1 b0 C0 C1 C2 C3 BX2 BY2 R2 HB2 o1 o2 s1 s2 s3 s4 hS0 hHeld x_0 x_1 x_2 x_3 x_4 x_5
  obtain ⟨x_0, x_1, x_2, x_3, x_4, x_5⟩ := shown6 BXZ1.out
  have y_10 := (BYZ1.out.cell 10).trans C10.out.1
  cases al
  · by_cases hz : tf.size = 0
    · have PS : Hid (P1 ++ oneP (mkP (wrL s (bys tf))) 5 = P1 ++ fraP s ⟨0, n, bys ti, bys tf, x, cm⟩ false) := hide (by
        have e : bys tf = [] := List.eq_nil_of_length_eq_zero (by rw [bys_len]; exact hz)
        unfold fraP
        simp only [e]
        rfl)
      obtain rfl := emptyD hz
      clear hz
      have WR1 := hide (WR.out ⟨#[]⟩ wz1 hdf hlf)
      go_wp2_with (refine wpList_load_mid rfl 26 _ rfl _ _ rfl SC.toList _ BYZ1.out.range Tryz.underlying26 rfl SI ?_; rw [Array.toArray_toList])
      refine WR1.out.mono ?_
      rintro e wa ⟨⟨tv, rfl, B, hot⟩, hba⟩
      have Ra := hide (RZ1.out.below hba)
      have HBa := hide (HBZ1.out.trans (hba.mono HBZ1.out.size))
      have JN := hide (joined_own s (bys (⟨#[]⟩ : ByteArray)) hot (bys_len ⟨#[]⟩) (by omega) hwf)
      clear hba hot WR1 BXZ1 BYZ1 RZ1 HBZ1 x_0 x_1 x_2 x_3 x_4 x_5 y_10
      go_wp2_with fail
      refine JN.out.mono ?_
      rintro e wb ⟨rfl, hbb⟩
      have Rb := hide (Ra.out.below hbb)
      have HBb := hide (HBa.out.trans (hbb.mono HBa.out.size))
      have PT := hide (put_any _ (mkP (wrL s (bys (⟨#[]⟩ : ByteArray)))) 5 Rb.out (by omega))
      clear hbb JN Ra HBa
      go_wp2_with fail
      refine PT.out.mono ?_
      rintro e wc ⟨rfl, ⟨vc, hvc⟩, hbc, _⟩
      have Rc := hide hvc
      have HBc := hide (HBb.out.trans (hbc.mono (by omega)))
      clear hvc hbc PT Rb HBb
      have dc := Rc.out.1.cell 0
      go_wp2
      go_ret
      refine ⟨⟨_, rfl, ?_⟩, HBc.out⟩
      have q := ownD_mono Rc.out.2 (show w.heap.size ≤ w1.heap.size + 1 by omega)
      rw [PS.out] at q
      exact q
    · have PS : Hid ((P1 ++ oneP s.dec 4) ++ oneP (mkP (wrL s (bys tf))) 5 = P1 ++ fraP s ⟨0, n, bys ti, bys tf, x, cm⟩ false) := hide (by
        have e : bys tf ≠ [] := fun e => hz (by rw [← bys_len, e]; rfl)
        unfold fraP
        simp only [ne_eq, e, not_false_eq_true, true_or, if_true, List.append_assoc])
      have i1 := tlD_ne hz
      have i2 := tlD_ie hz
      have i3 := tlD_nb hz
      clear hz
      have PA := hide (put_any P1 s.dec 4 RZ1.out (by omega))
      have hPd := oneP_len s.dec 4
      go_wp2_with fail
      refine PA.out.mono ?_
      rintro e wz2 ⟨rfl, ⟨vz2, hvz2⟩, hbz2, hoz2⟩
      have RZ2 := hide hvz2
      have KK := KD.of RZ1.out hoz2
      have BXZ2 := hide (KK.blk BXZ1.out (by decide) (by decide))
      have BYZ2 := hide (KK.blk BYZ1.out (by decide) (by decide))
      have HBZ2 := hide (HBZ1.out.trans (hbz2.mono (by omega)))
      have hP2 : (P1 ++ oneP s.dec 4).length ≤ 900000 := by rw [List.length_append]; omega
      clear hvz2 hbz2 hoz2 KK PA BXZ1 BYZ1 RZ1 HBZ1 x_0 x_1 x_2 x_3 x_4 x_5 y_10
      obtain ⟨x_0, x_1, x_2, x_3, x_4, x_5⟩ := shown6 BXZ2.out
      have y_10 := (BYZ2.out.cell 10).trans C10.out.1
      have WR2 := hide (WR.out tf wz2 hdf hlf)
      go_wp2_with (refine wpList_load_mid rfl 26 _ rfl _ _ rfl SC.toList _ BYZ2.out.range Tryz.underlying26 rfl SI ?_; rw [Array.toArray_toList])
      refine WR2.out.mono ?_
      rintro e wa ⟨⟨tv, rfl, B, hot⟩, hba⟩
      have Ra := hide (RZ2.out.below hba)
      have HBa := hide (HBZ2.out.trans (hba.mono HBZ2.out.size))
      have JN := hide (joined_own s (bys tf) hot (bys_len tf) (by omega) hwf)
      clear hba hot WR2 BXZ2 BYZ2 RZ2 HBZ2 x_0 x_1 x_2 x_3 x_4 x_5 y_10
      go_wp2_with fail
      refine JN.out.mono ?_
      rintro e wb ⟨rfl, hbb⟩
      have Rb := hide (Ra.out.below hbb)
      have HBb := hide (HBa.out.trans (hbb.mono HBa.out.size))
      have PT := hide (put_any _ (mkP (wrL s (bys tf))) 5 Rb.out (by omega))
      clear hbb JN Ra HBa
      go_wp2_with fail
      refine PT.out.mono ?_
      rintro e wc ⟨rfl, ⟨vc, hvc⟩, hbc, _⟩
      have Rc := hide hvc
      have HBc := hide (HBb.out.trans (hbc.mono (by omega)))
      clear hvc hbc PT Rb HBb
      have dc := Rc.out.1.cell 0
      go_wp2
      go_ret
      refine ⟨⟨_, rfl, ?_⟩, HBc.out⟩
      have q := ownD_mono Rc.out.2 (show w.heap.size ≤ w1.heap.size + 1 by omega)
      rw [PS.out] at q
      exact q
  · have PS : Hid ((P1 ++ oneP s.dec 4) ++ oneP (mkP (wrL s (bys tf))) 5 = P1 ++ fraP s ⟨0, n, bys ti, bys tf, x, cm⟩ true) := hide (by
      unfold fraP
      simp only [or_true, if_true, List.append_assoc])
    have PA := hide (put_any P1 s.dec 4 RZ1.out (by omega))
    have hPd := oneP_len s.dec 4
    go_wp2_with fail
    refine PA.out.mono ?_
    rintro e wz2 ⟨rfl, ⟨vz2, hvz2⟩, hbz2, hoz2⟩
    have RZ2 := hide hvz2
    have KK := KD.of RZ1.out hoz2
    have BXZ2 := hide (KK.blk BXZ1.out (by decide) (by decide))
    have BYZ2 := hide (KK.blk BYZ1.out (by decide) (by decide))
    have HBZ2 := hide (HBZ1.out.trans (hbz2.mono (by omega)))
    have hP2 : (P1 ++ oneP s.dec 4).length ≤ 900000 := by rw [List.length_append]; omega
    clear hvz2 hbz2 hoz2 KK PA BXZ1 BYZ1 RZ1 HBZ1 x_0 x_1 x_2 x_3 x_4 x_5 y_10
    obtain ⟨x_0, x_1, x_2, x_3, x_4, x_5⟩ := shown6 BXZ2.out
    have y_10 := (BYZ2.out.cell 10).trans C10.out.1
    have WR2 := hide (WR.out tf wz2 hdf hlf)
    go_wp2_with (refine wpList_load_mid rfl 26 _ rfl _ _ rfl SC.toList _ BYZ2.out.range Tryz.underlying26 rfl SI ?_; rw [Array.toArray_toList])
    refine WR2.out.mono ?_
    rintro e wa ⟨⟨tv, rfl, B, hot⟩, hba⟩
    have Ra := hide (RZ2.out.below hba)
    have HBa := hide (HBZ2.out.trans (hba.mono HBZ2.out.size))
    have JN := hide (joined_own s (bys tf) hot (bys_len tf) (by omega) hwf)
    clear hba hot WR2 BXZ2 BYZ2 RZ2 HBZ2 x_0 x_1 x_2 x_3 x_4 x_5 y_10
    go_wp2_with fail
    refine JN.out.mono ?_
    rintro e wb ⟨rfl, hbb⟩
    have Rb := hide (Ra.out.below hbb)
    have HBb := hide (HBa.out.trans (hbb.mono HBa.out.size))
    have PT := hide (put_any _ (mkP (wrL s (bys tf))) 5 Rb.out (by omega))
    clear hbb JN Ra HBa
    go_wp2_with fail
    refine PT.out.mono ?_
    rintro e wc ⟨rfl, ⟨vc, hvc⟩, hbc, _⟩
    have Rc := hide hvc
    have HBc := hide (HBb.out.trans (hbc.mono (by omega)))
    clear hvc hbc PT Rb HBb
    have dc := Rc.out.1.cell 0
    go_wp2
    go_ret
    refine ⟨⟨_, rfl, ?_⟩, HBc.out⟩
    have q := ownD_mono Rc.out.2 (show w.heap.size ≤ w1.heap.size + 1 by omega)
    rw [PS.out] at q
    exact q

end Go.Proofs.YtbfegnbaleclfaaGreatDoor

namespace Go.Proofs.YtbfegnbaleclfaaGreatDoor
open Go.RowKit

end Go.Proofs.YtbfegnbaleclfaaGreatDoor

namespace Go.Proofs.YtbfegnbaleclfaaGreatDoor
open Go.RowKit

end Go.Proofs.YtbfegnbaleclfaaGreatDoor
