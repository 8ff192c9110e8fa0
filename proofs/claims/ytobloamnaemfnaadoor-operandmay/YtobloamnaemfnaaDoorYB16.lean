/-
  OperandMay answers true, whatever it is handed.
  What the rows' list of package variables gives, and a world that holds them.
-/
import Derived.Test.YtobloamnaemfnaaDoorYB14
import Derived.Test.YtobloamnaemfnaaDoorYB15
import Derived.Test.YtobloamnaemfnaaDoorRows
import Derived.Test.YtobloamnaemfnaaDoorYB6
import Derived.Lib.LaidTab
import Derived.Deep.DeepHandedRow
namespace Go.Proofs.YtobloamnaemfnaaDoor
open Go.RowKit

set_option maxRecDepth 100000 in
set_option maxHeartbeats 8000000 in
theorem omyl_t0 (i : ByteArray) (v z : Int) (f t : ByteArray) (e c : Int) (n : Bool) (ti tf : ByteArray) (x : Int) (cm : Bool) (I : ByteArray) (V Z : Int) (F T : ByteArray) (E : Int) (w : World) (htab : Tab w) (hO : ∀ W, Tab W → Calls Tryd.prog 6 #[shV c n ti tf x cm] W fun e w' => e = .returned (.tuple #[.agg #[.string I, .int .i64 V, .int .i64 Z, .string F, .string T, .int .i64 E], .int .i64 0]) ∧ Below W.heap.size W w') (hM : ∀ W, Calls Tryd.prog 8 #[opV i v z f t e] W fun e w' => e = .returned (.bool true) ∧ Below W.heap.size W w') (hR : ∀ W, Calls Tryd.prog 9 #[opV i v z f t e] W fun e w' => e = .returned (.bool true) ∧ Below W.heap.size W w') (hY : ∀ W, Calls Tryd.prog 8 #[opV I V Z F T E] W fun e w' => e = .returned (.bool true) ∧ Below W.heap.size W w') : Calls Tryd.prog 3 #[opV i v z f t e, shV c n ti tf x cm] w fun e w' => e = .returned (.bool true) ∧ Below w.heap.size w w' := by
  have HO := hide hO
  have H0 := hide (fun W (hW : Tab W) => qawake_any W hW)
  have H1 := hide (fun W (_ : Tab W) => hM W)
  have H2 := hide (fun W (_ : Tab W) => hR W)
  have HT := hide htab
  have H3 := hide (fun W (_ : Tab W) => hY W)
  clear hY
  clear hO hM hR htab
  have Bx0 := hide ((Blk.newAt w (w.heap.size) (rfl) #[.string i, .int .i64 v, .int .i64 z, .string f, .string t, .int .i64 e] 23).alloc (.cells #[.int .i64 c, .bool n, .string ti, .string tf, .int .i64 x, .bool cm] 25))
  have Bs0 := hide (Blk.newAt (w.alloc (.cells #[.string i, .int .i64 v, .int .i64 z, .string f, .string t, .int .i64 e] 23)) (w.heap.size + 1) (by simp) #[.int .i64 c, .bool n, .string ti, .string tf, .int .i64 x, .bool cm] 25)
  have HB0 : Hid (Below w.heap.size w ((w.alloc (.cells #[.string i, .int .i64 v, .int .i64 z, .string f, .string t, .int .i64 e] 23)).alloc (.cells #[.int .i64 c, .bool n, .string ti, .string tf, .int .i64 x, .bool cm] 25))) := (((Below.refl _ _).alloc (Nat.le_refl _) _).alloc (by simp <;> omega) _)
  go_enter Tryd.func3, Tryd.ntmps3
  go_wp2_with fail
  refine (HO.out _ (HT.out.below HB0.out)).mono ?_
  rintro e w1 ⟨rfl, hb⟩
  have Bx1 := Blk.on Bx0 hb
  have Bs1 := Blk.on Bs0 hb
  have HB1 := hide (HB0.out.trans (hb.mono HB0.out.size))
  clear hb Bx0 Bs0 HB0 
  obtain ⟨yx0, yx1, yx2, yx3, yx4, yx5⟩ := Bx1.out.six
  obtain ⟨ys0, ys1, ys2, ys3, ys4, ys5⟩ := Bs1.out.six
  have Bx2 := Blk.up Bx1 (.cells #[.string I, .int .i64 V, .int .i64 Z, .string F, .string T, .int .i64 E] 23)
  have Bs2 := Blk.up Bs1 (.cells #[.string I, .int .i64 V, .int .i64 Z, .string F, .string T, .int .i64 E] 23)
  have By2 := hide ((Blk.newAt w1 (w1.heap.size) (rfl) #[.string I, .int .i64 V, .int .i64 Z, .string F, .string T, .int .i64 E] 23))
  have HB2 : Hid (Below w.heap.size w (w1.alloc (.cells #[.string I, .int .i64 V, .int .i64 Z, .string F, .string T, .int .i64 E] 23))) := (HB1.out.alloc HB1.out.size _)
  clear Bx1 Bs1 HB1 yx0 yx1 yx2 yx3 yx4 yx5 ys0 ys1 ys2 ys3 ys4 ys5
  obtain ⟨yx0, yx1, yx2, yx3, yx4, yx5⟩ := Bx2.out.six
  obtain ⟨ys0, ys1, ys2, ys3, ys4, ys5⟩ := Bs2.out.six
  obtain ⟨yy0, yy1, yy2, yy3, yy4, yy5⟩ := By2.out.six
  go_upto_region 2 with (fail)
  obtain ⟨V0, hV0⟩ : ∃ X0, X0 = (w1.alloc (.cells #[.string I, .int .i64 V, .int .i64 Z, .string F, .string T, .int .i64 E] 23)) := ⟨_, rfl⟩
  rw [← hV0] at HB2 Bx2 Bs2 By2 yx0 yx1 yx2 yx3 yx4 yx5 ys0 ys1 ys2 ys3 ys4 ys5 yy0 yy1 yy2 yy3 yy4 yy5
  simp only [← hV0]
  clear hV0
  have HTW := hide (HT.out.below HB2.out)
  clear HT HO
  have b0 : Hid (Below V0.heap.size V0 V0.drew) := bdrewD V0
  have HC : Hid (∀ w', Below V0.heap.size V0 w' → w'.cell? ⟨w.heap.size, 0, none⟩ = some (.string i) ∧ w'.cell? ⟨w.heap.size, 1, none⟩ = some (.int .i64 v) ∧ w'.cell? ⟨w.heap.size, 2, none⟩ = some (.int .i64 z) ∧ w'.cell? ⟨w.heap.size, 3, none⟩ = some (.string f) ∧ w'.cell? ⟨w.heap.size, 4, none⟩ = some (.string t) ∧ w'.cell? ⟨w.heap.size, 5, none⟩ = some (.int .i64 e) ∧ w'.cell? ⟨w1.heap.size, 0, none⟩ = some (.string I) ∧ w'.cell? ⟨w1.heap.size, 1, none⟩ = some (.int .i64 V) ∧ w'.cell? ⟨w1.heap.size, 2, none⟩ = some (.int .i64 Z) ∧ w'.cell? ⟨w1.heap.size, 3, none⟩ = some (.string F) ∧ w'.cell? ⟨w1.heap.size, 4, none⟩ = some (.string T) ∧ w'.cell? ⟨w1.heap.size, 5, none⟩ = some (.int .i64 E)) := fun w' hb => ⟨(Bx2.out.below hb Bx2.out.lt).cell 0, (Bx2.out.below hb Bx2.out.lt).cell 1, (Bx2.out.below hb Bx2.out.lt).cell 2, (Bx2.out.below hb Bx2.out.lt).cell 3, (Bx2.out.below hb Bx2.out.lt).cell 4, (Bx2.out.below hb Bx2.out.lt).cell 5, (By2.out.below hb By2.out.lt).cell 0, (By2.out.below hb By2.out.lt).cell 1, (By2.out.below hb By2.out.lt).cell 2, (By2.out.below hb By2.out.lt).cell 3, (By2.out.below hb By2.out.lt).cell 4, (By2.out.below hb By2.out.lt).cell 5⟩
  refine wp_region_held_drew (S := (fun w' => w'.cell? ⟨w.heap.size, 0, none⟩ = some (.string i) ∧ w'.cell? ⟨w.heap.size, 1, none⟩ = some (.int .i64 v) ∧ w'.cell? ⟨w.heap.size, 2, none⟩ = some (.int .i64 z) ∧ w'.cell? ⟨w.heap.size, 3, none⟩ = some (.string f) ∧ w'.cell? ⟨w.heap.size, 4, none⟩ = some (.string t) ∧ w'.cell? ⟨w.heap.size, 5, none⟩ = some (.int .i64 e) ∧ w'.cell? ⟨w1.heap.size, 0, none⟩ = some (.string I) ∧ w'.cell? ⟨w1.heap.size, 1, none⟩ = some (.int .i64 V) ∧ w'.cell? ⟨w1.heap.size, 2, none⟩ = some (.int .i64 Z) ∧ w'.cell? ⟨w1.heap.size, 3, none⟩ = some (.string F) ∧ w'.cell? ⟨w1.heap.size, 4, none⟩ = some (.string T) ∧ w'.cell? ⟨w1.heap.size, 5, none⟩ = some (.int .i64 E))) (by kernel_rfl) ?_ (fun hHeld => ?_)
  · (try dsimp only)
    go_keep
  refine wpAnyH_ready (rs := [0]) (by kernel_rfl) (by simp) ?_
  refine AllReadyH.cons (o := Oper.mk (some 12) _ _ _ _ _) rfl (fun K hK => ?_) AllReadyH.nil
  go_simp
  refine (H0.out _ (HTW.out.below b0.out)).mono ?_
  rintro e w10 ⟨rfl, hb⟩
  have b1 := hide (b0.out.trans (hb.mono b0.out.size))
  clear hb
  obtain ⟨q0_0, q0_1, q0_2, q0_3, q0_4, q0_5, q0_6, q0_7, q0_8, q0_9, q0_10, q0_11⟩ := HC.out _ b1.out
  try simp only []
  refine hK.out _ _ ?_ (fun hHeld => ?_)
  · (try dsimp only)
    go_keep
  clear hK K
  refine wpAnyH_take (i := 1) (oi := Oper.mk (some 13) _ _ _ _ _) (v := .bool true) rfl (by kernel_rfl) (by kernel_rfl) (by kernel_rfl) (fun _ _ _ h => h) (Or.inl ⟨by rfl, ?_⟩) (by assumption) ?_
  · intro wX hSw
    (try dsimp only at hSw)
    go_simp
  simp only [Act.put, List.setIfInBounds_toArray, List.set_cons_succ, List.set_cons_zero]
  refine wpAnyH_take (i := 2) (oi := Oper.mk (some 14) _ _ _ _ _) (v := .agg #[.string i, .int .i64 v, .int .i64 z, .string f, .string t, .int .i64 e]) rfl (by kernel_rfl) (by kernel_rfl) (by kernel_rfl) (fun _ _ _ h => h) (Or.inl ⟨by rfl, ?_⟩) (by assumption) ?_
  · intro wX hSw
    (try dsimp only at hSw)
    go_simp
  simp only [Act.put, List.setIfInBounds_toArray, List.set_cons_succ, List.set_cons_zero]
  refine wpAnyH_take (i := 4) (oi := Oper.mk (some 16) _ _ _ _ _) (v := .agg #[.string i, .int .i64 v, .int .i64 z, .string f, .string t, .int .i64 e]) rfl (by kernel_rfl) (by kernel_rfl) (by kernel_rfl) (fun _ _ _ h => h) (Or.inl ⟨by rfl, ?_⟩) (by assumption) ?_
  · intro wX hSw
    (try dsimp only at hSw)
    go_simp
  simp only [Act.put, List.setIfInBounds_toArray, List.set_cons_succ, List.set_cons_zero]
  refine wpAnyH_ready (rs := [3]) (by kernel_rfl) (by simp) ?_
  refine AllReadyH.cons (o := Oper.mk (some 15) _ _ _ _ _) rfl (fun K hK => ?_) AllReadyH.nil
  go_simp
  refine (H1.out _ (HTW.out.below b1.out)).mono ?_
  rintro e w11 ⟨rfl, hb⟩
  have b2 := hide (b1.out.trans (hb.mono b1.out.size))
  clear hb
  obtain ⟨q1_0, q1_1, q1_2, q1_3, q1_4, q1_5, q1_6, q1_7, q1_8, q1_9, q1_10, q1_11⟩ := HC.out _ b2.out
  try simp only []
  refine hK.out _ _ ?_ (fun hHeld => ?_)
  · (try dsimp only)
    go_keep
  clear hK K
  refine wpAnyH_ready (rs := [5]) (by kernel_rfl) (by simp) ?_
  refine AllReadyH.cons (o := Oper.mk (some 17) _ _ _ _ _) rfl (fun K hK => ?_) AllReadyH.nil
  go_simp
  refine (H2.out _ (HTW.out.below b2.out)).mono ?_
  rintro e w12 ⟨rfl, hb⟩
  have b3 := hide (b2.out.trans (hb.mono b2.out.size))
  clear hb
  obtain ⟨q2_0, q2_1, q2_2, q2_3, q2_4, q2_5, q2_6, q2_7, q2_8, q2_9, q2_10, q2_11⟩ := HC.out _ b3.out
  try simp only []
  refine hK.out _ _ ?_ (fun hHeld => ?_)
  · (try dsimp only)
    go_keep
  clear hK K
  refine wpAnyH_take (i := 6) (oi := Oper.mk (some 18) _ _ _ _ _) (v := .bool true) rfl (by kernel_rfl) (by kernel_rfl) (by kernel_rfl) (fun _ _ _ h => h) (Or.inl ⟨by rfl, ?_⟩) (by assumption) ?_
  · intro wX hSw
    (try dsimp only at hSw)
    go_simp
  simp only [Act.put, List.setIfInBounds_toArray, List.set_cons_succ, List.set_cons_zero]
  refine wpAnyH_take (i := 7) (oi := Oper.mk (some 19) _ _ _ _ _) (v := .bool true) rfl (by kernel_rfl) (by kernel_rfl) (by kernel_rfl) (fun _ _ _ h => h) (Or.inl ⟨by rfl, ?_⟩) (by assumption) ?_
  · intro wX hSw
    (try dsimp only at hSw)
    go_simp
  simp only [Act.put, List.setIfInBounds_toArray, List.set_cons_succ, List.set_cons_zero]
  refine wpAnyH_take (i := 8) (oi := Oper.mk (some 20) _ _ _ _ _) (v := .bool true) rfl (by kernel_rfl) (by kernel_rfl) (by kernel_rfl) (fun _ _ _ h => h) (Or.inl ⟨by rfl, ?_⟩) (by assumption) ?_
  · intro wX hSw
    (try dsimp only at hSw)
    go_simp
  simp only [Act.put, List.setIfInBounds_toArray, List.set_cons_succ, List.set_cons_zero]
  refine wpAnyH_take (i := 9) (oi := Oper.mk (some 21) _ _ _ _ _) (v := .int .i64 0) rfl (by kernel_rfl) (by kernel_rfl) (by kernel_rfl) (fun _ _ _ h => h) (Or.inl ⟨by rfl, ?_⟩) (by assumption) ?_
  · intro wX hSw
    (try dsimp only at hSw)
    go_simp
  simp only [Act.put, List.setIfInBounds_toArray, List.set_cons_succ, List.set_cons_zero]
  refine wpAnyH_take (i := 10) (oi := Oper.mk (some 22) _ _ _ _ _) (v := .bool false) rfl (by kernel_rfl) (by kernel_rfl) (by kernel_rfl) (fun _ _ _ h => h) (Or.inl ⟨by rfl, ?_⟩) (by assumption) ?_
  · intro wX hSw
    (try dsimp only at hSw)
    go_simp
  simp only [Act.put, List.setIfInBounds_toArray, List.set_cons_succ, List.set_cons_zero]
  refine wpAnyH_take (i := 11) (oi := Oper.mk (some 23) _ _ _ _ _) (v := .bool false) rfl (by kernel_rfl) (by kernel_rfl) (by kernel_rfl) (fun _ _ _ h => h) (Or.inl ⟨by rfl, ?_⟩) (by assumption) ?_
  · intro wX hSw
    (try dsimp only at hSw)
    go_simp
  simp only [Act.put, List.setIfInBounds_toArray, List.set_cons_succ, List.set_cons_zero]
  refine wpAnyH_take (i := 12) (oi := Oper.mk (some 24) _ _ _ _ _) (v := .agg #[.string I, .int .i64 V, .int .i64 Z, .string F, .string T, .int .i64 E]) rfl (by kernel_rfl) (by kernel_rfl) (by kernel_rfl) (fun _ _ _ h => h) (Or.inl ⟨by rfl, ?_⟩) (by assumption) ?_
  · intro wX hSw
    (try dsimp only at hSw)
    go_simp
  simp only [Act.put, List.setIfInBounds_toArray, List.set_cons_succ, List.set_cons_zero]
  refine wpAnyH_ready (rs := [13]) (by kernel_rfl) (by simp) ?_
  refine AllReadyH.cons (o := Oper.mk (some 25) _ _ _ _ _) rfl (fun K hK => ?_) AllReadyH.nil
  go_simp
  refine (H3.out _ (HTW.out.below b3.out)).mono ?_
  rintro e w13 ⟨rfl, hb⟩
  have b4 := hide (b3.out.trans (hb.mono b3.out.size))
  clear hb
  obtain ⟨q3_0, q3_1, q3_2, q3_3, q3_4, q3_5, q3_6, q3_7, q3_8, q3_9, q3_10, q3_11⟩ := HC.out _ b4.out
  try simp only []
  refine hK.out _ _ ?_ (fun hHeld => ?_)
  · (try dsimp only)
    go_keep
  clear hK K
  refine wpAnyH_take (i := 14) (oi := Oper.mk (some 26) _ _ _ _ _) (v := .bool true) rfl (by kernel_rfl) (by kernel_rfl) (by kernel_rfl) (fun _ _ _ h => h) (Or.inl ⟨by rfl, ?_⟩) (by assumption) ?_
  · intro wX hSw
    (try dsimp only at hSw)
    go_simp
  simp only [Act.put, List.setIfInBounds_toArray, List.set_cons_succ, List.set_cons_zero]
  refine wpAnyH_take (i := 15) (oi := Oper.mk (some 27) _ _ _ _ _) (v := .bool true) rfl (by kernel_rfl) (by kernel_rfl) (by kernel_rfl) (fun _ _ _ h => h) (Or.inl ⟨by rfl, ?_⟩) (by assumption) ?_
  · intro wX hSw
    (try dsimp only at hSw)
    go_simp
  simp only [Act.put, List.setIfInBounds_toArray, List.set_cons_succ, List.set_cons_zero]
  refine wpAnyH_take (i := 16) (oi := Oper.mk (some 4) _ _ _ _ _) (v := .bool true) rfl (by kernel_rfl) (by kernel_rfl) (by kernel_rfl) (fun _ _ _ h => h) (Or.inl ⟨by rfl, ?_⟩) (by assumption) ?_
  · intro wX hSw
    (try dsimp only at hSw)
    go_simp
  simp only [Act.put, List.setIfInBounds_toArray, List.set_cons_succ, List.set_cons_zero]
  refine wpAnyH_done (by kernel_rfl) ?_ _
  have HBE := hide (HB2.out.trans (b4.out.mono HB2.out.size))
  go_wp2
  go_ret
  exact ⟨rfl, HBE.out⟩

set_option maxRecDepth 100000 in
set_option maxHeartbeats 8000000 in
theorem omyl_t80 (i : ByteArray) (v z : Int) (f t : ByteArray) (e c : Int) (n : Bool) (ti tf : ByteArray) (x : Int) (cm : Bool) (I : ByteArray) (V Z : Int) (F T : ByteArray) (E : Int) (w : World) (htab : Tab w) (hO : ∀ W, Tab W → Calls Tryd.prog 6 #[shV c n ti tf x cm] W fun e w' => e = .returned (.tuple #[.agg #[.string I, .int .i64 V, .int .i64 Z, .string F, .string T, .int .i64 E], .int .i64 80]) ∧ Below W.heap.size W w') (hM : ∀ W, Calls Tryd.prog 8 #[opV i v z f t e] W fun e w' => e = .returned (.bool true) ∧ Below W.heap.size W w') (hR : ∀ W, Calls Tryd.prog 9 #[opV i v z f t e] W fun e w' => e = .returned (.bool true) ∧ Below W.heap.size W w') : Calls Tryd.prog 3 #[opV i v z f t e, shV c n ti tf x cm] w fun e w' => e = .returned (.bool true) ∧ Below w.heap.size w w' := by
  have HO := hide hO
  have H0 := hide (fun W (hW : Tab W) => qawake_any W hW)
  have H1 := hide (fun W (_ : Tab W) => hM W)
  have H2 := hide (fun W (_ : Tab W) => hR W)
  have HT := hide htab
  clear hO hM hR htab
  have Bx0 := hide ((Blk.newAt w (w.heap.size) (rfl) #[.string i, .int .i64 v, .int .i64 z, .string f, .string t, .int .i64 e] 23).alloc (.cells #[.int .i64 c, .bool n, .string ti, .string tf, .int .i64 x, .bool cm] 25))
  have Bs0 := hide (Blk.newAt (w.alloc (.cells #[.string i, .int .i64 v, .int .i64 z, .string f, .string t, .int .i64 e] 23)) (w.heap.size + 1) (by simp) #[.int .i64 c, .bool n, .string ti, .string tf, .int .i64 x, .bool cm] 25)
  have HB0 : Hid (Below w.heap.size w ((w.alloc (.cells #[.string i, .int .i64 v, .int .i64 z, .string f, .string t, .int .i64 e] 23)).alloc (.cells #[.int .i64 c, .bool n, .string ti, .string tf, .int .i64 x, .bool cm] 25))) := (((Below.refl _ _).alloc (Nat.le_refl _) _).alloc (by simp <;> omega) _)
  go_enter Tryd.func3, Tryd.ntmps3
  go_wp2_with fail
  refine (HO.out _ (HT.out.below HB0.out)).mono ?_
  rintro e w1 ⟨rfl, hb⟩
  have Bx1 := Blk.on Bx0 hb
  have Bs1 := Blk.on Bs0 hb
  have HB1 := hide (HB0.out.trans (hb.mono HB0.out.size))
  clear hb Bx0 Bs0 HB0 
  obtain ⟨yx0, yx1, yx2, yx3, yx4, yx5⟩ := Bx1.out.six
  obtain ⟨ys0, ys1, ys2, ys3, ys4, ys5⟩ := Bs1.out.six
  have Bx2 := Blk.up Bx1 (.cells #[.string I, .int .i64 V, .int .i64 Z, .string F, .string T, .int .i64 E] 23)
  have Bs2 := Blk.up Bs1 (.cells #[.string I, .int .i64 V, .int .i64 Z, .string F, .string T, .int .i64 E] 23)
  have By2 := hide ((Blk.newAt w1 (w1.heap.size) (rfl) #[.string I, .int .i64 V, .int .i64 Z, .string F, .string T, .int .i64 E] 23))
  have HB2 : Hid (Below w.heap.size w (w1.alloc (.cells #[.string I, .int .i64 V, .int .i64 Z, .string F, .string T, .int .i64 E] 23))) := (HB1.out.alloc HB1.out.size _)
  clear Bx1 Bs1 HB1 yx0 yx1 yx2 yx3 yx4 yx5 ys0 ys1 ys2 ys3 ys4 ys5
  obtain ⟨yx0, yx1, yx2, yx3, yx4, yx5⟩ := Bx2.out.six
  obtain ⟨ys0, ys1, ys2, ys3, ys4, ys5⟩ := Bs2.out.six
  obtain ⟨yy0, yy1, yy2, yy3, yy4, yy5⟩ := By2.out.six
  go_upto_region 2 with (fail)
  obtain ⟨V0, hV0⟩ : ∃ X0, X0 = (w1.alloc (.cells #[.string I, .int .i64 V, .int .i64 Z, .string F, .string T, .int .i64 E] 23)) := ⟨_, rfl⟩
  rw [← hV0] at HB2 Bx2 Bs2 By2 yx0 yx1 yx2 yx3 yx4 yx5 ys0 ys1 ys2 ys3 ys4 ys5 yy0 yy1 yy2 yy3 yy4 yy5
  simp only [← hV0]
  clear hV0
  have HTW := hide (HT.out.below HB2.out)
  clear HT HO
  have b0 : Hid (Below V0.heap.size V0 V0.drew) := bdrewD V0
  have HC : Hid (∀ w', Below V0.heap.size V0 w' → w'.cell? ⟨w.heap.size, 0, none⟩ = some (.string i) ∧ w'.cell? ⟨w.heap.size, 1, none⟩ = some (.int .i64 v) ∧ w'.cell? ⟨w.heap.size, 2, none⟩ = some (.int .i64 z) ∧ w'.cell? ⟨w.heap.size, 3, none⟩ = some (.string f) ∧ w'.cell? ⟨w.heap.size, 4, none⟩ = some (.string t) ∧ w'.cell? ⟨w.heap.size, 5, none⟩ = some (.int .i64 e)) := fun w' hb => ⟨(Bx2.out.below hb Bx2.out.lt).cell 0, (Bx2.out.below hb Bx2.out.lt).cell 1, (Bx2.out.below hb Bx2.out.lt).cell 2, (Bx2.out.below hb Bx2.out.lt).cell 3, (Bx2.out.below hb Bx2.out.lt).cell 4, (Bx2.out.below hb Bx2.out.lt).cell 5⟩
  refine wp_region_held_drew (S := (fun w' => w'.cell? ⟨w.heap.size, 0, none⟩ = some (.string i) ∧ w'.cell? ⟨w.heap.size, 1, none⟩ = some (.int .i64 v) ∧ w'.cell? ⟨w.heap.size, 2, none⟩ = some (.int .i64 z) ∧ w'.cell? ⟨w.heap.size, 3, none⟩ = some (.string f) ∧ w'.cell? ⟨w.heap.size, 4, none⟩ = some (.string t) ∧ w'.cell? ⟨w.heap.size, 5, none⟩ = some (.int .i64 e))) (by kernel_rfl) ?_ (fun hHeld => ?_)
  · (try dsimp only)
    go_keep
  refine wpAnyH_ready (rs := [0]) (by kernel_rfl) (by simp) ?_
  refine AllReadyH.cons (o := Oper.mk (some 12) _ _ _ _ _) rfl (fun K hK => ?_) AllReadyH.nil
  go_simp
  refine (H0.out _ (HTW.out.below b0.out)).mono ?_
  rintro e w10 ⟨rfl, hb⟩
  have b1 := hide (b0.out.trans (hb.mono b0.out.size))
  clear hb
  obtain ⟨q0_0, q0_1, q0_2, q0_3, q0_4, q0_5⟩ := HC.out _ b1.out
  try simp only []
  refine hK.out _ _ ?_ (fun hHeld => ?_)
  · (try dsimp only)
    go_keep
  clear hK K
  refine wpAnyH_take (i := 1) (oi := Oper.mk (some 13) _ _ _ _ _) (v := .bool true) rfl (by kernel_rfl) (by kernel_rfl) (by kernel_rfl) (fun _ _ _ h => h) (Or.inl ⟨by rfl, ?_⟩) (by assumption) ?_
  · intro wX hSw
    (try dsimp only at hSw)
    go_simp
  simp only [Act.put, List.setIfInBounds_toArray, List.set_cons_succ, List.set_cons_zero]
  refine wpAnyH_take (i := 2) (oi := Oper.mk (some 14) _ _ _ _ _) (v := .agg #[.string i, .int .i64 v, .int .i64 z, .string f, .string t, .int .i64 e]) rfl (by kernel_rfl) (by kernel_rfl) (by kernel_rfl) (fun _ _ _ h => h) (Or.inl ⟨by rfl, ?_⟩) (by assumption) ?_
  · intro wX hSw
    (try dsimp only at hSw)
    go_simp
  simp only [Act.put, List.setIfInBounds_toArray, List.set_cons_succ, List.set_cons_zero]
  refine wpAnyH_take (i := 4) (oi := Oper.mk (some 16) _ _ _ _ _) (v := .agg #[.string i, .int .i64 v, .int .i64 z, .string f, .string t, .int .i64 e]) rfl (by kernel_rfl) (by kernel_rfl) (by kernel_rfl) (fun _ _ _ h => h) (Or.inl ⟨by rfl, ?_⟩) (by assumption) ?_
  · intro wX hSw
    (try dsimp only at hSw)
    go_simp
  simp only [Act.put, List.setIfInBounds_toArray, List.set_cons_succ, List.set_cons_zero]
  refine wpAnyH_ready (rs := [3]) (by kernel_rfl) (by simp) ?_
  refine AllReadyH.cons (o := Oper.mk (some 15) _ _ _ _ _) rfl (fun K hK => ?_) AllReadyH.nil
  go_simp
  refine (H1.out _ (HTW.out.below b1.out)).mono ?_
  rintro e w11 ⟨rfl, hb⟩
  have b2 := hide (b1.out.trans (hb.mono b1.out.size))
  clear hb
  obtain ⟨q1_0, q1_1, q1_2, q1_3, q1_4, q1_5⟩ := HC.out _ b2.out
  try simp only []
  refine hK.out _ _ ?_ (fun hHeld => ?_)
  · (try dsimp only)
    go_keep
  clear hK K
  refine wpAnyH_ready (rs := [5]) (by kernel_rfl) (by simp) ?_
  refine AllReadyH.cons (o := Oper.mk (some 17) _ _ _ _ _) rfl (fun K hK => ?_) AllReadyH.nil
  go_simp
  refine (H2.out _ (HTW.out.below b2.out)).mono ?_
  rintro e w12 ⟨rfl, hb⟩
  have b3 := hide (b2.out.trans (hb.mono b2.out.size))
  clear hb
  obtain ⟨q2_0, q2_1, q2_2, q2_3, q2_4, q2_5⟩ := HC.out _ b3.out
  try simp only []
  refine hK.out _ _ ?_ (fun hHeld => ?_)
  · (try dsimp only)
    go_keep
  clear hK K
  refine wpAnyH_take (i := 6) (oi := Oper.mk (some 18) _ _ _ _ _) (v := .bool true) rfl (by kernel_rfl) (by kernel_rfl) (by kernel_rfl) (fun _ _ _ h => h) (Or.inl ⟨by rfl, ?_⟩) (by assumption) ?_
  · intro wX hSw
    (try dsimp only at hSw)
    go_simp
  simp only [Act.put, List.setIfInBounds_toArray, List.set_cons_succ, List.set_cons_zero]
  refine wpAnyH_take (i := 7) (oi := Oper.mk (some 19) _ _ _ _ _) (v := .bool true) rfl (by kernel_rfl) (by kernel_rfl) (by kernel_rfl) (fun _ _ _ h => h) (Or.inl ⟨by rfl, ?_⟩) (by assumption) ?_
  · intro wX hSw
    (try dsimp only at hSw)
    go_simp
  simp only [Act.put, List.setIfInBounds_toArray, List.set_cons_succ, List.set_cons_zero]
  refine wpAnyH_take (i := 8) (oi := Oper.mk (some 20) _ _ _ _ _) (v := .bool true) rfl (by kernel_rfl) (by kernel_rfl) (by kernel_rfl) (fun _ _ _ h => h) (Or.inl ⟨by rfl, ?_⟩) (by assumption) ?_
  · intro wX hSw
    (try dsimp only at hSw)
    go_simp
  simp only [Act.put, List.setIfInBounds_toArray, List.set_cons_succ, List.set_cons_zero]
  refine wpAnyH_take (i := 9) (oi := Oper.mk (some 21) _ _ _ _ _) (v := .int .i64 80) rfl (by kernel_rfl) (by kernel_rfl) (by kernel_rfl) (fun _ _ _ h => h) (Or.inl ⟨by rfl, ?_⟩) (by assumption) ?_
  · intro wX hSw
    (try dsimp only at hSw)
    go_simp
  simp only [Act.put, List.setIfInBounds_toArray, List.set_cons_succ, List.set_cons_zero]
  refine wpAnyH_take (i := 10) (oi := Oper.mk (some 22) _ _ _ _ _) (v := .bool true) rfl (by kernel_rfl) (by kernel_rfl) (by kernel_rfl) (fun _ _ _ h => h) (Or.inl ⟨by rfl, ?_⟩) (by assumption) ?_
  · intro wX hSw
    (try dsimp only at hSw)
    go_simp
  simp only [Act.put, List.setIfInBounds_toArray, List.set_cons_succ, List.set_cons_zero]
  refine wpAnyH_take (i := 11) (oi := Oper.mk (some 23) _ _ _ _ _) (v := .bool true) rfl (by kernel_rfl) (by kernel_rfl) (by kernel_rfl) (fun _ _ _ h => h) (Or.inl ⟨by rfl, ?_⟩) (by assumption) ?_
  · intro wX hSw
    (try dsimp only at hSw)
    go_simp
  simp only [Act.put, List.setIfInBounds_toArray, List.set_cons_succ, List.set_cons_zero]
  refine wpAnyH_take (i := 12) (oi := Oper.mk (some 24) _ _ _ _ _) (v := undef) rfl (by kernel_rfl) (by kernel_rfl) (by kernel_rfl) (fun _ _ _ h => h) (Or.inr ⟨by rfl, rfl⟩) (by assumption) ?_
  simp only [Act.put, List.setIfInBounds_toArray, List.set_cons_succ, List.set_cons_zero]
  refine wpAnyH_take (i := 13) (oi := Oper.mk (some 25) _ _ _ _ _) (v := undef) rfl (by kernel_rfl) (by kernel_rfl) (by kernel_rfl) (fun _ _ _ h => h) (Or.inr ⟨by rfl, rfl⟩) (by assumption) ?_
  simp only [Act.put, List.setIfInBounds_toArray, List.set_cons_succ, List.set_cons_zero]
  refine wpAnyH_take (i := 14) (oi := Oper.mk (some 26) _ _ _ _ _) (v := .bool true) rfl (by kernel_rfl) (by kernel_rfl) (by kernel_rfl) (fun _ _ _ h => h) (Or.inl ⟨by rfl, ?_⟩) (by assumption) ?_
  · intro wX hSw
    (try dsimp only at hSw)
    go_simp
  simp only [Act.put, List.setIfInBounds_toArray, List.set_cons_succ, List.set_cons_zero]
  refine wpAnyH_take (i := 15) (oi := Oper.mk (some 27) _ _ _ _ _) (v := .bool true) rfl (by kernel_rfl) (by kernel_rfl) (by kernel_rfl) (fun _ _ _ h => h) (Or.inl ⟨by rfl, ?_⟩) (by assumption) ?_
  · intro wX hSw
    (try dsimp only at hSw)
    go_simp
  simp only [Act.put, List.setIfInBounds_toArray, List.set_cons_succ, List.set_cons_zero]
  refine wpAnyH_take (i := 16) (oi := Oper.mk (some 4) _ _ _ _ _) (v := .bool true) rfl (by kernel_rfl) (by kernel_rfl) (by kernel_rfl) (fun _ _ _ h => h) (Or.inl ⟨by rfl, ?_⟩) (by assumption) ?_
  · intro wX hSw
    (try dsimp only at hSw)
    go_simp
  simp only [Act.put, List.setIfInBounds_toArray, List.set_cons_succ, List.set_cons_zero]
  refine wpAnyH_done (by kernel_rfl) ?_ _
  have HBE := hide (HB2.out.trans (b3.out.mono HB2.out.size))
  go_wp2
  go_ret
  exact ⟨rfl, HBE.out⟩

set_option maxRecDepth 100000 in
set_option maxHeartbeats 8000000 in
theorem omyl_f0 (i : ByteArray) (v z : Int) (f t : ByteArray) (e c : Int) (n : Bool) (ti tf : ByteArray) (x : Int) (cm : Bool) (I : ByteArray) (V Z : Int) (F T : ByteArray) (E : Int) (w : World) (htab : Tab w) (hO : ∀ W, Tab W → Calls Tryd.prog 6 #[shV c n ti tf x cm] W fun e w' => e = .returned (.tuple #[.agg #[.string I, .int .i64 V, .int .i64 Z, .string F, .string T, .int .i64 E], .int .i64 0]) ∧ Below W.heap.size W w') (hM : ∀ W, Calls Tryd.prog 8 #[opV i v z f t e] W fun e w' => e = .returned (.bool false) ∧ Below W.heap.size W w') (hR : ∀ W, Calls Tryd.prog 9 #[opV i v z f t e] W fun e w' => e = .returned (.bool false) ∧ Below W.heap.size W w') (hY : ∀ W, Calls Tryd.prog 8 #[opV I V Z F T E] W fun e w' => e = .returned (.bool true) ∧ Below W.heap.size W w') : Calls Tryd.prog 3 #[opV i v z f t e, shV c n ti tf x cm] w fun e w' => e = .returned (.bool true) ∧ Below w.heap.size w w' := by
  have HO := hide hO
  have H0 := hide (fun W (hW : Tab W) => qawake_any W hW)
  have H1 := hide (fun W (_ : Tab W) => hM W)
  have H2 := hide (fun W (_ : Tab W) => hR W)
  have HT := hide htab
  have H3 := hide (fun W (_ : Tab W) => hY W)
  clear hY
  clear hO hM hR htab
  have Bx0 := hide ((Blk.newAt w (w.heap.size) (rfl) #[.string i, .int .i64 v, .int .i64 z, .string f, .string t, .int .i64 e] 23).alloc (.cells #[.int .i64 c, .bool n, .string ti, .string tf, .int .i64 x, .bool cm] 25))
  have Bs0 := hide (Blk.newAt (w.alloc (.cells #[.string i, .int .i64 v, .int .i64 z, .string f, .string t, .int .i64 e] 23)) (w.heap.size + 1) (by simp) #[.int .i64 c, .bool n, .string ti, .string tf, .int .i64 x, .bool cm] 25)
  have HB0 : Hid (Below w.heap.size w ((w.alloc (.cells #[.string i, .int .i64 v, .int .i64 z, .string f, .string t, .int .i64 e] 23)).alloc (.cells #[.int .i64 c, .bool n, .string ti, .string tf, .int .i64 x, .bool cm] 25))) := (((Below.refl _ _).alloc (Nat.le_refl _) _).alloc (by simp <;> omega) _)
  go_enter Tryd.func3, Tryd.ntmps3
  go_wp2_with fail
  refine (HO.out _ (HT.out.below HB0.out)).mono ?_
  rintro e w1 ⟨rfl, hb⟩
  have Bx1 := Blk.on Bx0 hb
  have Bs1 := Blk.on Bs0 hb
  have HB1 := hide (HB0.out.trans (hb.mono HB0.out.size))
  clear hb Bx0 Bs0 HB0 
  obtain ⟨yx0, yx1, yx2, yx3, yx4, yx5⟩ := Bx1.out.six
  obtain ⟨ys0, ys1, ys2, ys3, ys4, ys5⟩ := Bs1.out.six
  have Bx2 := Blk.up Bx1 (.cells #[.string I, .int .i64 V, .int .i64 Z, .string F, .string T, .int .i64 E] 23)
  have Bs2 := Blk.up Bs1 (.cells #[.string I, .int .i64 V, .int .i64 Z, .string F, .string T, .int .i64 E] 23)
  have By2 := hide ((Blk.newAt w1 (w1.heap.size) (rfl) #[.string I, .int .i64 V, .int .i64 Z, .string F, .string T, .int .i64 E] 23))
  have HB2 : Hid (Below w.heap.size w (w1.alloc (.cells #[.string I, .int .i64 V, .int .i64 Z, .string F, .string T, .int .i64 E] 23))) := (HB1.out.alloc HB1.out.size _)
  clear Bx1 Bs1 HB1 yx0 yx1 yx2 yx3 yx4 yx5 ys0 ys1 ys2 ys3 ys4 ys5
  obtain ⟨yx0, yx1, yx2, yx3, yx4, yx5⟩ := Bx2.out.six
  obtain ⟨ys0, ys1, ys2, ys3, ys4, ys5⟩ := Bs2.out.six
  obtain ⟨yy0, yy1, yy2, yy3, yy4, yy5⟩ := By2.out.six
  go_upto_region 2 with (fail)
  obtain ⟨V0, hV0⟩ : ∃ X0, X0 = (w1.alloc (.cells #[.string I, .int .i64 V, .int .i64 Z, .string F, .string T, .int .i64 E] 23)) := ⟨_, rfl⟩
  rw [← hV0] at HB2 Bx2 Bs2 By2 yx0 yx1 yx2 yx3 yx4 yx5 ys0 ys1 ys2 ys3 ys4 ys5 yy0 yy1 yy2 yy3 yy4 yy5
  simp only [← hV0]
  clear hV0
  have HTW := hide (HT.out.below HB2.out)
  clear HT HO
  have b0 : Hid (Below V0.heap.size V0 V0.drew) := bdrewD V0
  have HC : Hid (∀ w', Below V0.heap.size V0 w' → w'.cell? ⟨w.heap.size, 0, none⟩ = some (.string i) ∧ w'.cell? ⟨w.heap.size, 1, none⟩ = some (.int .i64 v) ∧ w'.cell? ⟨w.heap.size, 2, none⟩ = some (.int .i64 z) ∧ w'.cell? ⟨w.heap.size, 3, none⟩ = some (.string f) ∧ w'.cell? ⟨w.heap.size, 4, none⟩ = some (.string t) ∧ w'.cell? ⟨w.heap.size, 5, none⟩ = some (.int .i64 e) ∧ w'.cell? ⟨w1.heap.size, 0, none⟩ = some (.string I) ∧ w'.cell? ⟨w1.heap.size, 1, none⟩ = some (.int .i64 V) ∧ w'.cell? ⟨w1.heap.size, 2, none⟩ = some (.int .i64 Z) ∧ w'.cell? ⟨w1.heap.size, 3, none⟩ = some (.string F) ∧ w'.cell? ⟨w1.heap.size, 4, none⟩ = some (.string T) ∧ w'.cell? ⟨w1.heap.size, 5, none⟩ = some (.int .i64 E)) := fun w' hb => ⟨(Bx2.out.below hb Bx2.out.lt).cell 0, (Bx2.out.below hb Bx2.out.lt).cell 1, (Bx2.out.below hb Bx2.out.lt).cell 2, (Bx2.out.below hb Bx2.out.lt).cell 3, (Bx2.out.below hb Bx2.out.lt).cell 4, (Bx2.out.below hb Bx2.out.lt).cell 5, (By2.out.below hb By2.out.lt).cell 0, (By2.out.below hb By2.out.lt).cell 1, (By2.out.below hb By2.out.lt).cell 2, (By2.out.below hb By2.out.lt).cell 3, (By2.out.below hb By2.out.lt).cell 4, (By2.out.below hb By2.out.lt).cell 5⟩
  refine wp_region_held_drew (S := (fun w' => w'.cell? ⟨w.heap.size, 0, none⟩ = some (.string i) ∧ w'.cell? ⟨w.heap.size, 1, none⟩ = some (.int .i64 v) ∧ w'.cell? ⟨w.heap.size, 2, none⟩ = some (.int .i64 z) ∧ w'.cell? ⟨w.heap.size, 3, none⟩ = some (.string f) ∧ w'.cell? ⟨w.heap.size, 4, none⟩ = some (.string t) ∧ w'.cell? ⟨w.heap.size, 5, none⟩ = some (.int .i64 e) ∧ w'.cell? ⟨w1.heap.size, 0, none⟩ = some (.string I) ∧ w'.cell? ⟨w1.heap.size, 1, none⟩ = some (.int .i64 V) ∧ w'.cell? ⟨w1.heap.size, 2, none⟩ = some (.int .i64 Z) ∧ w'.cell? ⟨w1.heap.size, 3, none⟩ = some (.string F) ∧ w'.cell? ⟨w1.heap.size, 4, none⟩ = some (.string T) ∧ w'.cell? ⟨w1.heap.size, 5, none⟩ = some (.int .i64 E))) (by kernel_rfl) ?_ (fun hHeld => ?_)
  · (try dsimp only)
    go_keep
  refine wpAnyH_ready (rs := [0]) (by kernel_rfl) (by simp) ?_
  refine AllReadyH.cons (o := Oper.mk (some 12) _ _ _ _ _) rfl (fun K hK => ?_) AllReadyH.nil
  go_simp
  refine (H0.out _ (HTW.out.below b0.out)).mono ?_
  rintro e w10 ⟨rfl, hb⟩
  have b1 := hide (b0.out.trans (hb.mono b0.out.size))
  clear hb
  obtain ⟨q0_0, q0_1, q0_2, q0_3, q0_4, q0_5, q0_6, q0_7, q0_8, q0_9, q0_10, q0_11⟩ := HC.out _ b1.out
  try simp only []
  refine hK.out _ _ ?_ (fun hHeld => ?_)
  · (try dsimp only)
    go_keep
  clear hK K
  refine wpAnyH_take (i := 1) (oi := Oper.mk (some 13) _ _ _ _ _) (v := .bool true) rfl (by kernel_rfl) (by kernel_rfl) (by kernel_rfl) (fun _ _ _ h => h) (Or.inl ⟨by rfl, ?_⟩) (by assumption) ?_
  · intro wX hSw
    (try dsimp only at hSw)
    go_simp
  simp only [Act.put, List.setIfInBounds_toArray, List.set_cons_succ, List.set_cons_zero]
  refine wpAnyH_take (i := 2) (oi := Oper.mk (some 14) _ _ _ _ _) (v := .agg #[.string i, .int .i64 v, .int .i64 z, .string f, .string t, .int .i64 e]) rfl (by kernel_rfl) (by kernel_rfl) (by kernel_rfl) (fun _ _ _ h => h) (Or.inl ⟨by rfl, ?_⟩) (by assumption) ?_
  · intro wX hSw
    (try dsimp only at hSw)
    go_simp
  simp only [Act.put, List.setIfInBounds_toArray, List.set_cons_succ, List.set_cons_zero]
  refine wpAnyH_take (i := 4) (oi := Oper.mk (some 16) _ _ _ _ _) (v := .agg #[.string i, .int .i64 v, .int .i64 z, .string f, .string t, .int .i64 e]) rfl (by kernel_rfl) (by kernel_rfl) (by kernel_rfl) (fun _ _ _ h => h) (Or.inl ⟨by rfl, ?_⟩) (by assumption) ?_
  · intro wX hSw
    (try dsimp only at hSw)
    go_simp
  simp only [Act.put, List.setIfInBounds_toArray, List.set_cons_succ, List.set_cons_zero]
  refine wpAnyH_ready (rs := [3]) (by kernel_rfl) (by simp) ?_
  refine AllReadyH.cons (o := Oper.mk (some 15) _ _ _ _ _) rfl (fun K hK => ?_) AllReadyH.nil
  go_simp
  refine (H1.out _ (HTW.out.below b1.out)).mono ?_
  rintro e w11 ⟨rfl, hb⟩
  have b2 := hide (b1.out.trans (hb.mono b1.out.size))
  clear hb
  obtain ⟨q1_0, q1_1, q1_2, q1_3, q1_4, q1_5, q1_6, q1_7, q1_8, q1_9, q1_10, q1_11⟩ := HC.out _ b2.out
  try simp only []
  refine hK.out _ _ ?_ (fun hHeld => ?_)
  · (try dsimp only)
    go_keep
  clear hK K
  refine wpAnyH_ready (rs := [5]) (by kernel_rfl) (by simp) ?_
  refine AllReadyH.cons (o := Oper.mk (some 17) _ _ _ _ _) rfl (fun K hK => ?_) AllReadyH.nil
  go_simp
  refine (H2.out _ (HTW.out.below b2.out)).mono ?_
  rintro e w12 ⟨rfl, hb⟩
  have b3 := hide (b2.out.trans (hb.mono b2.out.size))
  clear hb
  obtain ⟨q2_0, q2_1, q2_2, q2_3, q2_4, q2_5, q2_6, q2_7, q2_8, q2_9, q2_10, q2_11⟩ := HC.out _ b3.out
  try simp only []
  refine hK.out _ _ ?_ (fun hHeld => ?_)
  · (try dsimp only)
    go_keep
  clear hK K
  refine wpAnyH_take (i := 6) (oi := Oper.mk (some 18) _ _ _ _ _) (v := .bool true) rfl (by kernel_rfl) (by kernel_rfl) (by kernel_rfl) (fun _ _ _ h => h) (Or.inl ⟨by rfl, ?_⟩) (by assumption) ?_
  · intro wX hSw
    (try dsimp only at hSw)
    go_simp
  simp only [Act.put, List.setIfInBounds_toArray, List.set_cons_succ, List.set_cons_zero]
  refine wpAnyH_take (i := 7) (oi := Oper.mk (some 19) _ _ _ _ _) (v := .bool true) rfl (by kernel_rfl) (by kernel_rfl) (by kernel_rfl) (fun _ _ _ h => h) (Or.inl ⟨by rfl, ?_⟩) (by assumption) ?_
  · intro wX hSw
    (try dsimp only at hSw)
    go_simp
  simp only [Act.put, List.setIfInBounds_toArray, List.set_cons_succ, List.set_cons_zero]
  refine wpAnyH_take (i := 8) (oi := Oper.mk (some 20) _ _ _ _ _) (v := .bool true) rfl (by kernel_rfl) (by kernel_rfl) (by kernel_rfl) (fun _ _ _ h => h) (Or.inl ⟨by rfl, ?_⟩) (by assumption) ?_
  · intro wX hSw
    (try dsimp only at hSw)
    go_simp
  simp only [Act.put, List.setIfInBounds_toArray, List.set_cons_succ, List.set_cons_zero]
  refine wpAnyH_take (i := 9) (oi := Oper.mk (some 21) _ _ _ _ _) (v := .int .i64 0) rfl (by kernel_rfl) (by kernel_rfl) (by kernel_rfl) (fun _ _ _ h => h) (Or.inl ⟨by rfl, ?_⟩) (by assumption) ?_
  · intro wX hSw
    (try dsimp only at hSw)
    go_simp
  simp only [Act.put, List.setIfInBounds_toArray, List.set_cons_succ, List.set_cons_zero]
  refine wpAnyH_take (i := 10) (oi := Oper.mk (some 22) _ _ _ _ _) (v := .bool false) rfl (by kernel_rfl) (by kernel_rfl) (by kernel_rfl) (fun _ _ _ h => h) (Or.inl ⟨by rfl, ?_⟩) (by assumption) ?_
  · intro wX hSw
    (try dsimp only at hSw)
    go_simp
  simp only [Act.put, List.setIfInBounds_toArray, List.set_cons_succ, List.set_cons_zero]
  refine wpAnyH_take (i := 11) (oi := Oper.mk (some 23) _ _ _ _ _) (v := .bool false) rfl (by kernel_rfl) (by kernel_rfl) (by kernel_rfl) (fun _ _ _ h => h) (Or.inl ⟨by rfl, ?_⟩) (by assumption) ?_
  · intro wX hSw
    (try dsimp only at hSw)
    go_simp
  simp only [Act.put, List.setIfInBounds_toArray, List.set_cons_succ, List.set_cons_zero]
  refine wpAnyH_take (i := 12) (oi := Oper.mk (some 24) _ _ _ _ _) (v := .agg #[.string I, .int .i64 V, .int .i64 Z, .string F, .string T, .int .i64 E]) rfl (by kernel_rfl) (by kernel_rfl) (by kernel_rfl) (fun _ _ _ h => h) (Or.inl ⟨by rfl, ?_⟩) (by assumption) ?_
  · intro wX hSw
    (try dsimp only at hSw)
    go_simp
  simp only [Act.put, List.setIfInBounds_toArray, List.set_cons_succ, List.set_cons_zero]
  refine wpAnyH_ready (rs := [13]) (by kernel_rfl) (by simp) ?_
  refine AllReadyH.cons (o := Oper.mk (some 25) _ _ _ _ _) rfl (fun K hK => ?_) AllReadyH.nil
  go_simp
  refine (H3.out _ (HTW.out.below b3.out)).mono ?_
  rintro e w13 ⟨rfl, hb⟩
  have b4 := hide (b3.out.trans (hb.mono b3.out.size))
  clear hb
  obtain ⟨q3_0, q3_1, q3_2, q3_3, q3_4, q3_5, q3_6, q3_7, q3_8, q3_9, q3_10, q3_11⟩ := HC.out _ b4.out
  try simp only []
  refine hK.out _ _ ?_ (fun hHeld => ?_)
  · (try dsimp only)
    go_keep
  clear hK K
  refine wpAnyH_take (i := 14) (oi := Oper.mk (some 26) _ _ _ _ _) (v := .bool true) rfl (by kernel_rfl) (by kernel_rfl) (by kernel_rfl) (fun _ _ _ h => h) (Or.inl ⟨by rfl, ?_⟩) (by assumption) ?_
  · intro wX hSw
    (try dsimp only at hSw)
    go_simp
  simp only [Act.put, List.setIfInBounds_toArray, List.set_cons_succ, List.set_cons_zero]
  refine wpAnyH_take (i := 15) (oi := Oper.mk (some 27) _ _ _ _ _) (v := .bool true) rfl (by kernel_rfl) (by kernel_rfl) (by kernel_rfl) (fun _ _ _ h => h) (Or.inl ⟨by rfl, ?_⟩) (by assumption) ?_
  · intro wX hSw
    (try dsimp only at hSw)
    go_simp
  simp only [Act.put, List.setIfInBounds_toArray, List.set_cons_succ, List.set_cons_zero]
  refine wpAnyH_take (i := 16) (oi := Oper.mk (some 4) _ _ _ _ _) (v := .bool true) rfl (by kernel_rfl) (by kernel_rfl) (by kernel_rfl) (fun _ _ _ h => h) (Or.inl ⟨by rfl, ?_⟩) (by assumption) ?_
  · intro wX hSw
    (try dsimp only at hSw)
    go_simp
  simp only [Act.put, List.setIfInBounds_toArray, List.set_cons_succ, List.set_cons_zero]
  refine wpAnyH_done (by kernel_rfl) ?_ _
  have HBE := hide (HB2.out.trans (b4.out.mono HB2.out.size))
  go_wp2
  go_ret
  exact ⟨rfl, HBE.out⟩

set_option maxRecDepth 100000 in
set_option maxHeartbeats 8000000 in
theorem omyl_f80 (i : ByteArray) (v z : Int) (f t : ByteArray) (e c : Int) (n : Bool) (ti tf : ByteArray) (x : Int) (cm : Bool) (I : ByteArray) (V Z : Int) (F T : ByteArray) (E : Int) (w : World) (htab : Tab w) (hO : ∀ W, Tab W → Calls Tryd.prog 6 #[shV c n ti tf x cm] W fun e w' => e = .returned (.tuple #[.agg #[.string I, .int .i64 V, .int .i64 Z, .string F, .string T, .int .i64 E], .int .i64 80]) ∧ Below W.heap.size W w') (hM : ∀ W, Calls Tryd.prog 8 #[opV i v z f t e] W fun e w' => e = .returned (.bool false) ∧ Below W.heap.size W w') (hR : ∀ W, Calls Tryd.prog 9 #[opV i v z f t e] W fun e w' => e = .returned (.bool false) ∧ Below W.heap.size W w') : Calls Tryd.prog 3 #[opV i v z f t e, shV c n ti tf x cm] w fun e w' => e = .returned (.bool true) ∧ Below w.heap.size w w' := by
  have HO := hide hO
  have H0 := hide (fun W (hW : Tab W) => qawake_any W hW)
  have H1 := hide (fun W (_ : Tab W) => hM W)
  have H2 := hide (fun W (_ : Tab W) => hR W)
  have HT := hide htab
  clear hO hM hR htab
  have Bx0 := hide ((Blk.newAt w (w.heap.size) (rfl) #[.string i, .int .i64 v, .int .i64 z, .string f, .string t, .int .i64 e] 23).alloc (.cells #[.int .i64 c, .bool n, .string ti, .string tf, .int .i64 x, .bool cm] 25))
  have Bs0 := hide (Blk.newAt (w.alloc (.cells #[.string i, .int .i64 v, .int .i64 z, .string f, .string t, .int .i64 e] 23)) (w.heap.size + 1) (by simp) #[.int .i64 c, .bool n, .string ti, .string tf, .int .i64 x, .bool cm] 25)
  have HB0 : Hid (Below w.heap.size w ((w.alloc (.cells #[.string i, .int .i64 v, .int .i64 z, .string f, .string t, .int .i64 e] 23)).alloc (.cells #[.int .i64 c, .bool n, .string ti, .string tf, .int .i64 x, .bool cm] 25))) := (((Below.refl _ _).alloc (Nat.le_refl _) _).alloc (by simp <;> omega) _)
  go_enter Tryd.func3, Tryd.ntmps3
  go_wp2_with fail
  refine (HO.out _ (HT.out.below HB0.out)).mono ?_
  rintro e w1 ⟨rfl, hb⟩
  have Bx1 := Blk.on Bx0 hb
  have Bs1 := Blk.on Bs0 hb
  have HB1 := hide (HB0.out.trans (hb.mono HB0.out.size))
  clear hb Bx0 Bs0 HB0 
  obtain ⟨yx0, yx1, yx2, yx3, yx4, yx5⟩ := Bx1.out.six
  obtain ⟨ys0, ys1, ys2, ys3, ys4, ys5⟩ := Bs1.out.six
  have Bx2 := Blk.up Bx1 (.cells #[.string I, .int .i64 V, .int .i64 Z, .string F, .string T, .int .i64 E] 23)
  have Bs2 := Blk.up Bs1 (.cells #[.string I, .int .i64 V, .int .i64 Z, .string F, .string T, .int .i64 E] 23)
  have By2 := hide ((Blk.newAt w1 (w1.heap.size) (rfl) #[.string I, .int .i64 V, .int .i64 Z, .string F, .string T, .int .i64 E] 23))
  have HB2 : Hid (Below w.heap.size w (w1.alloc (.cells #[.string I, .int .i64 V, .int .i64 Z, .string F, .string T, .int .i64 E] 23))) := (HB1.out.alloc HB1.out.size _)
  clear Bx1 Bs1 HB1 yx0 yx1 yx2 yx3 yx4 yx5 ys0 ys1 ys2 ys3 ys4 ys5
  obtain ⟨yx0, yx1, yx2, yx3, yx4, yx5⟩ := Bx2.out.six
  obtain ⟨ys0, ys1, ys2, ys3, ys4, ys5⟩ := Bs2.out.six
  obtain ⟨yy0, yy1, yy2, yy3, yy4, yy5⟩ := By2.out.six
  go_upto_region 2 with (fail)
  obtain ⟨V0, hV0⟩ : ∃ X0, X0 = (w1.alloc (.cells #[.string I, .int .i64 V, .int .i64 Z, .string F, .string T, .int .i64 E] 23)) := ⟨_, rfl⟩
  rw [← hV0] at HB2 Bx2 Bs2 By2 yx0 yx1 yx2 yx3 yx4 yx5 ys0 ys1 ys2 ys3 ys4 ys5 yy0 yy1 yy2 yy3 yy4 yy5
  simp only [← hV0]
  clear hV0
  have HTW := hide (HT.out.below HB2.out)
  clear HT HO
  have b0 : Hid (Below V0.heap.size V0 V0.drew) := bdrewD V0
  have HC : Hid (∀ w', Below V0.heap.size V0 w' → w'.cell? ⟨w.heap.size, 0, none⟩ = some (.string i) ∧ w'.cell? ⟨w.heap.size, 1, none⟩ = some (.int .i64 v) ∧ w'.cell? ⟨w.heap.size, 2, none⟩ = some (.int .i64 z) ∧ w'.cell? ⟨w.heap.size, 3, none⟩ = some (.string f) ∧ w'.cell? ⟨w.heap.size, 4, none⟩ = some (.string t) ∧ w'.cell? ⟨w.heap.size, 5, none⟩ = some (.int .i64 e)) := fun w' hb => ⟨(Bx2.out.below hb Bx2.out.lt).cell 0, (Bx2.out.below hb Bx2.out.lt).cell 1, (Bx2.out.below hb Bx2.out.lt).cell 2, (Bx2.out.below hb Bx2.out.lt).cell 3, (Bx2.out.below hb Bx2.out.lt).cell 4, (Bx2.out.below hb Bx2.out.lt).cell 5⟩
  refine wp_region_held_drew (S := (fun w' => w'.cell? ⟨w.heap.size, 0, none⟩ = some (.string i) ∧ w'.cell? ⟨w.heap.size, 1, none⟩ = some (.int .i64 v) ∧ w'.cell? ⟨w.heap.size, 2, none⟩ = some (.int .i64 z) ∧ w'.cell? ⟨w.heap.size, 3, none⟩ = some (.string f) ∧ w'.cell? ⟨w.heap.size, 4, none⟩ = some (.string t) ∧ w'.cell? ⟨w.heap.size, 5, none⟩ = some (.int .i64 e))) (by kernel_rfl) ?_ (fun hHeld => ?_)
  · (try dsimp only)
    go_keep
  refine wpAnyH_ready (rs := [0]) (by kernel_rfl) (by simp) ?_
  refine AllReadyH.cons (o := Oper.mk (some 12) _ _ _ _ _) rfl (fun K hK => ?_) AllReadyH.nil
  go_simp
  refine (H0.out _ (HTW.out.below b0.out)).mono ?_
  rintro e w10 ⟨rfl, hb⟩
  have b1 := hide (b0.out.trans (hb.mono b0.out.size))
  clear hb
  obtain ⟨q0_0, q0_1, q0_2, q0_3, q0_4, q0_5⟩ := HC.out _ b1.out
  try simp only []
  refine hK.out _ _ ?_ (fun hHeld => ?_)
  · (try dsimp only)
    go_keep
  clear hK K
  refine wpAnyH_take (i := 1) (oi := Oper.mk (some 13) _ _ _ _ _) (v := .bool true) rfl (by kernel_rfl) (by kernel_rfl) (by kernel_rfl) (fun _ _ _ h => h) (Or.inl ⟨by rfl, ?_⟩) (by assumption) ?_
  · intro wX hSw
    (try dsimp only at hSw)
    go_simp
  simp only [Act.put, List.setIfInBounds_toArray, List.set_cons_succ, List.set_cons_zero]
  refine wpAnyH_take (i := 2) (oi := Oper.mk (some 14) _ _ _ _ _) (v := .agg #[.string i, .int .i64 v, .int .i64 z, .string f, .string t, .int .i64 e]) rfl (by kernel_rfl) (by kernel_rfl) (by kernel_rfl) (fun _ _ _ h => h) (Or.inl ⟨by rfl, ?_⟩) (by assumption) ?_
  · intro wX hSw
    (try dsimp only at hSw)
    go_simp
  simp only [Act.put, List.setIfInBounds_toArray, List.set_cons_succ, List.set_cons_zero]
  refine wpAnyH_take (i := 4) (oi := Oper.mk (some 16) _ _ _ _ _) (v := .agg #[.string i, .int .i64 v, .int .i64 z, .string f, .string t, .int .i64 e]) rfl (by kernel_rfl) (by kernel_rfl) (by kernel_rfl) (fun _ _ _ h => h) (Or.inl ⟨by rfl, ?_⟩) (by assumption) ?_
  · intro wX hSw
    (try dsimp only at hSw)
    go_simp
  simp only [Act.put, List.setIfInBounds_toArray, List.set_cons_succ, List.set_cons_zero]
  refine wpAnyH_ready (rs := [3]) (by kernel_rfl) (by simp) ?_
  refine AllReadyH.cons (o := Oper.mk (some 15) _ _ _ _ _) rfl (fun K hK => ?_) AllReadyH.nil
  go_simp
  refine (H1.out _ (HTW.out.below b1.out)).mono ?_
  rintro e w11 ⟨rfl, hb⟩
  have b2 := hide (b1.out.trans (hb.mono b1.out.size))
  clear hb
  obtain ⟨q1_0, q1_1, q1_2, q1_3, q1_4, q1_5⟩ := HC.out _ b2.out
  try simp only []
  refine hK.out _ _ ?_ (fun hHeld => ?_)
  · (try dsimp only)
    go_keep
  clear hK K
  refine wpAnyH_ready (rs := [5]) (by kernel_rfl) (by simp) ?_
  refine AllReadyH.cons (o := Oper.mk (some 17) _ _ _ _ _) rfl (fun K hK => ?_) AllReadyH.nil
  go_simp
  refine (H2.out _ (HTW.out.below b2.out)).mono ?_
  rintro e w12 ⟨rfl, hb⟩
  have b3 := hide (b2.out.trans (hb.mono b2.out.size))
  clear hb
  obtain ⟨q2_0, q2_1, q2_2, q2_3, q2_4, q2_5⟩ := HC.out _ b3.out
  try simp only []
  refine hK.out _ _ ?_ (fun hHeld => ?_)
  · (try dsimp only)
    go_keep
  clear hK K
  refine wpAnyH_take (i := 6) (oi := Oper.mk (some 18) _ _ _ _ _) (v := .bool true) rfl (by kernel_rfl) (by kernel_rfl) (by kernel_rfl) (fun _ _ _ h => h) (Or.inl ⟨by rfl, ?_⟩) (by assumption) ?_
  · intro wX hSw
    (try dsimp only at hSw)
    go_simp
  simp only [Act.put, List.setIfInBounds_toArray, List.set_cons_succ, List.set_cons_zero]
  refine wpAnyH_take (i := 7) (oi := Oper.mk (some 19) _ _ _ _ _) (v := .bool true) rfl (by kernel_rfl) (by kernel_rfl) (by kernel_rfl) (fun _ _ _ h => h) (Or.inl ⟨by rfl, ?_⟩) (by assumption) ?_
  · intro wX hSw
    (try dsimp only at hSw)
    go_simp
  simp only [Act.put, List.setIfInBounds_toArray, List.set_cons_succ, List.set_cons_zero]
  refine wpAnyH_take (i := 8) (oi := Oper.mk (some 20) _ _ _ _ _) (v := .bool true) rfl (by kernel_rfl) (by kernel_rfl) (by kernel_rfl) (fun _ _ _ h => h) (Or.inl ⟨by rfl, ?_⟩) (by assumption) ?_
  · intro wX hSw
    (try dsimp only at hSw)
    go_simp
  simp only [Act.put, List.setIfInBounds_toArray, List.set_cons_succ, List.set_cons_zero]
  refine wpAnyH_take (i := 9) (oi := Oper.mk (some 21) _ _ _ _ _) (v := .int .i64 80) rfl (by kernel_rfl) (by kernel_rfl) (by kernel_rfl) (fun _ _ _ h => h) (Or.inl ⟨by rfl, ?_⟩) (by assumption) ?_
  · intro wX hSw
    (try dsimp only at hSw)
    go_simp
  simp only [Act.put, List.setIfInBounds_toArray, List.set_cons_succ, List.set_cons_zero]
  refine wpAnyH_take (i := 10) (oi := Oper.mk (some 22) _ _ _ _ _) (v := .bool true) rfl (by kernel_rfl) (by kernel_rfl) (by kernel_rfl) (fun _ _ _ h => h) (Or.inl ⟨by rfl, ?_⟩) (by assumption) ?_
  · intro wX hSw
    (try dsimp only at hSw)
    go_simp
  simp only [Act.put, List.setIfInBounds_toArray, List.set_cons_succ, List.set_cons_zero]
  refine wpAnyH_take (i := 11) (oi := Oper.mk (some 23) _ _ _ _ _) (v := .bool true) rfl (by kernel_rfl) (by kernel_rfl) (by kernel_rfl) (fun _ _ _ h => h) (Or.inl ⟨by rfl, ?_⟩) (by assumption) ?_
  · intro wX hSw
    (try dsimp only at hSw)
    go_simp
  simp only [Act.put, List.setIfInBounds_toArray, List.set_cons_succ, List.set_cons_zero]
  refine wpAnyH_take (i := 12) (oi := Oper.mk (some 24) _ _ _ _ _) (v := undef) rfl (by kernel_rfl) (by kernel_rfl) (by kernel_rfl) (fun _ _ _ h => h) (Or.inr ⟨by rfl, rfl⟩) (by assumption) ?_
  simp only [Act.put, List.setIfInBounds_toArray, List.set_cons_succ, List.set_cons_zero]
  refine wpAnyH_take (i := 13) (oi := Oper.mk (some 25) _ _ _ _ _) (v := undef) rfl (by kernel_rfl) (by kernel_rfl) (by kernel_rfl) (fun _ _ _ h => h) (Or.inr ⟨by rfl, rfl⟩) (by assumption) ?_
  simp only [Act.put, List.setIfInBounds_toArray, List.set_cons_succ, List.set_cons_zero]
  refine wpAnyH_take (i := 14) (oi := Oper.mk (some 26) _ _ _ _ _) (v := .bool true) rfl (by kernel_rfl) (by kernel_rfl) (by kernel_rfl) (fun _ _ _ h => h) (Or.inl ⟨by rfl, ?_⟩) (by assumption) ?_
  · intro wX hSw
    (try dsimp only at hSw)
    go_simp
  simp only [Act.put, List.setIfInBounds_toArray, List.set_cons_succ, List.set_cons_zero]
  refine wpAnyH_take (i := 15) (oi := Oper.mk (some 27) _ _ _ _ _) (v := .bool true) rfl (by kernel_rfl) (by kernel_rfl) (by kernel_rfl) (fun _ _ _ h => h) (Or.inl ⟨by rfl, ?_⟩) (by assumption) ?_
  · intro wX hSw
    (try dsimp only at hSw)
    go_simp
  simp only [Act.put, List.setIfInBounds_toArray, List.set_cons_succ, List.set_cons_zero]
  refine wpAnyH_take (i := 16) (oi := Oper.mk (some 4) _ _ _ _ _) (v := .bool true) rfl (by kernel_rfl) (by kernel_rfl) (by kernel_rfl) (fun _ _ _ h => h) (Or.inl ⟨by rfl, ?_⟩) (by assumption) ?_
  · intro wX hSw
    (try dsimp only at hSw)
    go_simp
  simp only [Act.put, List.setIfInBounds_toArray, List.set_cons_succ, List.set_cons_zero]
  refine wpAnyH_done (by kernel_rfl) ?_ _
  have HBE := hide (HB2.out.trans (b3.out.mono HB2.out.size))
  go_wp2
  go_ret
  exact ⟨rfl, HBE.out⟩

theorem omyl_walk (w : World) (htab : Tab w) (i : ByteArray) (v z : Int) (f t : ByteArray) (e : Int) (b1 : i.size ≤ 140737488355328) (b2 : f.size ≤ 140737488355328) (b3 : t.size ≤ 140737488355328) (c : Int) (n : Bool) (ti tf : ByteArray) (x : Int) (cm : Bool) : Calls Tryd.prog 3 #[opV i v z f t e, shV c n ti tf x cm] w fun e w' => e = .returned (.bool true) ∧ Below w.heap.size w w' := by
  have hO := fun W hW => Of_any c n ti tf x cm W hW
  by_cases hm : MayO ⟨bys i, v, z, bys f, bys t, e⟩
  · have hM := fun W => May_T i v z f t e W hm
    have hR := fun W => rmayO_T i v z f t e W (by omega) (by omega) (by omega) hm
    by_cases h : HasO ⟨c, n, bys ti, bys tf, x, cm⟩
    · have hy := oper_may h
      rw [ofS_yes h] at hO
      exact omyl_t0 i v z f t e c n ti tf x cm _ _ _ _ _ _ w htab hO hM hR (fun W => May_T _ _ _ _ _ _ W (by rw [bys_mk, bys_mk, bys_mk]; exact hy))
    · rw [ofS_no h] at hO
      exact omyl_t80 i v z f t e c n ti tf x cm _ _ _ _ _ _ w htab hO hM hR
  · have hM := fun W => May_F i v z f t e W hm
    have hR := fun W => rmayO_F i v z f t e W (by omega) (by omega) (by omega) hm
    by_cases h : HasO ⟨c, n, bys ti, bys tf, x, cm⟩
    · have hy := oper_may h
      rw [ofS_yes h] at hO
      exact omyl_f0 i v z f t e c n ti tf x cm _ _ _ _ _ _ w htab hO hM hR (fun W => May_T _ _ _ _ _ _ W (by rw [bys_mk, bys_mk, bys_mk]; exact hy))
    · rw [ofS_no h] at hO
      exact omyl_f80 i v z f t e c n ti tf x cm _ _ _ _ _ _ w htab hO hM hR

end Go.Proofs.YtobloamnaemfnaaDoor

namespace Go.Proofs.YtobloamnaemfnaaDoor
open Go.RowKit

theorem tg : Tryd.prog.globalNamed "internal/strconv.uint64pow10" = some 0 := by kernel_rfl
theorem tgt : (Tryd.prog.globals[0]?).map (·.type) = some 105 := by kernel_rfl
theorem tc20 : Tryd.prog.cellsOf 105 = 20 := by kernel_rfl
theorem tc1 : Tryd.prog.cellsOf 80 = 1 := by kernel_rfl

theorem table {W : World} (h : laidMetH Tryd.prog [("math/bits.deBruijn32tab", Rows.laid_math_bits_deBruijn32tab), ("math/bits.deBruijn64tab", Rows.laid_math_bits_deBruijn64tab), ("internal/strconv.uint64pow10", Rows.laid_internal_strconv_uint64pow10), ("unicode/utf8.acceptRanges", Rows.laid_unicode_utf8_acceptRanges), ("strconv.ErrRange", Rows.laid_strconv_ErrRange), ("strconv.ErrSyntax", Rows.laid_strconv_ErrSyntax), ("unicode/utf8.first", Rows.laid_unicode_utf8_first)] W) : Tab W := by
  have h' : laidMet Tryd.prog [("math/bits.deBruijn32tab", Rows.laid_math_bits_deBruijn32tab), ("math/bits.deBruijn64tab", Rows.laid_math_bits_deBruijn64tab), ("internal/strconv.uint64pow10", Rows.laid_internal_strconv_uint64pow10), ("unicode/utf8.acceptRanges", Rows.laid_unicode_utf8_acceptRanges), ("strconv.ErrRange", Rows.laid_strconv_ErrRange), ("strconv.ErrSyntax", Rows.laid_strconv_ErrSyntax), ("unicode/utf8.first", Rows.laid_unicode_utf8_first)] W := h
  obtain ⟨ps, ⟨_, _, _, _, _, q1, _, _, _, _, ⟨_, _, _, _, _, q2, _, _, _, _, ⟨g', t', cs, fuel, p3, q3, hg', ht', hvar, hd, _, _⟩, _⟩, _⟩, _⟩ := h'
  obtain rfl := Option.some.inj (tg.symm.trans hg')
  obtain rfl := Option.some.inj (tgt.symm.trans ht')
  unfold Tab Lib.TabIs
  have hd' : DataW.trod (fun _ => ()) Tryd.prog W 0 (fun _ => true) false fuel 105 cs.toList = some (Lib.tabData .u64 Lib.pow10Tab, p3) := hd
  rw [hvar, ← Lib.cells_of_tab Tryd.underlying105 Tryd.underlying80 tc1 tc20 hd']

def tabVals : DataW Unit → Array Value
  | .agg l => (l.flatMap fun
      | .lit (.int k z) => [Value.int k z]
      | .agg l2 => l2.map fun
        | .lit (.int k z) => Value.int k z
        | _ => .int .u8 0
      | _ => []).toArray
  | _ => #[]

def putVals (d : DataW Unit) : Obj → Obj
  | .cells _ t frozen => .cells (tabVals d) t frozen
  | o => o

def errText : DataW Unit → ByteArray
  | .iface _ (.ptr (.agg [.lit (.string l)])) => ⟨l.toArray⟩
  | _ => ⟨#[]⟩

def putErr (b : Nat) : Obj → Obj
  | .cells _ t frozen => .cells #[.iface 131 (.pointer (some ⟨b, 0, none⟩))] t frozen
  | o => o

noncomputable def laidWorld (os : Os) : World :=
  { World.holding Tryd.prog os ⟨#[], #[], []⟩ with
    heap := (((((((((World.holding Tryd.prog os ⟨#[], #[], []⟩).heap.modify 6 (putVals Rows.laid_math_bits_deBruijn32tab)).modify 7 (putVals Rows.laid_math_bits_deBruijn64tab)).modify 0 (putVals Rows.laid_internal_strconv_uint64pow10)).modify 5 (putVals Rows.laid_unicode_utf8_acceptRanges)).modify 4 (putVals Rows.laid_unicode_utf8_first)).modify 3 (putErr (World.holding Tryd.prog os ⟨#[], #[], []⟩).heap.size)).modify 2 (putErr ((World.holding Tryd.prog os ⟨#[], #[], []⟩).heap.size + 1))).push (.cells #[.string (errText Rows.laid_strconv_ErrRange)] 133)).push (.cells #[.string (errText Rows.laid_strconv_ErrSyntax)] 133) }

end Go.Proofs.YtobloamnaemfnaaDoor
