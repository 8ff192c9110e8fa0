/-
  What width's may and Check do.
-/
import Derived.Test.YtobloamnaemfnaaGreatDoorVB12
import Derived.Deep.RegionHeld3
namespace Go.Proofs.YtobloamnaemfnaaGreatDoor
open Go.RowKit

set_option maxHeartbeats 2000000 in
theorem may_f0 (k mf xf ms xs : Int) (st : Bool) (cs : Int) (ns : Bool) (ts : ByteArray) (es md : Int) (hd : Bool) (im ix : Int) (w : World) (htab : Tab w) (h0 : ¬ (0 ≤ k ∧ k ≤ 4)) : Calls Tryz.prog 34 #[prV k mf xf ms xs st cs ns ts es md hd im ix] w fun e w' => e = .returned (.bool false) ∧ Below w.heap.size w w' := by
  have H0 := hide (fun W (hW : Tab W) => within_f k 0 4 W h0)
  have HT := hide htab
  clear htab h0
  have Bp0 := hide (Blk.newAt w (w.heap.size) (rfl) #[.int .i64 k, .int .i64 mf, .int .i64 xf, .int .i64 ms, .int .i64 xs, .bool st, .int .i64 cs, .bool ns, .string ts, .int .i64 es, .int .i64 md, .bool hd, .int .i64 im, .int .i64 ix] 61)
  have HB0 : Hid (Below w.heap.size w (w.alloc (.cells #[.int .i64 k, .int .i64 mf, .int .i64 xf, .int .i64 ms, .int .i64 xs, .bool st, .int .i64 cs, .bool ns, .string ts, .int .i64 es, .int .i64 md, .bool hd, .int .i64 im, .int .i64 ix] 61))) := ((Below.refl _ _).alloc (Nat.le_refl _) _)
  have HTW := hide (HT.out.below HB0.out)
  obtain ⟨W, hW⟩ : ∃ W, W = (w.alloc (.cells #[.int .i64 k, .int .i64 mf, .int .i64 xf, .int .i64 ms, .int .i64 xs, .bool st, .int .i64 cs, .bool ns, .string ts, .int .i64 es, .int .i64 md, .bool hd, .int .i64 im, .int .i64 ix] 61)) := ⟨_, rfl⟩
  rw [← hW] at HB0 Bp0 HTW
  have HW := hide hW
  clear hW
  obtain ⟨yp0, yp1, yp2, yp3, yp4, yp5, yp6, yp7, yp8, yp9, yp10, yp11, yp12, yp13⟩ := Bp0.out.fourteen
  clear HT
  have b0 : Hid (Below W.heap.size W W.drew) := bdrewD W
  have HC : Hid (∀ w', Below W.heap.size W w' → w'.cell? ⟨w.heap.size, 0, none⟩ = some (.int .i64 k) ∧ w'.cell? ⟨w.heap.size, 10, none⟩ = some (.int .i64 md)) := fun w' hb => ⟨(Bp0.out.below hb Bp0.out.lt).cell 0, (Bp0.out.below hb Bp0.out.lt).cell 10⟩
  go_enter Tryz.func34, Tryz.ntmps34
  go_wp2_with fail
  simp only [← HW.out]
  refine wp_region_held_drew (S := (fun w' => w'.cell? ⟨w.heap.size, 0, none⟩ = some (.int .i64 k) ∧ w'.cell? ⟨w.heap.size, 10, none⟩ = some (.int .i64 md))) (by kernel_rfl) ?_ (fun hHeld => ?_)
  · (try dsimp only)
    go_keep
  refine wpAnyH_take (i := 0) (oi := Oper.mk (some 3) _ _ _ _ _) (v := .pointer (some ⟨w.heap.size, 0, none⟩)) rfl (by kernel_rfl) (by kernel_rfl) (by kernel_rfl) (fun _ _ _ h => h) (Or.inl ⟨by rfl, ?_⟩) (by assumption) ?_
  · intro wX hSw
    (try dsimp only at hSw)
    go_simp
  simp only [Act.put, List.setIfInBounds_toArray, List.set_cons_succ, List.set_cons_zero]
  refine wpAnyH_take (i := 1) (oi := Oper.mk (some 4) _ _ _ _ _) (v := .int .i64 k) rfl (by kernel_rfl) (by kernel_rfl) (by kernel_rfl) (fun _ _ _ h => h) (Or.inl ⟨by rfl, ?_⟩) (by assumption) ?_
  · intro wX hSw
    (try dsimp only at hSw)
    go_simp
  simp only [Act.put, List.setIfInBounds_toArray, List.set_cons_succ, List.set_cons_zero]
  refine wpAnyH_ready (rs := [2]) (by kernel_rfl) (by simp) ?_
  refine AllReadyH.cons (o := Oper.mk (some 5) _ _ _ _ _) rfl (fun K hK => ?_) AllReadyH.nil
  go_simp
  refine (H0.out _ (HTW.out.below b0.out)).mono ?_
  rintro e w1 ⟨rfl, hb⟩
  have b1 := hide (b0.out.trans (hb.mono b0.out.size))
  clear hb
  obtain ⟨q0_0, q0_10⟩ := HC.out _ b1.out
  try simp only []
  refine hK.out _ _ ?_ (fun hHeld => ?_)
  · (try dsimp only)
    go_keep
  clear hK K
  refine wpAnyH_take (i := 3) (oi := Oper.mk (some 6) _ _ _ _ _) (v := .bool false) rfl (by kernel_rfl) (by kernel_rfl) (by kernel_rfl) (fun _ _ _ h => h) (Or.inl ⟨by rfl, ?_⟩) (by assumption) ?_
  · intro wX hSw
    (try dsimp only at hSw)
    go_simp
  simp only [Act.put, List.setIfInBounds_toArray, List.set_cons_succ, List.set_cons_zero]
  refine wpAnyH_take (i := 4) (oi := Oper.mk (some 7) _ _ _ _ _) (v := undef) rfl (by kernel_rfl) (by kernel_rfl) (by kernel_rfl) (fun _ _ _ h => h) (Or.inr ⟨by rfl, rfl⟩) (by assumption) ?_
  simp only [Act.put, List.setIfInBounds_toArray, List.set_cons_succ, List.set_cons_zero]
  refine wpAnyH_take (i := 5) (oi := Oper.mk (some 8) _ _ _ _ _) (v := undef) rfl (by kernel_rfl) (by kernel_rfl) (by kernel_rfl) (fun _ _ _ h => h) (Or.inr ⟨by rfl, rfl⟩) (by assumption) ?_
  simp only [Act.put, List.setIfInBounds_toArray, List.set_cons_succ, List.set_cons_zero]
  refine wpAnyH_take (i := 6) (oi := Oper.mk (some 9) _ _ _ _ _) (v := undef) rfl (by kernel_rfl) (by kernel_rfl) (by kernel_rfl) (fun _ _ _ h => h) (Or.inr ⟨by rfl, rfl⟩) (by assumption) ?_
  simp only [Act.put, List.setIfInBounds_toArray, List.set_cons_succ, List.set_cons_zero]
  refine wpAnyH_take (i := 7) (oi := Oper.mk (some 10) _ _ _ _ _) (v := .bool false) rfl (by kernel_rfl) (by kernel_rfl) (by kernel_rfl) (fun _ _ _ h => h) (Or.inl ⟨by rfl, ?_⟩) (by assumption) ?_
  · intro wX hSw
    (try dsimp only at hSw)
    go_simp
  simp only [Act.put, List.setIfInBounds_toArray, List.set_cons_succ, List.set_cons_zero]
  refine wpAnyH_take (i := 8) (oi := Oper.mk (some 11) _ _ _ _ _) (v := .bool false) rfl (by kernel_rfl) (by kernel_rfl) (by kernel_rfl) (fun _ _ _ h => h) (Or.inl ⟨by rfl, ?_⟩) (by assumption) ?_
  · intro wX hSw
    (try dsimp only at hSw)
    go_simp
  simp only [Act.put, List.setIfInBounds_toArray, List.set_cons_succ, List.set_cons_zero]
  refine wpAnyH_take (i := 9) (oi := Oper.mk (some 12) _ _ _ _ _) (v := undef) rfl (by kernel_rfl) (by kernel_rfl) (by kernel_rfl) (fun _ _ _ h => h) (Or.inr ⟨by rfl, rfl⟩) (by assumption) ?_
  simp only [Act.put, List.setIfInBounds_toArray, List.set_cons_succ, List.set_cons_zero]
  refine wpAnyH_take (i := 10) (oi := Oper.mk (some 13) _ _ _ _ _) (v := undef) rfl (by kernel_rfl) (by kernel_rfl) (by kernel_rfl) (fun _ _ _ h => h) (Or.inr ⟨by rfl, rfl⟩) (by assumption) ?_
  simp only [Act.put, List.setIfInBounds_toArray, List.set_cons_succ, List.set_cons_zero]
  refine wpAnyH_take (i := 11) (oi := Oper.mk (some 14) _ _ _ _ _) (v := .bool false) rfl (by kernel_rfl) (by kernel_rfl) (by kernel_rfl) (fun _ _ _ h => h) (Or.inl ⟨by rfl, ?_⟩) (by assumption) ?_
  · intro wX hSw
    (try dsimp only at hSw)
    go_simp
  simp only [Act.put, List.setIfInBounds_toArray, List.set_cons_succ, List.set_cons_zero]
  refine wpAnyH_take (i := 12) (oi := Oper.mk (some 15) _ _ _ _ _) (v := .bool false) rfl (by kernel_rfl) (by kernel_rfl) (by kernel_rfl) (fun _ _ _ h => h) (Or.inl ⟨by rfl, ?_⟩) (by assumption) ?_
  · intro wX hSw
    (try dsimp only at hSw)
    go_simp
  simp only [Act.put, List.setIfInBounds_toArray, List.set_cons_succ, List.set_cons_zero]
  refine wpAnyH_take (i := 13) (oi := Oper.mk (some 16) _ _ _ _ _) (v := undef) rfl (by kernel_rfl) (by kernel_rfl) (by kernel_rfl) (fun _ _ _ h => h) (Or.inr ⟨by rfl, rfl⟩) (by assumption) ?_
  simp only [Act.put, List.setIfInBounds_toArray, List.set_cons_succ, List.set_cons_zero]
  refine wpAnyH_take (i := 14) (oi := Oper.mk (some 17) _ _ _ _ _) (v := undef) rfl (by kernel_rfl) (by kernel_rfl) (by kernel_rfl) (fun _ _ _ h => h) (Or.inr ⟨by rfl, rfl⟩) (by assumption) ?_
  simp only [Act.put, List.setIfInBounds_toArray, List.set_cons_succ, List.set_cons_zero]
  refine wpAnyH_take (i := 15) (oi := Oper.mk (some 18) _ _ _ _ _) (v := undef) rfl (by kernel_rfl) (by kernel_rfl) (by kernel_rfl) (fun _ _ _ h => h) (Or.inr ⟨by rfl, rfl⟩) (by assumption) ?_
  simp only [Act.put, List.setIfInBounds_toArray, List.set_cons_succ, List.set_cons_zero]
  refine wpAnyH_take (i := 16) (oi := Oper.mk (some 19) _ _ _ _ _) (v := undef) rfl (by kernel_rfl) (by kernel_rfl) (by kernel_rfl) (fun _ _ _ h => h) (Or.inr ⟨by rfl, rfl⟩) (by assumption) ?_
  simp only [Act.put, List.setIfInBounds_toArray, List.set_cons_succ, List.set_cons_zero]
  refine wpAnyH_take (i := 17) (oi := Oper.mk (some 20) _ _ _ _ _) (v := undef) rfl (by kernel_rfl) (by kernel_rfl) (by kernel_rfl) (fun _ _ _ h => h) (Or.inr ⟨by rfl, rfl⟩) (by assumption) ?_
  simp only [Act.put, List.setIfInBounds_toArray, List.set_cons_succ, List.set_cons_zero]
  refine wpAnyH_take (i := 18) (oi := Oper.mk (some 21) _ _ _ _ _) (v := undef) rfl (by kernel_rfl) (by kernel_rfl) (by kernel_rfl) (fun _ _ _ h => h) (Or.inr ⟨by rfl, rfl⟩) (by assumption) ?_
  simp only [Act.put, List.setIfInBounds_toArray, List.set_cons_succ, List.set_cons_zero]
  refine wpAnyH_take (i := 19) (oi := Oper.mk (some 22) _ _ _ _ _) (v := undef) rfl (by kernel_rfl) (by kernel_rfl) (by kernel_rfl) (fun _ _ _ h => h) (Or.inr ⟨by rfl, rfl⟩) (by assumption) ?_
  simp only [Act.put, List.setIfInBounds_toArray, List.set_cons_succ, List.set_cons_zero]
  refine wpAnyH_take (i := 20) (oi := Oper.mk (some 23) _ _ _ _ _) (v := .bool false) rfl (by kernel_rfl) (by kernel_rfl) (by kernel_rfl) (fun _ _ _ h => h) (Or.inl ⟨by rfl, ?_⟩) (by assumption) ?_
  · intro wX hSw
    (try dsimp only at hSw)
    go_simp
  simp only [Act.put, List.setIfInBounds_toArray, List.set_cons_succ, List.set_cons_zero]
  refine wpAnyH_take (i := 21) (oi := Oper.mk (some 2) _ _ _ _ _) (v := .bool false) rfl (by kernel_rfl) (by kernel_rfl) (by kernel_rfl) (fun _ _ _ h => h) (Or.inl ⟨by rfl, ?_⟩) (by assumption) ?_
  · intro wX hSw
    (try dsimp only at hSw)
    go_simp
  simp only [Act.put, List.setIfInBounds_toArray, List.set_cons_succ, List.set_cons_zero]
  refine wpAnyH_done (by kernel_rfl) ?_ _
  have HBE := hide (HB0.out.trans (b1.out.mono HB0.out.size))
  go_wp2
  go_ret
  exact ⟨rfl, HBE.out⟩

set_option maxHeartbeats 2000000 in
theorem may_f1 (k mf xf ms xs : Int) (st : Bool) (cs : Int) (ns : Bool) (ts : ByteArray) (es md : Int) (hd : Bool) (im ix : Int) (w : World) (htab : Tab w) (h0 : 0 ≤ k ∧ k ≤ 4) (h1 : ¬ (0 ≤ md ∧ md ≤ 7)) : Calls Tryz.prog 34 #[prV k mf xf ms xs st cs ns ts es md hd im ix] w fun e w' => e = .returned (.bool false) ∧ Below w.heap.size w w' := by
  have H0 := hide (fun W (hW : Tab W) => within_t k 0 4 W h0.1 h0.2)
  have H1 := hide (fun W (hW : Tab W) => within_f md 0 7 W h1)
  have HT := hide htab
  clear htab h0 h1
  have Bp0 := hide (Blk.newAt w (w.heap.size) (rfl) #[.int .i64 k, .int .i64 mf, .int .i64 xf, .int .i64 ms, .int .i64 xs, .bool st, .int .i64 cs, .bool ns, .string ts, .int .i64 es, .int .i64 md, .bool hd, .int .i64 im, .int .i64 ix] 61)
  have HB0 : Hid (Below w.heap.size w (w.alloc (.cells #[.int .i64 k, .int .i64 mf, .int .i64 xf, .int .i64 ms, .int .i64 xs, .bool st, .int .i64 cs, .bool ns, .string ts, .int .i64 es, .int .i64 md, .bool hd, .int .i64 im, .int .i64 ix] 61))) := ((Below.refl _ _).alloc (Nat.le_refl _) _)
  have HTW := hide (HT.out.below HB0.out)
  obtain ⟨W, hW⟩ : ∃ W, W = (w.alloc (.cells #[.int .i64 k, .int .i64 mf, .int .i64 xf, .int .i64 ms, .int .i64 xs, .bool st, .int .i64 cs, .bool ns, .string ts, .int .i64 es, .int .i64 md, .bool hd, .int .i64 im, .int .i64 ix] 61)) := ⟨_, rfl⟩
  rw [← hW] at HB0 Bp0 HTW
  have HW := hide hW
  clear hW
  obtain ⟨yp0, yp1, yp2, yp3, yp4, yp5, yp6, yp7, yp8, yp9, yp10, yp11, yp12, yp13⟩ := Bp0.out.fourteen
  clear HT
  have b0 : Hid (Below W.heap.size W W.drew) := bdrewD W
  have HC : Hid (∀ w', Below W.heap.size W w' → w'.cell? ⟨w.heap.size, 0, none⟩ = some (.int .i64 k) ∧ w'.cell? ⟨w.heap.size, 10, none⟩ = some (.int .i64 md)) := fun w' hb => ⟨(Bp0.out.below hb Bp0.out.lt).cell 0, (Bp0.out.below hb Bp0.out.lt).cell 10⟩
  go_enter Tryz.func34, Tryz.ntmps34
  go_wp2_with fail
  simp only [← HW.out]
  refine wp_region_held_drew (S := (fun w' => w'.cell? ⟨w.heap.size, 0, none⟩ = some (.int .i64 k) ∧ w'.cell? ⟨w.heap.size, 10, none⟩ = some (.int .i64 md))) (by kernel_rfl) ?_ (fun hHeld => ?_)
  · (try dsimp only)
    go_keep
  refine wpAnyH_take (i := 0) (oi := Oper.mk (some 3) _ _ _ _ _) (v := .pointer (some ⟨w.heap.size, 0, none⟩)) rfl (by kernel_rfl) (by kernel_rfl) (by kernel_rfl) (fun _ _ _ h => h) (Or.inl ⟨by rfl, ?_⟩) (by assumption) ?_
  · intro wX hSw
    (try dsimp only at hSw)
    go_simp
  simp only [Act.put, List.setIfInBounds_toArray, List.set_cons_succ, List.set_cons_zero]
  refine wpAnyH_take (i := 1) (oi := Oper.mk (some 4) _ _ _ _ _) (v := .int .i64 k) rfl (by kernel_rfl) (by kernel_rfl) (by kernel_rfl) (fun _ _ _ h => h) (Or.inl ⟨by rfl, ?_⟩) (by assumption) ?_
  · intro wX hSw
    (try dsimp only at hSw)
    go_simp
  simp only [Act.put, List.setIfInBounds_toArray, List.set_cons_succ, List.set_cons_zero]
  refine wpAnyH_ready (rs := [2]) (by kernel_rfl) (by simp) ?_
  refine AllReadyH.cons (o := Oper.mk (some 5) _ _ _ _ _) rfl (fun K hK => ?_) AllReadyH.nil
  go_simp
  refine (H0.out _ (HTW.out.below b0.out)).mono ?_
  rintro e w1 ⟨rfl, hb⟩
  have b1 := hide (b0.out.trans (hb.mono b0.out.size))
  clear hb
  obtain ⟨q0_0, q0_10⟩ := HC.out _ b1.out
  try simp only []
  refine hK.out _ _ ?_ (fun hHeld => ?_)
  · (try dsimp only)
    go_keep
  clear hK K
  refine wpAnyH_take (i := 3) (oi := Oper.mk (some 6) _ _ _ _ _) (v := .bool true) rfl (by kernel_rfl) (by kernel_rfl) (by kernel_rfl) (fun _ _ _ h => h) (Or.inl ⟨by rfl, ?_⟩) (by assumption) ?_
  · intro wX hSw
    (try dsimp only at hSw)
    go_simp
  simp only [Act.put, List.setIfInBounds_toArray, List.set_cons_succ, List.set_cons_zero]
  refine wpAnyH_take (i := 4) (oi := Oper.mk (some 7) _ _ _ _ _) (v := .pointer (some ⟨w.heap.size, 10, none⟩)) rfl (by kernel_rfl) (by kernel_rfl) (by kernel_rfl) (fun _ _ _ h => h) (Or.inl ⟨by rfl, ?_⟩) (by assumption) ?_
  · intro wX hSw
    (try dsimp only at hSw)
    go_simp
  simp only [Act.put, List.setIfInBounds_toArray, List.set_cons_succ, List.set_cons_zero]
  refine wpAnyH_take (i := 5) (oi := Oper.mk (some 8) _ _ _ _ _) (v := .int .i64 md) rfl (by kernel_rfl) (by kernel_rfl) (by kernel_rfl) (fun _ _ _ h => h) (Or.inl ⟨by rfl, ?_⟩) (by assumption) ?_
  · intro wX hSw
    (try dsimp only at hSw)
    go_simp
  simp only [Act.put, List.setIfInBounds_toArray, List.set_cons_succ, List.set_cons_zero]
  refine wpAnyH_ready (rs := [6]) (by kernel_rfl) (by simp) ?_
  refine AllReadyH.cons (o := Oper.mk (some 9) _ _ _ _ _) rfl (fun K hK => ?_) AllReadyH.nil
  go_simp
  refine (H1.out _ (HTW.out.below b1.out)).mono ?_
  rintro e w2 ⟨rfl, hb⟩
  have b2 := hide (b1.out.trans (hb.mono b1.out.size))
  clear hb
  obtain ⟨q1_0, q1_10⟩ := HC.out _ b2.out
  try simp only []
  refine hK.out _ _ ?_ (fun hHeld => ?_)
  · (try dsimp only)
    go_keep
  clear hK K
  refine wpAnyH_take (i := 7) (oi := Oper.mk (some 10) _ _ _ _ _) (v := .bool false) rfl (by kernel_rfl) (by kernel_rfl) (by kernel_rfl) (fun _ _ _ h => h) (Or.inl ⟨by rfl, ?_⟩) (by assumption) ?_
  · intro wX hSw
    (try dsimp only at hSw)
    go_simp
  simp only [Act.put, List.setIfInBounds_toArray, List.set_cons_succ, List.set_cons_zero]
  refine wpAnyH_take (i := 8) (oi := Oper.mk (some 11) _ _ _ _ _) (v := .bool false) rfl (by kernel_rfl) (by kernel_rfl) (by kernel_rfl) (fun _ _ _ h => h) (Or.inl ⟨by rfl, ?_⟩) (by assumption) ?_
  · intro wX hSw
    (try dsimp only at hSw)
    go_simp
  simp only [Act.put, List.setIfInBounds_toArray, List.set_cons_succ, List.set_cons_zero]
  refine wpAnyH_take (i := 9) (oi := Oper.mk (some 12) _ _ _ _ _) (v := undef) rfl (by kernel_rfl) (by kernel_rfl) (by kernel_rfl) (fun _ _ _ h => h) (Or.inr ⟨by rfl, rfl⟩) (by assumption) ?_
  simp only [Act.put, List.setIfInBounds_toArray, List.set_cons_succ, List.set_cons_zero]
  refine wpAnyH_take (i := 10) (oi := Oper.mk (some 13) _ _ _ _ _) (v := undef) rfl (by kernel_rfl) (by kernel_rfl) (by kernel_rfl) (fun _ _ _ h => h) (Or.inr ⟨by rfl, rfl⟩) (by assumption) ?_
  simp only [Act.put, List.setIfInBounds_toArray, List.set_cons_succ, List.set_cons_zero]
  refine wpAnyH_take (i := 11) (oi := Oper.mk (some 14) _ _ _ _ _) (v := .bool false) rfl (by kernel_rfl) (by kernel_rfl) (by kernel_rfl) (fun _ _ _ h => h) (Or.inl ⟨by rfl, ?_⟩) (by assumption) ?_
  · intro wX hSw
    (try dsimp only at hSw)
    go_simp
  simp only [Act.put, List.setIfInBounds_toArray, List.set_cons_succ, List.set_cons_zero]
  refine wpAnyH_take (i := 12) (oi := Oper.mk (some 15) _ _ _ _ _) (v := .bool false) rfl (by kernel_rfl) (by kernel_rfl) (by kernel_rfl) (fun _ _ _ h => h) (Or.inl ⟨by rfl, ?_⟩) (by assumption) ?_
  · intro wX hSw
    (try dsimp only at hSw)
    go_simp
  simp only [Act.put, List.setIfInBounds_toArray, List.set_cons_succ, List.set_cons_zero]
  refine wpAnyH_take (i := 13) (oi := Oper.mk (some 16) _ _ _ _ _) (v := undef) rfl (by kernel_rfl) (by kernel_rfl) (by kernel_rfl) (fun _ _ _ h => h) (Or.inr ⟨by rfl, rfl⟩) (by assumption) ?_
  simp only [Act.put, List.setIfInBounds_toArray, List.set_cons_succ, List.set_cons_zero]
  refine wpAnyH_take (i := 14) (oi := Oper.mk (some 17) _ _ _ _ _) (v := undef) rfl (by kernel_rfl) (by kernel_rfl) (by kernel_rfl) (fun _ _ _ h => h) (Or.inr ⟨by rfl, rfl⟩) (by assumption) ?_
  simp only [Act.put, List.setIfInBounds_toArray, List.set_cons_succ, List.set_cons_zero]
  refine wpAnyH_take (i := 15) (oi := Oper.mk (some 18) _ _ _ _ _) (v := undef) rfl (by kernel_rfl) (by kernel_rfl) (by kernel_rfl) (fun _ _ _ h => h) (Or.inr ⟨by rfl, rfl⟩) (by assumption) ?_
  simp only [Act.put, List.setIfInBounds_toArray, List.set_cons_succ, List.set_cons_zero]
  refine wpAnyH_take (i := 16) (oi := Oper.mk (some 19) _ _ _ _ _) (v := undef) rfl (by kernel_rfl) (by kernel_rfl) (by kernel_rfl) (fun _ _ _ h => h) (Or.inr ⟨by rfl, rfl⟩) (by assumption) ?_
  simp only [Act.put, List.setIfInBounds_toArray, List.set_cons_succ, List.set_cons_zero]
  refine wpAnyH_take (i := 17) (oi := Oper.mk (some 20) _ _ _ _ _) (v := undef) rfl (by kernel_rfl) (by kernel_rfl) (by kernel_rfl) (fun _ _ _ h => h) (Or.inr ⟨by rfl, rfl⟩) (by assumption) ?_
  simp only [Act.put, List.setIfInBounds_toArray, List.set_cons_succ, List.set_cons_zero]
  refine wpAnyH_take (i := 18) (oi := Oper.mk (some 21) _ _ _ _ _) (v := undef) rfl (by kernel_rfl) (by kernel_rfl) (by kernel_rfl) (fun _ _ _ h => h) (Or.inr ⟨by rfl, rfl⟩) (by assumption) ?_
  simp only [Act.put, List.setIfInBounds_toArray, List.set_cons_succ, List.set_cons_zero]
  refine wpAnyH_take (i := 19) (oi := Oper.mk (some 22) _ _ _ _ _) (v := undef) rfl (by kernel_rfl) (by kernel_rfl) (by kernel_rfl) (fun _ _ _ h => h) (Or.inr ⟨by rfl, rfl⟩) (by assumption) ?_
  simp only [Act.put, List.setIfInBounds_toArray, List.set_cons_succ, List.set_cons_zero]
  refine wpAnyH_take (i := 20) (oi := Oper.mk (some 23) _ _ _ _ _) (v := .bool false) rfl (by kernel_rfl) (by kernel_rfl) (by kernel_rfl) (fun _ _ _ h => h) (Or.inl ⟨by rfl, ?_⟩) (by assumption) ?_
  · intro wX hSw
    (try dsimp only at hSw)
    go_simp
  simp only [Act.put, List.setIfInBounds_toArray, List.set_cons_succ, List.set_cons_zero]
  refine wpAnyH_take (i := 21) (oi := Oper.mk (some 2) _ _ _ _ _) (v := .bool false) rfl (by kernel_rfl) (by kernel_rfl) (by kernel_rfl) (fun _ _ _ h => h) (Or.inl ⟨by rfl, ?_⟩) (by assumption) ?_
  · intro wX hSw
    (try dsimp only at hSw)
    go_simp
  simp only [Act.put, List.setIfInBounds_toArray, List.set_cons_succ, List.set_cons_zero]
  refine wpAnyH_done (by kernel_rfl) ?_ _
  have HBE := hide (HB0.out.trans (b2.out.mono HB0.out.size))
  go_wp2
  go_ret
  exact ⟨rfl, HBE.out⟩

set_option maxHeartbeats 2000000 in
theorem may_f2 (k mf xf ms xs : Int) (st : Bool) (cs : Int) (ns : Bool) (ts : ByteArray) (es md : Int) (hd : Bool) (im ix : Int) (w : World) (htab : Tab w) (h0 : 0 ≤ k ∧ k ≤ 4) (h1 : 0 ≤ md ∧ md ≤ 7) (h2 : ¬ IntOk ⟨k, mf, xf, ms, xs, st, cs, ns, bys ts, es, md, hd, im, ix⟩) : Calls Tryz.prog 34 #[prV k mf xf ms xs st cs ns ts es md hd im ix] w fun e w' => e = .returned (.bool false) ∧ Below w.heap.size w w' := by
  have H0 := hide (fun W (hW : Tab W) => within_t k 0 4 W h0.1 h0.2)
  have H1 := hide (fun W (hW : Tab W) => within_t md 0 7 W h1.1 h1.2)
  have H2 := hide (fun W (hW : Tab W) => mayInt_F k mf xf ms xs st cs ns ts es md hd im ix W h2)
  have HT := hide htab
  clear htab h0 h1 h2
  have Bp0 := hide (Blk.newAt w (w.heap.size) (rfl) #[.int .i64 k, .int .i64 mf, .int .i64 xf, .int .i64 ms, .int .i64 xs, .bool st, .int .i64 cs, .bool ns, .string ts, .int .i64 es, .int .i64 md, .bool hd, .int .i64 im, .int .i64 ix] 61)
  have HB0 : Hid (Below w.heap.size w (w.alloc (.cells #[.int .i64 k, .int .i64 mf, .int .i64 xf, .int .i64 ms, .int .i64 xs, .bool st, .int .i64 cs, .bool ns, .string ts, .int .i64 es, .int .i64 md, .bool hd, .int .i64 im, .int .i64 ix] 61))) := ((Below.refl _ _).alloc (Nat.le_refl _) _)
  have HTW := hide (HT.out.below HB0.out)
  obtain ⟨W, hW⟩ : ∃ W, W = (w.alloc (.cells #[.int .i64 k, .int .i64 mf, .int .i64 xf, .int .i64 ms, .int .i64 xs, .bool st, .int .i64 cs, .bool ns, .string ts, .int .i64 es, .int .i64 md, .bool hd, .int .i64 im, .int .i64 ix] 61)) := ⟨_, rfl⟩
  rw [← hW] at HB0 Bp0 HTW
  have HW := hide hW
  clear hW
  obtain ⟨yp0, yp1, yp2, yp3, yp4, yp5, yp6, yp7, yp8, yp9, yp10, yp11, yp12, yp13⟩ := Bp0.out.fourteen
  clear HT
  have b0 : Hid (Below W.heap.size W W.drew) := bdrewD W
  have HC : Hid (∀ w', Below W.heap.size W w' → w'.cell? ⟨w.heap.size, 0, none⟩ = some (.int .i64 k) ∧ w'.cell? ⟨w.heap.size, 1, none⟩ = some (.int .i64 mf) ∧ w'.cell? ⟨w.heap.size, 2, none⟩ = some (.int .i64 xf) ∧ w'.cell? ⟨w.heap.size, 3, none⟩ = some (.int .i64 ms) ∧ w'.cell? ⟨w.heap.size, 4, none⟩ = some (.int .i64 xs) ∧ w'.cell? ⟨w.heap.size, 5, none⟩ = some (.bool st) ∧ w'.cell? ⟨w.heap.size, 6, none⟩ = some (.int .i64 cs) ∧ w'.cell? ⟨w.heap.size, 7, none⟩ = some (.bool ns) ∧ w'.cell? ⟨w.heap.size, 8, none⟩ = some (.string ts) ∧ w'.cell? ⟨w.heap.size, 9, none⟩ = some (.int .i64 es) ∧ w'.cell? ⟨w.heap.size, 10, none⟩ = some (.int .i64 md) ∧ w'.cell? ⟨w.heap.size, 11, none⟩ = some (.bool hd) ∧ w'.cell? ⟨w.heap.size, 12, none⟩ = some (.int .i64 im) ∧ w'.cell? ⟨w.heap.size, 13, none⟩ = some (.int .i64 ix)) := fun w' hb => (Bp0.out.below hb Bp0.out.lt).fourteen
  go_enter Tryz.func34, Tryz.ntmps34
  go_wp2_with fail
  simp only [← HW.out]
  refine wp_region_held_drew (S := (fun w' => w'.cell? ⟨w.heap.size, 0, none⟩ = some (.int .i64 k) ∧ w'.cell? ⟨w.heap.size, 1, none⟩ = some (.int .i64 mf) ∧ w'.cell? ⟨w.heap.size, 2, none⟩ = some (.int .i64 xf) ∧ w'.cell? ⟨w.heap.size, 3, none⟩ = some (.int .i64 ms) ∧ w'.cell? ⟨w.heap.size, 4, none⟩ = some (.int .i64 xs) ∧ w'.cell? ⟨w.heap.size, 5, none⟩ = some (.bool st) ∧ w'.cell? ⟨w.heap.size, 6, none⟩ = some (.int .i64 cs) ∧ w'.cell? ⟨w.heap.size, 7, none⟩ = some (.bool ns) ∧ w'.cell? ⟨w.heap.size, 8, none⟩ = some (.string ts) ∧ w'.cell? ⟨w.heap.size, 9, none⟩ = some (.int .i64 es) ∧ w'.cell? ⟨w.heap.size, 10, none⟩ = some (.int .i64 md) ∧ w'.cell? ⟨w.heap.size, 11, none⟩ = some (.bool hd) ∧ w'.cell? ⟨w.heap.size, 12, none⟩ = some (.int .i64 im) ∧ w'.cell? ⟨w.heap.size, 13, none⟩ = some (.int .i64 ix))) (by kernel_rfl) ?_ (fun hHeld => ?_)
  · (try dsimp only)
    go_keep
  refine wpAnyH_take (i := 0) (oi := Oper.mk (some 3) _ _ _ _ _) (v := .pointer (some ⟨w.heap.size, 0, none⟩)) rfl (by kernel_rfl) (by kernel_rfl) (by kernel_rfl) (fun _ _ _ h => h) (Or.inl ⟨by rfl, ?_⟩) (by assumption) ?_
  · intro wX hSw
    (try dsimp only at hSw)
    go_simp
  simp only [Act.put, List.setIfInBounds_toArray, List.set_cons_succ, List.set_cons_zero]
  refine wpAnyH_take (i := 1) (oi := Oper.mk (some 4) _ _ _ _ _) (v := .int .i64 k) rfl (by kernel_rfl) (by kernel_rfl) (by kernel_rfl) (fun _ _ _ h => h) (Or.inl ⟨by rfl, ?_⟩) (by assumption) ?_
  · intro wX hSw
    (try dsimp only at hSw)
    go_simp
  simp only [Act.put, List.setIfInBounds_toArray, List.set_cons_succ, List.set_cons_zero]
  refine wpAnyH_ready (rs := [2]) (by kernel_rfl) (by simp) ?_
  refine AllReadyH.cons (o := Oper.mk (some 5) _ _ _ _ _) rfl (fun K hK => ?_) AllReadyH.nil
  go_simp
  refine (H0.out _ (HTW.out.below b0.out)).mono ?_
  rintro e w1 ⟨rfl, hb⟩
  have b1 := hide (b0.out.trans (hb.mono b0.out.size))
  clear hb
  obtain ⟨q0_0, q0_1, q0_2, q0_3, q0_4, q0_5, q0_6, q0_7, q0_8, q0_9, q0_10, q0_11, q0_12, q0_13⟩ := HC.out _ b1.out
  try simp only []
  refine hK.out _ _ ?_ (fun hHeld => ?_)
  · (try dsimp only)
    go_keep
  clear hK K
  refine wpAnyH_take (i := 3) (oi := Oper.mk (some 6) _ _ _ _ _) (v := .bool true) rfl (by kernel_rfl) (by kernel_rfl) (by kernel_rfl) (fun _ _ _ h => h) (Or.inl ⟨by rfl, ?_⟩) (by assumption) ?_
  · intro wX hSw
    (try dsimp only at hSw)
    go_simp
  simp only [Act.put, List.setIfInBounds_toArray, List.set_cons_succ, List.set_cons_zero]
  refine wpAnyH_take (i := 4) (oi := Oper.mk (some 7) _ _ _ _ _) (v := .pointer (some ⟨w.heap.size, 10, none⟩)) rfl (by kernel_rfl) (by kernel_rfl) (by kernel_rfl) (fun _ _ _ h => h) (Or.inl ⟨by rfl, ?_⟩) (by assumption) ?_
  · intro wX hSw
    (try dsimp only at hSw)
    go_simp
  simp only [Act.put, List.setIfInBounds_toArray, List.set_cons_succ, List.set_cons_zero]
  refine wpAnyH_take (i := 5) (oi := Oper.mk (some 8) _ _ _ _ _) (v := .int .i64 md) rfl (by kernel_rfl) (by kernel_rfl) (by kernel_rfl) (fun _ _ _ h => h) (Or.inl ⟨by rfl, ?_⟩) (by assumption) ?_
  · intro wX hSw
    (try dsimp only at hSw)
    go_simp
  simp only [Act.put, List.setIfInBounds_toArray, List.set_cons_succ, List.set_cons_zero]
  refine wpAnyH_ready (rs := [6]) (by kernel_rfl) (by simp) ?_
  refine AllReadyH.cons (o := Oper.mk (some 9) _ _ _ _ _) rfl (fun K hK => ?_) AllReadyH.nil
  go_simp
  refine (H1.out _ (HTW.out.below b1.out)).mono ?_
  rintro e w2 ⟨rfl, hb⟩
  have b2 := hide (b1.out.trans (hb.mono b1.out.size))
  clear hb
  obtain ⟨q1_0, q1_1, q1_2, q1_3, q1_4, q1_5, q1_6, q1_7, q1_8, q1_9, q1_10, q1_11, q1_12, q1_13⟩ := HC.out _ b2.out
  try simp only []
  refine hK.out _ _ ?_ (fun hHeld => ?_)
  · (try dsimp only)
    go_keep
  clear hK K
  refine wpAnyH_take (i := 7) (oi := Oper.mk (some 10) _ _ _ _ _) (v := .bool true) rfl (by kernel_rfl) (by kernel_rfl) (by kernel_rfl) (fun _ _ _ h => h) (Or.inl ⟨by rfl, ?_⟩) (by assumption) ?_
  · intro wX hSw
    (try dsimp only at hSw)
    go_simp
  simp only [Act.put, List.setIfInBounds_toArray, List.set_cons_succ, List.set_cons_zero]
  refine wpAnyH_take (i := 8) (oi := Oper.mk (some 11) _ _ _ _ _) (v := .bool true) rfl (by kernel_rfl) (by kernel_rfl) (by kernel_rfl) (fun _ _ _ h => h) (Or.inl ⟨by rfl, ?_⟩) (by assumption) ?_
  · intro wX hSw
    (try dsimp only at hSw)
    go_simp
  simp only [Act.put, List.setIfInBounds_toArray, List.set_cons_succ, List.set_cons_zero]
  refine wpAnyH_take (i := 9) (oi := Oper.mk (some 12) _ _ _ _ _) (v := .agg #[.int .i64 k, .int .i64 mf, .int .i64 xf, .int .i64 ms, .int .i64 xs, .bool st, .int .i64 cs, .bool ns, .string ts, .int .i64 es, .int .i64 md, .bool hd, .int .i64 im, .int .i64 ix]) rfl (by kernel_rfl) (by kernel_rfl) (by kernel_rfl) (fun _ _ _ h => h) (Or.inl ⟨by rfl, ?_⟩) (by assumption) ?_
  · intro wX hSw
    (try dsimp only at hSw)
    go_simp
  simp only [Act.put, List.setIfInBounds_toArray, List.set_cons_succ, List.set_cons_zero]
  refine wpAnyH_ready (rs := [10]) (by kernel_rfl) (by simp) ?_
  refine AllReadyH.cons (o := Oper.mk (some 13) _ _ _ _ _) rfl (fun K hK => ?_) AllReadyH.nil
  go_simp
  refine (H2.out _ (HTW.out.below b2.out)).mono ?_
  rintro e w3 ⟨rfl, hb⟩
  have b3 := hide (b2.out.trans (hb.mono b2.out.size))
  clear hb
  obtain ⟨q2_0, q2_1, q2_2, q2_3, q2_4, q2_5, q2_6, q2_7, q2_8, q2_9, q2_10, q2_11, q2_12, q2_13⟩ := HC.out _ b3.out
  try simp only []
  refine hK.out _ _ ?_ (fun hHeld => ?_)
  · (try dsimp only)
    go_keep
  clear hK K
  refine wpAnyH_take (i := 11) (oi := Oper.mk (some 14) _ _ _ _ _) (v := .bool false) rfl (by kernel_rfl) (by kernel_rfl) (by kernel_rfl) (fun _ _ _ h => h) (Or.inl ⟨by rfl, ?_⟩) (by assumption) ?_
  · intro wX hSw
    (try dsimp only at hSw)
    go_simp
  simp only [Act.put, List.setIfInBounds_toArray, List.set_cons_succ, List.set_cons_zero]
  refine wpAnyH_take (i := 12) (oi := Oper.mk (some 15) _ _ _ _ _) (v := .bool false) rfl (by kernel_rfl) (by kernel_rfl) (by kernel_rfl) (fun _ _ _ h => h) (Or.inl ⟨by rfl, ?_⟩) (by assumption) ?_
  · intro wX hSw
    (try dsimp only at hSw)
    go_simp
  simp only [Act.put, List.setIfInBounds_toArray, List.set_cons_succ, List.set_cons_zero]
  refine wpAnyH_take (i := 13) (oi := Oper.mk (some 16) _ _ _ _ _) (v := undef) rfl (by kernel_rfl) (by kernel_rfl) (by kernel_rfl) (fun _ _ _ h => h) (Or.inr ⟨by rfl, rfl⟩) (by assumption) ?_
  simp only [Act.put, List.setIfInBounds_toArray, List.set_cons_succ, List.set_cons_zero]
  refine wpAnyH_take (i := 14) (oi := Oper.mk (some 17) _ _ _ _ _) (v := undef) rfl (by kernel_rfl) (by kernel_rfl) (by kernel_rfl) (fun _ _ _ h => h) (Or.inr ⟨by rfl, rfl⟩) (by assumption) ?_
  simp only [Act.put, List.setIfInBounds_toArray, List.set_cons_succ, List.set_cons_zero]
  refine wpAnyH_take (i := 15) (oi := Oper.mk (some 18) _ _ _ _ _) (v := undef) rfl (by kernel_rfl) (by kernel_rfl) (by kernel_rfl) (fun _ _ _ h => h) (Or.inr ⟨by rfl, rfl⟩) (by assumption) ?_
  simp only [Act.put, List.setIfInBounds_toArray, List.set_cons_succ, List.set_cons_zero]
  refine wpAnyH_take (i := 16) (oi := Oper.mk (some 19) _ _ _ _ _) (v := undef) rfl (by kernel_rfl) (by kernel_rfl) (by kernel_rfl) (fun _ _ _ h => h) (Or.inr ⟨by rfl, rfl⟩) (by assumption) ?_
  simp only [Act.put, List.setIfInBounds_toArray, List.set_cons_succ, List.set_cons_zero]
  refine wpAnyH_take (i := 17) (oi := Oper.mk (some 20) _ _ _ _ _) (v := undef) rfl (by kernel_rfl) (by kernel_rfl) (by kernel_rfl) (fun _ _ _ h => h) (Or.inr ⟨by rfl, rfl⟩) (by assumption) ?_
  simp only [Act.put, List.setIfInBounds_toArray, List.set_cons_succ, List.set_cons_zero]
  refine wpAnyH_take (i := 18) (oi := Oper.mk (some 21) _ _ _ _ _) (v := undef) rfl (by kernel_rfl) (by kernel_rfl) (by kernel_rfl) (fun _ _ _ h => h) (Or.inr ⟨by rfl, rfl⟩) (by assumption) ?_
  simp only [Act.put, List.setIfInBounds_toArray, List.set_cons_succ, List.set_cons_zero]
  refine wpAnyH_take (i := 19) (oi := Oper.mk (some 22) _ _ _ _ _) (v := undef) rfl (by kernel_rfl) (by kernel_rfl) (by kernel_rfl) (fun _ _ _ h => h) (Or.inr ⟨by rfl, rfl⟩) (by assumption) ?_
  simp only [Act.put, List.setIfInBounds_toArray, List.set_cons_succ, List.set_cons_zero]
  refine wpAnyH_take (i := 20) (oi := Oper.mk (some 23) _ _ _ _ _) (v := .bool false) rfl (by kernel_rfl) (by kernel_rfl) (by kernel_rfl) (fun _ _ _ h => h) (Or.inl ⟨by rfl, ?_⟩) (by assumption) ?_
  · intro wX hSw
    (try dsimp only at hSw)
    go_simp
  simp only [Act.put, List.setIfInBounds_toArray, List.set_cons_succ, List.set_cons_zero]
  refine wpAnyH_take (i := 21) (oi := Oper.mk (some 2) _ _ _ _ _) (v := .bool false) rfl (by kernel_rfl) (by kernel_rfl) (by kernel_rfl) (fun _ _ _ h => h) (Or.inl ⟨by rfl, ?_⟩) (by assumption) ?_
  · intro wX hSw
    (try dsimp only at hSw)
    go_simp
  simp only [Act.put, List.setIfInBounds_toArray, List.set_cons_succ, List.set_cons_zero]
  refine wpAnyH_done (by kernel_rfl) ?_ _
  have HBE := hide (HB0.out.trans (b3.out.mono HB0.out.size))
  go_wp2
  go_ret
  exact ⟨rfl, HBE.out⟩

set_option maxHeartbeats 2000000 in
theorem may_k0 (mf xf ms xs : Int) (st : Bool) (cs : Int) (ns : Bool) (ts : ByteArray) (es md : Int) (hd : Bool) (im ix : Int) (w : World) (htab : Tab w) (v : Bool) (h1 : 0 ≤ md ∧ md ≤ 7) (h2 : IntOk ⟨0, mf, xf, ms, xs, st, cs, ns, bys ts, es, md, hd, im, ix⟩) (h3 : ∀ W, Tab W → Calls Tryz.prog 74 #[prV 0 mf xf ms xs st cs ns ts es md hd im ix] W fun e w' => e = .returned (.bool v) ∧ Below W.heap.size W w') : Calls Tryz.prog 34 #[prV 0 mf xf ms xs st cs ns ts es md hd im ix] w fun e w' => e = .returned (.bool v) ∧ Below w.heap.size w w' := by
  have H0 := hide (fun W (hW : Tab W) => within_t 0 0 4 W (by omega) (by omega))
  have H1 := hide (fun W (hW : Tab W) => within_t md 0 7 W h1.1 h1.2)
  have H2 := hide (fun W (hW : Tab W) => mayInt_T 0 mf xf ms xs st cs ns ts es md hd im ix W h2)
  have H3 := hide (fun W (hW : Tab W) => kinds_any W)
  have H4 := hide (fun W (hW : Tab W) => h3 W hW)
  unfold kindsV at H3
  have HT := hide htab
  clear htab h1 h2 h3
  have Bp0 := hide (Blk.newAt w (w.heap.size) (rfl) #[.int .i64 0, .int .i64 mf, .int .i64 xf, .int .i64 ms, .int .i64 xs, .bool st, .int .i64 cs, .bool ns, .string ts, .int .i64 es, .int .i64 md, .bool hd, .int .i64 im, .int .i64 ix] 61)
  have HB0 : Hid (Below w.heap.size w (w.alloc (.cells #[.int .i64 0, .int .i64 mf, .int .i64 xf, .int .i64 ms, .int .i64 xs, .bool st, .int .i64 cs, .bool ns, .string ts, .int .i64 es, .int .i64 md, .bool hd, .int .i64 im, .int .i64 ix] 61))) := ((Below.refl _ _).alloc (Nat.le_refl _) _)
  have HTW := hide (HT.out.below HB0.out)
  obtain ⟨W, hW⟩ : ∃ W, W = (w.alloc (.cells #[.int .i64 0, .int .i64 mf, .int .i64 xf, .int .i64 ms, .int .i64 xs, .bool st, .int .i64 cs, .bool ns, .string ts, .int .i64 es, .int .i64 md, .bool hd, .int .i64 im, .int .i64 ix] 61)) := ⟨_, rfl⟩
  rw [← hW] at HB0 Bp0 HTW
  have HW := hide hW
  clear hW
  obtain ⟨yp0, yp1, yp2, yp3, yp4, yp5, yp6, yp7, yp8, yp9, yp10, yp11, yp12, yp13⟩ := Bp0.out.fourteen
  clear HT
  have b0 : Hid (Below W.heap.size W W.drew) := bdrewD W
  have HC : Hid (∀ w', Below W.heap.size W w' → w'.cell? ⟨w.heap.size, 0, none⟩ = some (.int .i64 0) ∧ w'.cell? ⟨w.heap.size, 1, none⟩ = some (.int .i64 mf) ∧ w'.cell? ⟨w.heap.size, 2, none⟩ = some (.int .i64 xf) ∧ w'.cell? ⟨w.heap.size, 3, none⟩ = some (.int .i64 ms) ∧ w'.cell? ⟨w.heap.size, 4, none⟩ = some (.int .i64 xs) ∧ w'.cell? ⟨w.heap.size, 5, none⟩ = some (.bool st) ∧ w'.cell? ⟨w.heap.size, 6, none⟩ = some (.int .i64 cs) ∧ w'.cell? ⟨w.heap.size, 7, none⟩ = some (.bool ns) ∧ w'.cell? ⟨w.heap.size, 8, none⟩ = some (.string ts) ∧ w'.cell? ⟨w.heap.size, 9, none⟩ = some (.int .i64 es) ∧ w'.cell? ⟨w.heap.size, 10, none⟩ = some (.int .i64 md) ∧ w'.cell? ⟨w.heap.size, 11, none⟩ = some (.bool hd) ∧ w'.cell? ⟨w.heap.size, 12, none⟩ = some (.int .i64 im) ∧ w'.cell? ⟨w.heap.size, 13, none⟩ = some (.int .i64 ix)) := fun w' hb => (Bp0.out.below hb Bp0.out.lt).fourteen
  go_enter Tryz.func34, Tryz.ntmps34
  have kx := kinds_at0
  have kf : ∀ X : World, (Instr.field 68 (.agg #[.func (.func 74) #[] #[], .func (.func 75) #[] #[], .func (.func 76) #[] #[]]) 0).run Tryz.prog X = .ok (.func (.func 74) #[] #[]) X := fun X => by kernel_rfl
  go_wp2_with fail
  simp only [← HW.out]
  refine wp_region_held_drew (S := (fun w' => w'.cell? ⟨w.heap.size, 0, none⟩ = some (.int .i64 0) ∧ w'.cell? ⟨w.heap.size, 1, none⟩ = some (.int .i64 mf) ∧ w'.cell? ⟨w.heap.size, 2, none⟩ = some (.int .i64 xf) ∧ w'.cell? ⟨w.heap.size, 3, none⟩ = some (.int .i64 ms) ∧ w'.cell? ⟨w.heap.size, 4, none⟩ = some (.int .i64 xs) ∧ w'.cell? ⟨w.heap.size, 5, none⟩ = some (.bool st) ∧ w'.cell? ⟨w.heap.size, 6, none⟩ = some (.int .i64 cs) ∧ w'.cell? ⟨w.heap.size, 7, none⟩ = some (.bool ns) ∧ w'.cell? ⟨w.heap.size, 8, none⟩ = some (.string ts) ∧ w'.cell? ⟨w.heap.size, 9, none⟩ = some (.int .i64 es) ∧ w'.cell? ⟨w.heap.size, 10, none⟩ = some (.int .i64 md) ∧ w'.cell? ⟨w.heap.size, 11, none⟩ = some (.bool hd) ∧ w'.cell? ⟨w.heap.size, 12, none⟩ = some (.int .i64 im) ∧ w'.cell? ⟨w.heap.size, 13, none⟩ = some (.int .i64 ix))) (by kernel_rfl) ?_ (fun hHeld => ?_)
  · (try dsimp only)
    go_keep
  refine wpAnyH_take (i := 0) (oi := Oper.mk (some 3) _ _ _ _ _) (v := .pointer (some ⟨w.heap.size, 0, none⟩)) rfl (by kernel_rfl) (by kernel_rfl) (by kernel_rfl) (fun _ _ _ h => h) (Or.inl ⟨by rfl, ?_⟩) (by assumption) ?_
  · intro wX hSw
    (try dsimp only at hSw)
    go_simp
  simp only [Act.put, List.setIfInBounds_toArray, List.set_cons_succ, List.set_cons_zero]
  refine wpAnyH_take (i := 1) (oi := Oper.mk (some 4) _ _ _ _ _) (v := .int .i64 0) rfl (by kernel_rfl) (by kernel_rfl) (by kernel_rfl) (fun _ _ _ h => h) (Or.inl ⟨by rfl, ?_⟩) (by assumption) ?_
  · intro wX hSw
    (try dsimp only at hSw)
    go_simp
  simp only [Act.put, List.setIfInBounds_toArray, List.set_cons_succ, List.set_cons_zero]
  refine wpAnyH_ready (rs := [2]) (by kernel_rfl) (by simp) ?_
  refine AllReadyH.cons (o := Oper.mk (some 5) _ _ _ _ _) rfl (fun K hK => ?_) AllReadyH.nil
  go_simp
  refine (H0.out _ (HTW.out.below b0.out)).mono ?_
  rintro e w1 ⟨rfl, hb⟩
  have b1 := hide (b0.out.trans (hb.mono b0.out.size))
  clear hb
  obtain ⟨q0_0, q0_1, q0_2, q0_3, q0_4, q0_5, q0_6, q0_7, q0_8, q0_9, q0_10, q0_11, q0_12, q0_13⟩ := HC.out _ b1.out
  try simp only []
  refine hK.out _ _ ?_ (fun hHeld => ?_)
  · (try dsimp only)
    go_keep
  clear hK K
  refine wpAnyH_take (i := 3) (oi := Oper.mk (some 6) _ _ _ _ _) (v := .bool true) rfl (by kernel_rfl) (by kernel_rfl) (by kernel_rfl) (fun _ _ _ h => h) (Or.inl ⟨by rfl, ?_⟩) (by assumption) ?_
  · intro wX hSw
    (try dsimp only at hSw)
    go_simp
  simp only [Act.put, List.setIfInBounds_toArray, List.set_cons_succ, List.set_cons_zero]
  refine wpAnyH_take (i := 4) (oi := Oper.mk (some 7) _ _ _ _ _) (v := .pointer (some ⟨w.heap.size, 10, none⟩)) rfl (by kernel_rfl) (by kernel_rfl) (by kernel_rfl) (fun _ _ _ h => h) (Or.inl ⟨by rfl, ?_⟩) (by assumption) ?_
  · intro wX hSw
    (try dsimp only at hSw)
    go_simp
  simp only [Act.put, List.setIfInBounds_toArray, List.set_cons_succ, List.set_cons_zero]
  refine wpAnyH_take (i := 5) (oi := Oper.mk (some 8) _ _ _ _ _) (v := .int .i64 md) rfl (by kernel_rfl) (by kernel_rfl) (by kernel_rfl) (fun _ _ _ h => h) (Or.inl ⟨by rfl, ?_⟩) (by assumption) ?_
  · intro wX hSw
    (try dsimp only at hSw)
    go_simp
  simp only [Act.put, List.setIfInBounds_toArray, List.set_cons_succ, List.set_cons_zero]
  refine wpAnyH_ready (rs := [6]) (by kernel_rfl) (by simp) ?_
  refine AllReadyH.cons (o := Oper.mk (some 9) _ _ _ _ _) rfl (fun K hK => ?_) AllReadyH.nil
  go_simp
  refine (H1.out _ (HTW.out.below b1.out)).mono ?_
  rintro e w2 ⟨rfl, hb⟩
  have b2 := hide (b1.out.trans (hb.mono b1.out.size))
  clear hb
  obtain ⟨q1_0, q1_1, q1_2, q1_3, q1_4, q1_5, q1_6, q1_7, q1_8, q1_9, q1_10, q1_11, q1_12, q1_13⟩ := HC.out _ b2.out
  try simp only []
  refine hK.out _ _ ?_ (fun hHeld => ?_)
  · (try dsimp only)
    go_keep
  clear hK K
  refine wpAnyH_take (i := 7) (oi := Oper.mk (some 10) _ _ _ _ _) (v := .bool true) rfl (by kernel_rfl) (by kernel_rfl) (by kernel_rfl) (fun _ _ _ h => h) (Or.inl ⟨by rfl, ?_⟩) (by assumption) ?_
  · intro wX hSw
    (try dsimp only at hSw)
    go_simp
  simp only [Act.put, List.setIfInBounds_toArray, List.set_cons_succ, List.set_cons_zero]
  refine wpAnyH_take (i := 8) (oi := Oper.mk (some 11) _ _ _ _ _) (v := .bool true) rfl (by kernel_rfl) (by kernel_rfl) (by kernel_rfl) (fun _ _ _ h => h) (Or.inl ⟨by rfl, ?_⟩) (by assumption) ?_
  · intro wX hSw
    (try dsimp only at hSw)
    go_simp
  simp only [Act.put, List.setIfInBounds_toArray, List.set_cons_succ, List.set_cons_zero]
  refine wpAnyH_take (i := 9) (oi := Oper.mk (some 12) _ _ _ _ _) (v := .agg #[.int .i64 0, .int .i64 mf, .int .i64 xf, .int .i64 ms, .int .i64 xs, .bool st, .int .i64 cs, .bool ns, .string ts, .int .i64 es, .int .i64 md, .bool hd, .int .i64 im, .int .i64 ix]) rfl (by kernel_rfl) (by kernel_rfl) (by kernel_rfl) (fun _ _ _ h => h) (Or.inl ⟨by rfl, ?_⟩) (by assumption) ?_
  · intro wX hSw
    (try dsimp only at hSw)
    go_simp
  simp only [Act.put, List.setIfInBounds_toArray, List.set_cons_succ, List.set_cons_zero]
  refine wpAnyH_ready (rs := [10]) (by kernel_rfl) (by simp) ?_
  refine AllReadyH.cons (o := Oper.mk (some 13) _ _ _ _ _) rfl (fun K hK => ?_) AllReadyH.nil
  go_simp
  refine (H2.out _ (HTW.out.below b2.out)).mono ?_
  rintro e w3 ⟨rfl, hb⟩
  have b3 := hide (b2.out.trans (hb.mono b2.out.size))
  clear hb
  obtain ⟨q2_0, q2_1, q2_2, q2_3, q2_4, q2_5, q2_6, q2_7, q2_8, q2_9, q2_10, q2_11, q2_12, q2_13⟩ := HC.out _ b3.out
  try simp only []
  refine hK.out _ _ ?_ (fun hHeld => ?_)
  · (try dsimp only)
    go_keep
  clear hK K
  refine wpAnyH_take (i := 11) (oi := Oper.mk (some 14) _ _ _ _ _) (v := .bool true) rfl (by kernel_rfl) (by kernel_rfl) (by kernel_rfl) (fun _ _ _ h => h) (Or.inl ⟨by rfl, ?_⟩) (by assumption) ?_
  · intro wX hSw
    (try dsimp only at hSw)
    go_simp
  simp only [Act.put, List.setIfInBounds_toArray, List.set_cons_succ, List.set_cons_zero]
  refine wpAnyH_take (i := 12) (oi := Oper.mk (some 15) _ _ _ _ _) (v := .bool true) rfl (by kernel_rfl) (by kernel_rfl) (by kernel_rfl) (fun _ _ _ h => h) (Or.inl ⟨by rfl, ?_⟩) (by assumption) ?_
  · intro wX hSw
    (try dsimp only at hSw)
    go_simp
  simp only [Act.put, List.setIfInBounds_toArray, List.set_cons_succ, List.set_cons_zero]
  refine wpAnyH_take (i := 14) (oi := Oper.mk (some 17) _ _ _ _ _) (v := .pointer (some ⟨w.heap.size, 0, none⟩)) rfl (by kernel_rfl) (by kernel_rfl) (by kernel_rfl) (fun _ _ _ h => h) (Or.inl ⟨by rfl, ?_⟩) (by assumption) ?_
  · intro wX hSw
    (try dsimp only at hSw)
    go_simp
  simp only [Act.put, List.setIfInBounds_toArray, List.set_cons_succ, List.set_cons_zero]
  refine wpAnyH_take (i := 15) (oi := Oper.mk (some 18) _ _ _ _ _) (v := .int .i64 0) rfl (by kernel_rfl) (by kernel_rfl) (by kernel_rfl) (fun _ _ _ h => h) (Or.inl ⟨by rfl, ?_⟩) (by assumption) ?_
  · intro wX hSw
    (try dsimp only at hSw)
    go_simp
  simp only [Act.put, List.setIfInBounds_toArray, List.set_cons_succ, List.set_cons_zero]
  refine wpAnyH_take (i := 18) (oi := Oper.mk (some 21) _ _ _ _ _) (v := .agg #[.int .i64 0, .int .i64 mf, .int .i64 xf, .int .i64 ms, .int .i64 xs, .bool st, .int .i64 cs, .bool ns, .string ts, .int .i64 es, .int .i64 md, .bool hd, .int .i64 im, .int .i64 ix]) rfl (by kernel_rfl) (by kernel_rfl) (by kernel_rfl) (fun _ _ _ h => h) (Or.inl ⟨by rfl, ?_⟩) (by assumption) ?_
  · intro wX hSw
    (try dsimp only at hSw)
    go_simp
  simp only [Act.put, List.setIfInBounds_toArray, List.set_cons_succ, List.set_cons_zero]
  refine wpAnyH_ready (rs := [13]) (by kernel_rfl) (by simp) ?_
  refine AllReadyH.cons (o := Oper.mk (some 16) _ _ _ _ _) rfl (fun K hK => ?_) AllReadyH.nil
  go_simp
  refine (H3.out _ (HTW.out.below b3.out)).mono ?_
  rintro e w4 ⟨rfl, hb⟩
  have b4 := hide (b3.out.trans (hb.mono b3.out.size))
  clear hb
  obtain ⟨q3_0, q3_1, q3_2, q3_3, q3_4, q3_5, q3_6, q3_7, q3_8, q3_9, q3_10, q3_11, q3_12, q3_13⟩ := HC.out _ b4.out
  try simp only []
  refine hK.out _ _ ?_ (fun hHeld => ?_)
  · (try dsimp only)
    go_keep
  clear hK K
  refine wpAnyH_take (i := 16) (oi := Oper.mk (some 19) _ _ _ _ _) (v := .agg #[.func (.func 74) #[] #[], .func (.func 75) #[] #[], .func (.func 76) #[] #[]]) rfl (by kernel_rfl) (by kernel_rfl) (by kernel_rfl) (fun _ _ _ h => h) (Or.inl ⟨by rfl, ?_⟩) (by assumption) ?_
  · intro wX hSw
    (try dsimp only at hSw)
    go_simp
  simp only [Act.put, List.setIfInBounds_toArray, List.set_cons_succ, List.set_cons_zero]
  refine wpAnyH_take (i := 17) (oi := Oper.mk (some 20) _ _ _ _ _) (v := .func (.func 74) #[] #[]) rfl (by kernel_rfl) (by kernel_rfl) (by kernel_rfl) (fun _ _ _ h => h) (Or.inl ⟨by rfl, ?_⟩) (by assumption) ?_
  · intro wX hSw
    (try dsimp only at hSw)
    go_simp
  simp only [Act.put, List.setIfInBounds_toArray, List.set_cons_succ, List.set_cons_zero]
  refine wpAnyH_ready (rs := [19]) (by kernel_rfl) (by simp) ?_
  refine AllReadyH.cons (o := Oper.mk (some 22) _ _ _ _ _) rfl (fun K hK => ?_) AllReadyH.nil
  go_simp
  refine (H4.out _ (HTW.out.below b4.out)).mono ?_
  rintro e w5 ⟨rfl, hb⟩
  have b5 := hide (b4.out.trans (hb.mono b4.out.size))
  clear hb
  obtain ⟨q4_0, q4_1, q4_2, q4_3, q4_4, q4_5, q4_6, q4_7, q4_8, q4_9, q4_10, q4_11, q4_12, q4_13⟩ := HC.out _ b5.out
  try simp only []
  refine hK.out _ _ ?_ (fun hHeld => ?_)
  · (try dsimp only)
    go_keep
  clear hK K
  refine wpAnyH_take (i := 20) (oi := Oper.mk (some 23) _ _ _ _ _) (v := .bool v) rfl (by kernel_rfl) (by kernel_rfl) (by kernel_rfl) (fun _ _ _ h => h) (Or.inl ⟨by rfl, ?_⟩) (by assumption) ?_
  · intro wX hSw
    (try dsimp only at hSw)
    go_simp
  simp only [Act.put, List.setIfInBounds_toArray, List.set_cons_succ, List.set_cons_zero]
  refine wpAnyH_take (i := 21) (oi := Oper.mk (some 2) _ _ _ _ _) (v := .bool v) rfl (by kernel_rfl) (by kernel_rfl) (by kernel_rfl) (fun _ _ _ h => h) (Or.inl ⟨by rfl, ?_⟩) (by assumption) ?_
  · intro wX hSw
    (try dsimp only at hSw)
    go_simp
  simp only [Act.put, List.setIfInBounds_toArray, List.set_cons_succ, List.set_cons_zero]
  refine wpAnyH_done (by kernel_rfl) ?_ _
  have HBE := hide (HB0.out.trans (b5.out.mono HB0.out.size))
  go_wp2
  go_ret
  exact ⟨rfl, HBE.out⟩

set_option maxHeartbeats 2000000 in
theorem may_k1 (mf xf ms xs : Int) (st : Bool) (cs : Int) (ns : Bool) (ts : ByteArray) (es md : Int) (hd : Bool) (im ix : Int) (w : World) (htab : Tab w) (v : Bool) (h1 : 0 ≤ md ∧ md ≤ 7) (h2 : IntOk ⟨1, mf, xf, ms, xs, st, cs, ns, bys ts, es, md, hd, im, ix⟩) (h3 : ∀ W, Tab W → Calls Tryz.prog 77 #[prV 1 mf xf ms xs st cs ns ts es md hd im ix] W fun e w' => e = .returned (.bool v) ∧ Below W.heap.size W w') : Calls Tryz.prog 34 #[prV 1 mf xf ms xs st cs ns ts es md hd im ix] w fun e w' => e = .returned (.bool v) ∧ Below w.heap.size w w' := by
  have H0 := hide (fun W (hW : Tab W) => within_t 1 0 4 W (by omega) (by omega))
  have H1 := hide (fun W (hW : Tab W) => within_t md 0 7 W h1.1 h1.2)
  have H2 := hide (fun W (hW : Tab W) => mayInt_T 1 mf xf ms xs st cs ns ts es md hd im ix W h2)
  have H3 := hide (fun W (hW : Tab W) => kinds_any W)
  have H4 := hide (fun W (hW : Tab W) => h3 W hW)
  unfold kindsV at H3
  have HT := hide htab
  clear htab h1 h2 h3
  have Bp0 := hide (Blk.newAt w (w.heap.size) (rfl) #[.int .i64 1, .int .i64 mf, .int .i64 xf, .int .i64 ms, .int .i64 xs, .bool st, .int .i64 cs, .bool ns, .string ts, .int .i64 es, .int .i64 md, .bool hd, .int .i64 im, .int .i64 ix] 61)
  have HB0 : Hid (Below w.heap.size w (w.alloc (.cells #[.int .i64 1, .int .i64 mf, .int .i64 xf, .int .i64 ms, .int .i64 xs, .bool st, .int .i64 cs, .bool ns, .string ts, .int .i64 es, .int .i64 md, .bool hd, .int .i64 im, .int .i64 ix] 61))) := ((Below.refl _ _).alloc (Nat.le_refl _) _)
  have HTW := hide (HT.out.below HB0.out)
  obtain ⟨W, hW⟩ : ∃ W, W = (w.alloc (.cells #[.int .i64 1, .int .i64 mf, .int .i64 xf, .int .i64 ms, .int .i64 xs, .bool st, .int .i64 cs, .bool ns, .string ts, .int .i64 es, .int .i64 md, .bool hd, .int .i64 im, .int .i64 ix] 61)) := ⟨_, rfl⟩
  rw [← hW] at HB0 Bp0 HTW
  have HW := hide hW
  clear hW
  obtain ⟨yp0, yp1, yp2, yp3, yp4, yp5, yp6, yp7, yp8, yp9, yp10, yp11, yp12, yp13⟩ := Bp0.out.fourteen
  clear HT
  have b0 : Hid (Below W.heap.size W W.drew) := bdrewD W
  have HC : Hid (∀ w', Below W.heap.size W w' → w'.cell? ⟨w.heap.size, 0, none⟩ = some (.int .i64 1) ∧ w'.cell? ⟨w.heap.size, 1, none⟩ = some (.int .i64 mf) ∧ w'.cell? ⟨w.heap.size, 2, none⟩ = some (.int .i64 xf) ∧ w'.cell? ⟨w.heap.size, 3, none⟩ = some (.int .i64 ms) ∧ w'.cell? ⟨w.heap.size, 4, none⟩ = some (.int .i64 xs) ∧ w'.cell? ⟨w.heap.size, 5, none⟩ = some (.bool st) ∧ w'.cell? ⟨w.heap.size, 6, none⟩ = some (.int .i64 cs) ∧ w'.cell? ⟨w.heap.size, 7, none⟩ = some (.bool ns) ∧ w'.cell? ⟨w.heap.size, 8, none⟩ = some (.string ts) ∧ w'.cell? ⟨w.heap.size, 9, none⟩ = some (.int .i64 es) ∧ w'.cell? ⟨w.heap.size, 10, none⟩ = some (.int .i64 md) ∧ w'.cell? ⟨w.heap.size, 11, none⟩ = some (.bool hd) ∧ w'.cell? ⟨w.heap.size, 12, none⟩ = some (.int .i64 im) ∧ w'.cell? ⟨w.heap.size, 13, none⟩ = some (.int .i64 ix)) := fun w' hb => (Bp0.out.below hb Bp0.out.lt).fourteen
  go_enter Tryz.func34, Tryz.ntmps34
  have kx := kinds_at1
  have kf : ∀ X : World, (Instr.field 68 (.agg #[.func (.func 77) #[] #[], .func (.func 78) #[] #[], .func (.func 79) #[] #[]]) 0).run Tryz.prog X = .ok (.func (.func 77) #[] #[]) X := fun X => by kernel_rfl
  go_wp2_with fail
  simp only [← HW.out]
  refine wp_region_held_drew (S := (fun w' => w'.cell? ⟨w.heap.size, 0, none⟩ = some (.int .i64 1) ∧ w'.cell? ⟨w.heap.size, 1, none⟩ = some (.int .i64 mf) ∧ w'.cell? ⟨w.heap.size, 2, none⟩ = some (.int .i64 xf) ∧ w'.cell? ⟨w.heap.size, 3, none⟩ = some (.int .i64 ms) ∧ w'.cell? ⟨w.heap.size, 4, none⟩ = some (.int .i64 xs) ∧ w'.cell? ⟨w.heap.size, 5, none⟩ = some (.bool st) ∧ w'.cell? ⟨w.heap.size, 6, none⟩ = some (.int .i64 cs) ∧ w'.cell? ⟨w.heap.size, 7, none⟩ = some (.bool ns) ∧ w'.cell? ⟨w.heap.size, 8, none⟩ = some (.string ts) ∧ w'.cell? ⟨w.heap.size, 9, none⟩ = some (.int .i64 es) ∧ w'.cell? ⟨w.heap.size, 10, none⟩ = some (.int .i64 md) ∧ w'.cell? ⟨w.heap.size, 11, none⟩ = some (.bool hd) ∧ w'.cell? ⟨w.heap.size, 12, none⟩ = some (.int .i64 im) ∧ w'.cell? ⟨w.heap.size, 13, none⟩ = some (.int .i64 ix))) (by kernel_rfl) ?_ (fun hHeld => ?_)
  · (try dsimp only)
    go_keep
  refine wpAnyH_take (i := 0) (oi := Oper.mk (some 3) _ _ _ _ _) (v := .pointer (some ⟨w.heap.size, 0, none⟩)) rfl (by kernel_rfl) (by kernel_rfl) (by kernel_rfl) (fun _ _ _ h => h) (Or.inl ⟨by rfl, ?_⟩) (by assumption) ?_
  · intro wX hSw
    (try dsimp only at hSw)
    go_simp
  simp only [Act.put, List.setIfInBounds_toArray, List.set_cons_succ, List.set_cons_zero]
  refine wpAnyH_take (i := 1) (oi := Oper.mk (some 4) _ _ _ _ _) (v := .int .i64 1) rfl (by kernel_rfl) (by kernel_rfl) (by kernel_rfl) (fun _ _ _ h => h) (Or.inl ⟨by rfl, ?_⟩) (by assumption) ?_
  · intro wX hSw
    (try dsimp only at hSw)
    go_simp
  simp only [Act.put, List.setIfInBounds_toArray, List.set_cons_succ, List.set_cons_zero]
  refine wpAnyH_ready (rs := [2]) (by kernel_rfl) (by simp) ?_
  refine AllReadyH.cons (o := Oper.mk (some 5) _ _ _ _ _) rfl (fun K hK => ?_) AllReadyH.nil
  go_simp
  refine (H0.out _ (HTW.out.below b0.out)).mono ?_
  rintro e w1 ⟨rfl, hb⟩
  have b1 := hide (b0.out.trans (hb.mono b0.out.size))
  clear hb
  obtain ⟨q0_0, q0_1, q0_2, q0_3, q0_4, q0_5, q0_6, q0_7, q0_8, q0_9, q0_10, q0_11, q0_12, q0_13⟩ := HC.out _ b1.out
  try simp only []
  refine hK.out _ _ ?_ (fun hHeld => ?_)
  · (try dsimp only)
    go_keep
  clear hK K
  refine wpAnyH_take (i := 3) (oi := Oper.mk (some 6) _ _ _ _ _) (v := .bool true) rfl (by kernel_rfl) (by kernel_rfl) (by kernel_rfl) (fun _ _ _ h => h) (Or.inl ⟨by rfl, ?_⟩) (by assumption) ?_
  · intro wX hSw
    (try dsimp only at hSw)
    go_simp
  simp only [Act.put, List.setIfInBounds_toArray, List.set_cons_succ, List.set_cons_zero]
  refine wpAnyH_take (i := 4) (oi := Oper.mk (some 7) _ _ _ _ _) (v := .pointer (some ⟨w.heap.size, 10, none⟩)) rfl (by kernel_rfl) (by kernel_rfl) (by kernel_rfl) (fun _ _ _ h => h) (Or.inl ⟨by rfl, ?_⟩) (by assumption) ?_
  · intro wX hSw
    (try dsimp only at hSw)
    go_simp
  simp only [Act.put, List.setIfInBounds_toArray, List.set_cons_succ, List.set_cons_zero]
  refine wpAnyH_take (i := 5) (oi := Oper.mk (some 8) _ _ _ _ _) (v := .int .i64 md) rfl (by kernel_rfl) (by kernel_rfl) (by kernel_rfl) (fun _ _ _ h => h) (Or.inl ⟨by rfl, ?_⟩) (by assumption) ?_
  · intro wX hSw
    (try dsimp only at hSw)
    go_simp
  simp only [Act.put, List.setIfInBounds_toArray, List.set_cons_succ, List.set_cons_zero]
  refine wpAnyH_ready (rs := [6]) (by kernel_rfl) (by simp) ?_
  refine AllReadyH.cons (o := Oper.mk (some 9) _ _ _ _ _) rfl (fun K hK => ?_) AllReadyH.nil
  go_simp
  refine (H1.out _ (HTW.out.below b1.out)).mono ?_
  rintro e w2 ⟨rfl, hb⟩
  have b2 := hide (b1.out.trans (hb.mono b1.out.size))
  clear hb
  obtain ⟨q1_0, q1_1, q1_2, q1_3, q1_4, q1_5, q1_6, q1_7, q1_8, q1_9, q1_10, q1_11, q1_12, q1_13⟩ := HC.out _ b2.out
  try simp only []
  refine hK.out _ _ ?_ (fun hHeld => ?_)
  · (try dsimp only)
    go_keep
  clear hK K
  refine wpAnyH_take (i := 7) (oi := Oper.mk (some 10) _ _ _ _ _) (v := .bool true) rfl (by kernel_rfl) (by kernel_rfl) (by kernel_rfl) (fun _ _ _ h => h) (Or.inl ⟨by rfl, ?_⟩) (by assumption) ?_
  · intro wX hSw
    (try dsimp only at hSw)
    go_simp
  simp only [Act.put, List.setIfInBounds_toArray, List.set_cons_succ, List.set_cons_zero]
  refine wpAnyH_take (i := 8) (oi := Oper.mk (some 11) _ _ _ _ _) (v := .bool true) rfl (by kernel_rfl) (by kernel_rfl) (by kernel_rfl) (fun _ _ _ h => h) (Or.inl ⟨by rfl, ?_⟩) (by assumption) ?_
  · intro wX hSw
    (try dsimp only at hSw)
    go_simp
  simp only [Act.put, List.setIfInBounds_toArray, List.set_cons_succ, List.set_cons_zero]
  refine wpAnyH_take (i := 9) (oi := Oper.mk (some 12) _ _ _ _ _) (v := .agg #[.int .i64 1, .int .i64 mf, .int .i64 xf, .int .i64 ms, .int .i64 xs, .bool st, .int .i64 cs, .bool ns, .string ts, .int .i64 es, .int .i64 md, .bool hd, .int .i64 im, .int .i64 ix]) rfl (by kernel_rfl) (by kernel_rfl) (by kernel_rfl) (fun _ _ _ h => h) (Or.inl ⟨by rfl, ?_⟩) (by assumption) ?_
  · intro wX hSw
    (try dsimp only at hSw)
    go_simp
  simp only [Act.put, List.setIfInBounds_toArray, List.set_cons_succ, List.set_cons_zero]
  refine wpAnyH_ready (rs := [10]) (by kernel_rfl) (by simp) ?_
  refine AllReadyH.cons (o := Oper.mk (some 13) _ _ _ _ _) rfl (fun K hK => ?_) AllReadyH.nil
  go_simp
  refine (H2.out _ (HTW.out.below b2.out)).mono ?_
  rintro e w3 ⟨rfl, hb⟩
  have b3 := hide (b2.out.trans (hb.mono b2.out.size))
  clear hb
  obtain ⟨q2_0, q2_1, q2_2, q2_3, q2_4, q2_5, q2_6, q2_7, q2_8, q2_9, q2_10, q2_11, q2_12, q2_13⟩ := HC.out _ b3.out
  try simp only []
  refine hK.out _ _ ?_ (fun hHeld => ?_)
  · (try dsimp only)
    go_keep
  clear hK K
  refine wpAnyH_take (i := 11) (oi := Oper.mk (some 14) _ _ _ _ _) (v := .bool true) rfl (by kernel_rfl) (by kernel_rfl) (by kernel_rfl) (fun _ _ _ h => h) (Or.inl ⟨by rfl, ?_⟩) (by assumption) ?_
  · intro wX hSw
    (try dsimp only at hSw)
    go_simp
  simp only [Act.put, List.setIfInBounds_toArray, List.set_cons_succ, List.set_cons_zero]
  refine wpAnyH_take (i := 12) (oi := Oper.mk (some 15) _ _ _ _ _) (v := .bool true) rfl (by kernel_rfl) (by kernel_rfl) (by kernel_rfl) (fun _ _ _ h => h) (Or.inl ⟨by rfl, ?_⟩) (by assumption) ?_
  · intro wX hSw
    (try dsimp only at hSw)
    go_simp
  simp only [Act.put, List.setIfInBounds_toArray, List.set_cons_succ, List.set_cons_zero]
  refine wpAnyH_take (i := 14) (oi := Oper.mk (some 17) _ _ _ _ _) (v := .pointer (some ⟨w.heap.size, 0, none⟩)) rfl (by kernel_rfl) (by kernel_rfl) (by kernel_rfl) (fun _ _ _ h => h) (Or.inl ⟨by rfl, ?_⟩) (by assumption) ?_
  · intro wX hSw
    (try dsimp only at hSw)
    go_simp
  simp only [Act.put, List.setIfInBounds_toArray, List.set_cons_succ, List.set_cons_zero]
  refine wpAnyH_take (i := 15) (oi := Oper.mk (some 18) _ _ _ _ _) (v := .int .i64 1) rfl (by kernel_rfl) (by kernel_rfl) (by kernel_rfl) (fun _ _ _ h => h) (Or.inl ⟨by rfl, ?_⟩) (by assumption) ?_
  · intro wX hSw
    (try dsimp only at hSw)
    go_simp
  simp only [Act.put, List.setIfInBounds_toArray, List.set_cons_succ, List.set_cons_zero]
  refine wpAnyH_take (i := 18) (oi := Oper.mk (some 21) _ _ _ _ _) (v := .agg #[.int .i64 1, .int .i64 mf, .int .i64 xf, .int .i64 ms, .int .i64 xs, .bool st, .int .i64 cs, .bool ns, .string ts, .int .i64 es, .int .i64 md, .bool hd, .int .i64 im, .int .i64 ix]) rfl (by kernel_rfl) (by kernel_rfl) (by kernel_rfl) (fun _ _ _ h => h) (Or.inl ⟨by rfl, ?_⟩) (by assumption) ?_
  · intro wX hSw
    (try dsimp only at hSw)
    go_simp
  simp only [Act.put, List.setIfInBounds_toArray, List.set_cons_succ, List.set_cons_zero]
  refine wpAnyH_ready (rs := [13]) (by kernel_rfl) (by simp) ?_
  refine AllReadyH.cons (o := Oper.mk (some 16) _ _ _ _ _) rfl (fun K hK => ?_) AllReadyH.nil
  go_simp
  refine (H3.out _ (HTW.out.below b3.out)).mono ?_
  rintro e w4 ⟨rfl, hb⟩
  have b4 := hide (b3.out.trans (hb.mono b3.out.size))
  clear hb
  obtain ⟨q3_0, q3_1, q3_2, q3_3, q3_4, q3_5, q3_6, q3_7, q3_8, q3_9, q3_10, q3_11, q3_12, q3_13⟩ := HC.out _ b4.out
  try simp only []
  refine hK.out _ _ ?_ (fun hHeld => ?_)
  · (try dsimp only)
    go_keep
  clear hK K
  refine wpAnyH_take (i := 16) (oi := Oper.mk (some 19) _ _ _ _ _) (v := .agg #[.func (.func 77) #[] #[], .func (.func 78) #[] #[], .func (.func 79) #[] #[]]) rfl (by kernel_rfl) (by kernel_rfl) (by kernel_rfl) (fun _ _ _ h => h) (Or.inl ⟨by rfl, ?_⟩) (by assumption) ?_
  · intro wX hSw
    (try dsimp only at hSw)
    go_simp
  simp only [Act.put, List.setIfInBounds_toArray, List.set_cons_succ, List.set_cons_zero]
  refine wpAnyH_take (i := 17) (oi := Oper.mk (some 20) _ _ _ _ _) (v := .func (.func 77) #[] #[]) rfl (by kernel_rfl) (by kernel_rfl) (by kernel_rfl) (fun _ _ _ h => h) (Or.inl ⟨by rfl, ?_⟩) (by assumption) ?_
  · intro wX hSw
    (try dsimp only at hSw)
    go_simp
  simp only [Act.put, List.setIfInBounds_toArray, List.set_cons_succ, List.set_cons_zero]
  refine wpAnyH_ready (rs := [19]) (by kernel_rfl) (by simp) ?_
  refine AllReadyH.cons (o := Oper.mk (some 22) _ _ _ _ _) rfl (fun K hK => ?_) AllReadyH.nil
  go_simp
  refine (H4.out _ (HTW.out.below b4.out)).mono ?_
  rintro e w5 ⟨rfl, hb⟩
  have b5 := hide (b4.out.trans (hb.mono b4.out.size))
  clear hb
  obtain ⟨q4_0, q4_1, q4_2, q4_3, q4_4, q4_5, q4_6, q4_7, q4_8, q4_9, q4_10, q4_11, q4_12, q4_13⟩ := HC.out _ b5.out
  try simp only []
  refine hK.out _ _ ?_ (fun hHeld => ?_)
  · (try dsimp only)
    go_keep
  clear hK K
  refine wpAnyH_take (i := 20) (oi := Oper.mk (some 23) _ _ _ _ _) (v := .bool v) rfl (by kernel_rfl) (by kernel_rfl) (by kernel_rfl) (fun _ _ _ h => h) (Or.inl ⟨by rfl, ?_⟩) (by assumption) ?_
  · intro wX hSw
    (try dsimp only at hSw)
    go_simp
  simp only [Act.put, List.setIfInBounds_toArray, List.set_cons_succ, List.set_cons_zero]
  refine wpAnyH_take (i := 21) (oi := Oper.mk (some 2) _ _ _ _ _) (v := .bool v) rfl (by kernel_rfl) (by kernel_rfl) (by kernel_rfl) (fun _ _ _ h => h) (Or.inl ⟨by rfl, ?_⟩) (by assumption) ?_
  · intro wX hSw
    (try dsimp only at hSw)
    go_simp
  simp only [Act.put, List.setIfInBounds_toArray, List.set_cons_succ, List.set_cons_zero]
  refine wpAnyH_done (by kernel_rfl) ?_ _
  have HBE := hide (HB0.out.trans (b5.out.mono HB0.out.size))
  go_wp2
  go_ret
  exact ⟨rfl, HBE.out⟩

set_option maxHeartbeats 2000000 in
theorem may_k2 (mf xf ms xs : Int) (st : Bool) (cs : Int) (ns : Bool) (ts : ByteArray) (es md : Int) (hd : Bool) (im ix : Int) (w : World) (htab : Tab w) (v : Bool) (h1 : 0 ≤ md ∧ md ≤ 7) (h2 : IntOk ⟨2, mf, xf, ms, xs, st, cs, ns, bys ts, es, md, hd, im, ix⟩) (h3 : ∀ W, Tab W → Calls Tryz.prog 80 #[prV 2 mf xf ms xs st cs ns ts es md hd im ix] W fun e w' => e = .returned (.bool v) ∧ Below W.heap.size W w') : Calls Tryz.prog 34 #[prV 2 mf xf ms xs st cs ns ts es md hd im ix] w fun e w' => e = .returned (.bool v) ∧ Below w.heap.size w w' := by
  have H0 := hide (fun W (hW : Tab W) => within_t 2 0 4 W (by omega) (by omega))
  have H1 := hide (fun W (hW : Tab W) => within_t md 0 7 W h1.1 h1.2)
  have H2 := hide (fun W (hW : Tab W) => mayInt_T 2 mf xf ms xs st cs ns ts es md hd im ix W h2)
  have H3 := hide (fun W (hW : Tab W) => kinds_any W)
  have H4 := hide (fun W (hW : Tab W) => h3 W hW)
  unfold kindsV at H3
  have HT := hide htab
  clear htab h1 h2 h3
  have Bp0 := hide (Blk.newAt w (w.heap.size) (rfl) #[.int .i64 2, .int .i64 mf, .int .i64 xf, .int .i64 ms, .int .i64 xs, .bool st, .int .i64 cs, .bool ns, .string ts, .int .i64 es, .int .i64 md, .bool hd, .int .i64 im, .int .i64 ix] 61)
  have HB0 : Hid (Below w.heap.size w (w.alloc (.cells #[.int .i64 2, .int .i64 mf, .int .i64 xf, .int .i64 ms, .int .i64 xs, .bool st, .int .i64 cs, .bool ns, .string ts, .int .i64 es, .int .i64 md, .bool hd, .int .i64 im, .int .i64 ix] 61))) := ((Below.refl _ _).alloc (Nat.le_refl _) _)
  have HTW := hide (HT.out.below HB0.out)
  obtain ⟨W, hW⟩ : ∃ W, W = (w.alloc (.cells #[.int .i64 2, .int .i64 mf, .int .i64 xf, .int .i64 ms, .int .i64 xs, .bool st, .int .i64 cs, .bool ns, .string ts, .int .i64 es, .int .i64 md, .bool hd, .int .i64 im, .int .i64 ix] 61)) := ⟨_, rfl⟩
  rw [← hW] at HB0 Bp0 HTW
  have HW := hide hW
  clear hW
  obtain ⟨yp0, yp1, yp2, yp3, yp4, yp5, yp6, yp7, yp8, yp9, yp10, yp11, yp12, yp13⟩ := Bp0.out.fourteen
  clear HT
  have b0 : Hid (Below W.heap.size W W.drew) := bdrewD W
  have HC : Hid (∀ w', Below W.heap.size W w' → w'.cell? ⟨w.heap.size, 0, none⟩ = some (.int .i64 2) ∧ w'.cell? ⟨w.heap.size, 1, none⟩ = some (.int .i64 mf) ∧ w'.cell? ⟨w.heap.size, 2, none⟩ = some (.int .i64 xf) ∧ w'.cell? ⟨w.heap.size, 3, none⟩ = some (.int .i64 ms) ∧ w'.cell? ⟨w.heap.size, 4, none⟩ = some (.int .i64 xs) ∧ w'.cell? ⟨w.heap.size, 5, none⟩ = some (.bool st) ∧ w'.cell? ⟨w.heap.size, 6, none⟩ = some (.int .i64 cs) ∧ w'.cell? ⟨w.heap.size, 7, none⟩ = some (.bool ns) ∧ w'.cell? ⟨w.heap.size, 8, none⟩ = some (.string ts) ∧ w'.cell? ⟨w.heap.size, 9, none⟩ = some (.int .i64 es) ∧ w'.cell? ⟨w.heap.size, 10, none⟩ = some (.int .i64 md) ∧ w'.cell? ⟨w.heap.size, 11, none⟩ = some (.bool hd) ∧ w'.cell? ⟨w.heap.size, 12, none⟩ = some (.int .i64 im) ∧ w'.cell? ⟨w.heap.size, 13, none⟩ = some (.int .i64 ix)) := fun w' hb => (Bp0.out.below hb Bp0.out.lt).fourteen
  go_enter Tryz.func34, Tryz.ntmps34
  have kx := kinds_at2
  have kf : ∀ X : World, (Instr.field 68 (.agg #[.func (.func 80) #[] #[], .func (.func 81) #[] #[], .func (.func 82) #[] #[]]) 0).run Tryz.prog X = .ok (.func (.func 80) #[] #[]) X := fun X => by kernel_rfl
  go_wp2_with fail
  simp only [← HW.out]
  refine wp_region_held_drew (S := (fun w' => w'.cell? ⟨w.heap.size, 0, none⟩ = some (.int .i64 2) ∧ w'.cell? ⟨w.heap.size, 1, none⟩ = some (.int .i64 mf) ∧ w'.cell? ⟨w.heap.size, 2, none⟩ = some (.int .i64 xf) ∧ w'.cell? ⟨w.heap.size, 3, none⟩ = some (.int .i64 ms) ∧ w'.cell? ⟨w.heap.size, 4, none⟩ = some (.int .i64 xs) ∧ w'.cell? ⟨w.heap.size, 5, none⟩ = some (.bool st) ∧ w'.cell? ⟨w.heap.size, 6, none⟩ = some (.int .i64 cs) ∧ w'.cell? ⟨w.heap.size, 7, none⟩ = some (.bool ns) ∧ w'.cell? ⟨w.heap.size, 8, none⟩ = some (.string ts) ∧ w'.cell? ⟨w.heap.size, 9, none⟩ = some (.int .i64 es) ∧ w'.cell? ⟨w.heap.size, 10, none⟩ = some (.int .i64 md) ∧ w'.cell? ⟨w.heap.size, 11, none⟩ = some (.bool hd) ∧ w'.cell? ⟨w.heap.size, 12, none⟩ = some (.int .i64 im) ∧ w'.cell? ⟨w.heap.size, 13, none⟩ = some (.int .i64 ix))) (by kernel_rfl) ?_ (fun hHeld => ?_)
  · (try dsimp only)
    go_keep
  refine wpAnyH_take (i := 0) (oi := Oper.mk (some 3) _ _ _ _ _) (v := .pointer (some ⟨w.heap.size, 0, none⟩)) rfl (by kernel_rfl) (by kernel_rfl) (by kernel_rfl) (fun _ _ _ h => h) (Or.inl ⟨by rfl, ?_⟩) (by assumption) ?_
  · intro wX hSw
    (try dsimp only at hSw)
    go_simp
  simp only [Act.put, List.setIfInBounds_toArray, List.set_cons_succ, List.set_cons_zero]
  refine wpAnyH_take (i := 1) (oi := Oper.mk (some 4) _ _ _ _ _) (v := .int .i64 2) rfl (by kernel_rfl) (by kernel_rfl) (by kernel_rfl) (fun _ _ _ h => h) (Or.inl ⟨by rfl, ?_⟩) (by assumption) ?_
  · intro wX hSw
    (try dsimp only at hSw)
    go_simp
  simp only [Act.put, List.setIfInBounds_toArray, List.set_cons_succ, List.set_cons_zero]
  refine wpAnyH_ready (rs := [2]) (by kernel_rfl) (by simp) ?_
  refine AllReadyH.cons (o := Oper.mk (some 5) _ _ _ _ _) rfl (fun K hK => ?_) AllReadyH.nil
  go_simp
  refine (H0.out _ (HTW.out.below b0.out)).mono ?_
  rintro e w1 ⟨rfl, hb⟩
  have b1 := hide (b0.out.trans (hb.mono b0.out.size))
  clear hb
  obtain ⟨q0_0, q0_1, q0_2, q0_3, q0_4, q0_5, q0_6, q0_7, q0_8, q0_9, q0_10, q0_11, q0_12, q0_13⟩ := HC.out _ b1.out
  try simp only []
  refine hK.out _ _ ?_ (fun hHeld => ?_)
  · (try dsimp only)
    go_keep
  clear hK K
  refine wpAnyH_take (i := 3) (oi := Oper.mk (some 6) _ _ _ _ _) (v := .bool true) rfl (by kernel_rfl) (by kernel_rfl) (by kernel_rfl) (fun _ _ _ h => h) (Or.inl ⟨by rfl, ?_⟩) (by assumption) ?_
  · intro wX hSw
    (try dsimp only at hSw)
    go_simp
  simp only [Act.put, List.setIfInBounds_toArray, List.set_cons_succ, List.set_cons_zero]
  refine wpAnyH_take (i := 4) (oi := Oper.mk (some 7) _ _ _ _ _) (v := .pointer (some ⟨w.heap.size, 10, none⟩)) rfl (by kernel_rfl) (by kernel_rfl) (by kernel_rfl) (fun _ _ _ h => h) (Or.inl ⟨by rfl, ?_⟩) (by assumption) ?_
  · intro wX hSw
    (try dsimp only at hSw)
    go_simp
  simp only [Act.put, List.setIfInBounds_toArray, List.set_cons_succ, List.set_cons_zero]
  refine wpAnyH_take (i := 5) (oi := Oper.mk (some 8) _ _ _ _ _) (v := .int .i64 md) rfl (by kernel_rfl) (by kernel_rfl) (by kernel_rfl) (fun _ _ _ h => h) (Or.inl ⟨by rfl, ?_⟩) (by assumption) ?_
  · intro wX hSw
    (try dsimp only at hSw)
    go_simp
  simp only [Act.put, List.setIfInBounds_toArray, List.set_cons_succ, List.set_cons_zero]
  refine wpAnyH_ready (rs := [6]) (by kernel_rfl) (by simp) ?_
  refine AllReadyH.cons (o := Oper.mk (some 9) _ _ _ _ _) rfl (fun K hK => ?_) AllReadyH.nil
  go_simp
  refine (H1.out _ (HTW.out.below b1.out)).mono ?_
  rintro e w2 ⟨rfl, hb⟩
  have b2 := hide (b1.out.trans (hb.mono b1.out.size))
  clear hb
  obtain ⟨q1_0, q1_1, q1_2, q1_3, q1_4, q1_5, q1_6, q1_7, q1_8, q1_9, q1_10, q1_11, q1_12, q1_13⟩ := HC.out _ b2.out
  try simp only []
  refine hK.out _ _ ?_ (fun hHeld => ?_)
  · (try dsimp only)
    go_keep
  clear hK K
  refine wpAnyH_take (i := 7) (oi := Oper.mk (some 10) _ _ _ _ _) (v := .bool true) rfl (by kernel_rfl) (by kernel_rfl) (by kernel_rfl) (fun _ _ _ h => h) (Or.inl ⟨by rfl, ?_⟩) (by assumption) ?_
  · intro wX hSw
    (try dsimp only at hSw)
    go_simp
  simp only [Act.put, List.setIfInBounds_toArray, List.set_cons_succ, List.set_cons_zero]
  refine wpAnyH_take (i := 8) (oi := Oper.mk (some 11) _ _ _ _ _) (v := .bool true) rfl (by kernel_rfl) (by kernel_rfl) (by kernel_rfl) (fun _ _ _ h => h) (Or.inl ⟨by rfl, ?_⟩) (by assumption) ?_
  · intro wX hSw
    (try dsimp only at hSw)
    go_simp
  simp only [Act.put, List.setIfInBounds_toArray, List.set_cons_succ, List.set_cons_zero]
  refine wpAnyH_take (i := 9) (oi := Oper.mk (some 12) _ _ _ _ _) (v := .agg #[.int .i64 2, .int .i64 mf, .int .i64 xf, .int .i64 ms, .int .i64 xs, .bool st, .int .i64 cs, .bool ns, .string ts, .int .i64 es, .int .i64 md, .bool hd, .int .i64 im, .int .i64 ix]) rfl (by kernel_rfl) (by kernel_rfl) (by kernel_rfl) (fun _ _ _ h => h) (Or.inl ⟨by rfl, ?_⟩) (by assumption) ?_
  · intro wX hSw
    (try dsimp only at hSw)
    go_simp
  simp only [Act.put, List.setIfInBounds_toArray, List.set_cons_succ, List.set_cons_zero]
  refine wpAnyH_ready (rs := [10]) (by kernel_rfl) (by simp) ?_
  refine AllReadyH.cons (o := Oper.mk (some 13) _ _ _ _ _) rfl (fun K hK => ?_) AllReadyH.nil
  go_simp
  refine (H2.out _ (HTW.out.below b2.out)).mono ?_
  rintro e w3 ⟨rfl, hb⟩
  have b3 := hide (b2.out.trans (hb.mono b2.out.size))
  clear hb
  obtain ⟨q2_0, q2_1, q2_2, q2_3, q2_4, q2_5, q2_6, q2_7, q2_8, q2_9, q2_10, q2_11, q2_12, q2_13⟩ := HC.out _ b3.out
  try simp only []
  refine hK.out _ _ ?_ (fun hHeld => ?_)
  · (try dsimp only)
    go_keep
  clear hK K
  refine wpAnyH_take (i := 11) (oi := Oper.mk (some 14) _ _ _ _ _) (v := .bool true) rfl (by kernel_rfl) (by kernel_rfl) (by kernel_rfl) (fun _ _ _ h => h) (Or.inl ⟨by rfl, ?_⟩) (by assumption) ?_
  · intro wX hSw
    (try dsimp only at hSw)
    go_simp
  simp only [Act.put, List.setIfInBounds_toArray, List.set_cons_succ, List.set_cons_zero]
  refine wpAnyH_take (i := 12) (oi := Oper.mk (some 15) _ _ _ _ _) (v := .bool true) rfl (by kernel_rfl) (by kernel_rfl) (by kernel_rfl) (fun _ _ _ h => h) (Or.inl ⟨by rfl, ?_⟩) (by assumption) ?_
  · intro wX hSw
    (try dsimp only at hSw)
    go_simp
  simp only [Act.put, List.setIfInBounds_toArray, List.set_cons_succ, List.set_cons_zero]
  refine wpAnyH_take (i := 14) (oi := Oper.mk (some 17) _ _ _ _ _) (v := .pointer (some ⟨w.heap.size, 0, none⟩)) rfl (by kernel_rfl) (by kernel_rfl) (by kernel_rfl) (fun _ _ _ h => h) (Or.inl ⟨by rfl, ?_⟩) (by assumption) ?_
  · intro wX hSw
    (try dsimp only at hSw)
    go_simp
  simp only [Act.put, List.setIfInBounds_toArray, List.set_cons_succ, List.set_cons_zero]
  refine wpAnyH_take (i := 15) (oi := Oper.mk (some 18) _ _ _ _ _) (v := .int .i64 2) rfl (by kernel_rfl) (by kernel_rfl) (by kernel_rfl) (fun _ _ _ h => h) (Or.inl ⟨by rfl, ?_⟩) (by assumption) ?_
  · intro wX hSw
    (try dsimp only at hSw)
    go_simp
  simp only [Act.put, List.setIfInBounds_toArray, List.set_cons_succ, List.set_cons_zero]
  refine wpAnyH_take (i := 18) (oi := Oper.mk (some 21) _ _ _ _ _) (v := .agg #[.int .i64 2, .int .i64 mf, .int .i64 xf, .int .i64 ms, .int .i64 xs, .bool st, .int .i64 cs, .bool ns, .string ts, .int .i64 es, .int .i64 md, .bool hd, .int .i64 im, .int .i64 ix]) rfl (by kernel_rfl) (by kernel_rfl) (by kernel_rfl) (fun _ _ _ h => h) (Or.inl ⟨by rfl, ?_⟩) (by assumption) ?_
  · intro wX hSw
    (try dsimp only at hSw)
    go_simp
  simp only [Act.put, List.setIfInBounds_toArray, List.set_cons_succ, List.set_cons_zero]
  refine wpAnyH_ready (rs := [13]) (by kernel_rfl) (by simp) ?_
  refine AllReadyH.cons (o := Oper.mk (some 16) _ _ _ _ _) rfl (fun K hK => ?_) AllReadyH.nil
  go_simp
  refine (H3.out _ (HTW.out.below b3.out)).mono ?_
  rintro e w4 ⟨rfl, hb⟩
  have b4 := hide (b3.out.trans (hb.mono b3.out.size))
  clear hb
  obtain ⟨q3_0, q3_1, q3_2, q3_3, q3_4, q3_5, q3_6, q3_7, q3_8, q3_9, q3_10, q3_11, q3_12, q3_13⟩ := HC.out _ b4.out
  try simp only []
  refine hK.out _ _ ?_ (fun hHeld => ?_)
  · (try dsimp only)
    go_keep
  clear hK K
  refine wpAnyH_take (i := 16) (oi := Oper.mk (some 19) _ _ _ _ _) (v := .agg #[.func (.func 80) #[] #[], .func (.func 81) #[] #[], .func (.func 82) #[] #[]]) rfl (by kernel_rfl) (by kernel_rfl) (by kernel_rfl) (fun _ _ _ h => h) (Or.inl ⟨by rfl, ?_⟩) (by assumption) ?_
  · intro wX hSw
    (try dsimp only at hSw)
    go_simp
  simp only [Act.put, List.setIfInBounds_toArray, List.set_cons_succ, List.set_cons_zero]
  refine wpAnyH_take (i := 17) (oi := Oper.mk (some 20) _ _ _ _ _) (v := .func (.func 80) #[] #[]) rfl (by kernel_rfl) (by kernel_rfl) (by kernel_rfl) (fun _ _ _ h => h) (Or.inl ⟨by rfl, ?_⟩) (by assumption) ?_
  · intro wX hSw
    (try dsimp only at hSw)
    go_simp
  simp only [Act.put, List.setIfInBounds_toArray, List.set_cons_succ, List.set_cons_zero]
  refine wpAnyH_ready (rs := [19]) (by kernel_rfl) (by simp) ?_
  refine AllReadyH.cons (o := Oper.mk (some 22) _ _ _ _ _) rfl (fun K hK => ?_) AllReadyH.nil
  go_simp
  refine (H4.out _ (HTW.out.below b4.out)).mono ?_
  rintro e w5 ⟨rfl, hb⟩
  have b5 := hide (b4.out.trans (hb.mono b4.out.size))
  clear hb
  obtain ⟨q4_0, q4_1, q4_2, q4_3, q4_4, q4_5, q4_6, q4_7, q4_8, q4_9, q4_10, q4_11, q4_12, q4_13⟩ := HC.out _ b5.out
  try simp only []
  refine hK.out _ _ ?_ (fun hHeld => ?_)
  · (try dsimp only)
    go_keep
  clear hK K
  refine wpAnyH_take (i := 20) (oi := Oper.mk (some 23) _ _ _ _ _) (v := .bool v) rfl (by kernel_rfl) (by kernel_rfl) (by kernel_rfl) (fun _ _ _ h => h) (Or.inl ⟨by rfl, ?_⟩) (by assumption) ?_
  · intro wX hSw
    (try dsimp only at hSw)
    go_simp
  simp only [Act.put, List.setIfInBounds_toArray, List.set_cons_succ, List.set_cons_zero]
  refine wpAnyH_take (i := 21) (oi := Oper.mk (some 2) _ _ _ _ _) (v := .bool v) rfl (by kernel_rfl) (by kernel_rfl) (by kernel_rfl) (fun _ _ _ h => h) (Or.inl ⟨by rfl, ?_⟩) (by assumption) ?_
  · intro wX hSw
    (try dsimp only at hSw)
    go_simp
  simp only [Act.put, List.setIfInBounds_toArray, List.set_cons_succ, List.set_cons_zero]
  refine wpAnyH_done (by kernel_rfl) ?_ _
  have HBE := hide (HB0.out.trans (b5.out.mono HB0.out.size))
  go_wp2
  go_ret
  exact ⟨rfl, HBE.out⟩

set_option maxHeartbeats 2000000 in
theorem may_k3 (mf xf ms xs : Int) (st : Bool) (cs : Int) (ns : Bool) (ts : ByteArray) (es md : Int) (hd : Bool) (im ix : Int) (w : World) (htab : Tab w) (v : Bool) (h1 : 0 ≤ md ∧ md ≤ 7) (h2 : IntOk ⟨3, mf, xf, ms, xs, st, cs, ns, bys ts, es, md, hd, im, ix⟩) (h3 : ∀ W, Tab W → Calls Tryz.prog 83 #[prV 3 mf xf ms xs st cs ns ts es md hd im ix] W fun e w' => e = .returned (.bool v) ∧ Below W.heap.size W w') : Calls Tryz.prog 34 #[prV 3 mf xf ms xs st cs ns ts es md hd im ix] w fun e w' => e = .returned (.bool v) ∧ Below w.heap.size w w' := by
  have H0 := hide (fun W (hW : Tab W) => within_t 3 0 4 W (by omega) (by omega))
  have H1 := hide (fun W (hW : Tab W) => within_t md 0 7 W h1.1 h1.2)
  have H2 := hide (fun W (hW : Tab W) => mayInt_T 3 mf xf ms xs st cs ns ts es md hd im ix W h2)
  have H3 := hide (fun W (hW : Tab W) => kinds_any W)
  have H4 := hide (fun W (hW : Tab W) => h3 W hW)
  unfold kindsV at H3
  have HT := hide htab
  clear htab h1 h2 h3
  have Bp0 := hide (Blk.newAt w (w.heap.size) (rfl) #[.int .i64 3, .int .i64 mf, .int .i64 xf, .int .i64 ms, .int .i64 xs, .bool st, .int .i64 cs, .bool ns, .string ts, .int .i64 es, .int .i64 md, .bool hd, .int .i64 im, .int .i64 ix] 61)
  have HB0 : Hid (Below w.heap.size w (w.alloc (.cells #[.int .i64 3, .int .i64 mf, .int .i64 xf, .int .i64 ms, .int .i64 xs, .bool st, .int .i64 cs, .bool ns, .string ts, .int .i64 es, .int .i64 md, .bool hd, .int .i64 im, .int .i64 ix] 61))) := ((Below.refl _ _).alloc (Nat.le_refl _) _)
  have HTW := hide (HT.out.below HB0.out)
  obtain ⟨W, hW⟩ : ∃ W, W = (w.alloc (.cells #[.int .i64 3, .int .i64 mf, .int .i64 xf, .int .i64 ms, .int .i64 xs, .bool st, .int .i64 cs, .bool ns, .string ts, .int .i64 es, .int .i64 md, .bool hd, .int .i64 im, .int .i64 ix] 61)) := ⟨_, rfl⟩
  rw [← hW] at HB0 Bp0 HTW
  have HW := hide hW
  clear hW
  obtain ⟨yp0, yp1, yp2, yp3, yp4, yp5, yp6, yp7, yp8, yp9, yp10, yp11, yp12, yp13⟩ := Bp0.out.fourteen
  clear HT
  have b0 : Hid (Below W.heap.size W W.drew) := bdrewD W
  have HC : Hid (∀ w', Below W.heap.size W w' → w'.cell? ⟨w.heap.size, 0, none⟩ = some (.int .i64 3) ∧ w'.cell? ⟨w.heap.size, 1, none⟩ = some (.int .i64 mf) ∧ w'.cell? ⟨w.heap.size, 2, none⟩ = some (.int .i64 xf) ∧ w'.cell? ⟨w.heap.size, 3, none⟩ = some (.int .i64 ms) ∧ w'.cell? ⟨w.heap.size, 4, none⟩ = some (.int .i64 xs) ∧ w'.cell? ⟨w.heap.size, 5, none⟩ = some (.bool st) ∧ w'.cell? ⟨w.heap.size, 6, none⟩ = some (.int .i64 cs) ∧ w'.cell? ⟨w.heap.size, 7, none⟩ = some (.bool ns) ∧ w'.cell? ⟨w.heap.size, 8, none⟩ = some (.string ts) ∧ w'.cell? ⟨w.heap.size, 9, none⟩ = some (.int .i64 es) ∧ w'.cell? ⟨w.heap.size, 10, none⟩ = some (.int .i64 md) ∧ w'.cell? ⟨w.heap.size, 11, none⟩ = some (.bool hd) ∧ w'.cell? ⟨w.heap.size, 12, none⟩ = some (.int .i64 im) ∧ w'.cell? ⟨w.heap.size, 13, none⟩ = some (.int .i64 ix)) := fun w' hb => (Bp0.out.below hb Bp0.out.lt).fourteen
  go_enter Tryz.func34, Tryz.ntmps34
  have kx := kinds_at3
  have kf : ∀ X : World, (Instr.field 68 (.agg #[.func (.func 83) #[] #[], .func (.func 84) #[] #[], .func (.func 85) #[] #[]]) 0).run Tryz.prog X = .ok (.func (.func 83) #[] #[]) X := fun X => by kernel_rfl
  go_wp2_with fail
  simp only [← HW.out]
  refine wp_region_held_drew (S := (fun w' => w'.cell? ⟨w.heap.size, 0, none⟩ = some (.int .i64 3) ∧ w'.cell? ⟨w.heap.size, 1, none⟩ = some (.int .i64 mf) ∧ w'.cell? ⟨w.heap.size, 2, none⟩ = some (.int .i64 xf) ∧ w'.cell? ⟨w.heap.size, 3, none⟩ = some (.int .i64 ms) ∧ w'.cell? ⟨w.heap.size, 4, none⟩ = some (.int .i64 xs) ∧ w'.cell? ⟨w.heap.size, 5, none⟩ = some (.bool st) ∧ w'.cell? ⟨w.heap.size, 6, none⟩ = some (.int .i64 cs) ∧ w'.cell? ⟨w.heap.size, 7, none⟩ = some (.bool ns) ∧ w'.cell? ⟨w.heap.size, 8, none⟩ = some (.string ts) ∧ w'.cell? ⟨w.heap.size, 9, none⟩ = some (.int .i64 es) ∧ w'.cell? ⟨w.heap.size, 10, none⟩ = some (.int .i64 md) ∧ w'.cell? ⟨w.heap.size, 11, none⟩ = some (.bool hd) ∧ w'.cell? ⟨w.heap.size, 12, none⟩ = some (.int .i64 im) ∧ w'.cell? ⟨w.heap.size, 13, none⟩ = some (.int .i64 ix))) (by kernel_rfl) ?_ (fun hHeld => ?_)
  · (try dsimp only)
    go_keep
  refine wpAnyH_take (i := 0) (oi := Oper.mk (some 3) _ _ _ _ _) (v := .pointer (some ⟨w.heap.size, 0, none⟩)) rfl (by kernel_rfl) (by kernel_rfl) (by kernel_rfl) (fun _ _ _ h => h) (Or.inl ⟨by rfl, ?_⟩) (by assumption) ?_
  · intro wX hSw
    (try dsimp only at hSw)
    go_simp
  simp only [Act.put, List.setIfInBounds_toArray, List.set_cons_succ, List.set_cons_zero]
  refine wpAnyH_take (i := 1) (oi := Oper.mk (some 4) _ _ _ _ _) (v := .int .i64 3) rfl (by kernel_rfl) (by kernel_rfl) (by kernel_rfl) (fun _ _ _ h => h) (Or.inl ⟨by rfl, ?_⟩) (by assumption) ?_
  · intro wX hSw
    (try dsimp only at hSw)
    go_simp
  simp only [Act.put, List.setIfInBounds_toArray, List.set_cons_succ, List.set_cons_zero]
  refine wpAnyH_ready (rs := [2]) (by kernel_rfl) (by simp) ?_
  refine AllReadyH.cons (o := Oper.mk (some 5) _ _ _ _ _) rfl (fun K hK => ?_) AllReadyH.nil
  go_simp
  refine (H0.out _ (HTW.out.below b0.out)).mono ?_
  rintro e w1 ⟨rfl, hb⟩
  have b1 := hide (b0.out.trans (hb.mono b0.out.size))
  clear hb
  obtain ⟨q0_0, q0_1, q0_2, q0_3, q0_4, q0_5, q0_6, q0_7, q0_8, q0_9, q0_10, q0_11, q0_12, q0_13⟩ := HC.out _ b1.out
  try simp only []
  refine hK.out _ _ ?_ (fun hHeld => ?_)
  · (try dsimp only)
    go_keep
  clear hK K
  refine wpAnyH_take (i := 3) (oi := Oper.mk (some 6) _ _ _ _ _) (v := .bool true) rfl (by kernel_rfl) (by kernel_rfl) (by kernel_rfl) (fun _ _ _ h => h) (Or.inl ⟨by rfl, ?_⟩) (by assumption) ?_
  · intro wX hSw
    (try dsimp only at hSw)
    go_simp
  simp only [Act.put, List.setIfInBounds_toArray, List.set_cons_succ, List.set_cons_zero]
  refine wpAnyH_take (i := 4) (oi := Oper.mk (some 7) _ _ _ _ _) (v := .pointer (some ⟨w.heap.size, 10, none⟩)) rfl (by kernel_rfl) (by kernel_rfl) (by kernel_rfl) (fun _ _ _ h => h) (Or.inl ⟨by rfl, ?_⟩) (by assumption) ?_
  · intro wX hSw
    (try dsimp only at hSw)
    go_simp
  simp only [Act.put, List.setIfInBounds_toArray, List.set_cons_succ, List.set_cons_zero]
  refine wpAnyH_take (i := 5) (oi := Oper.mk (some 8) _ _ _ _ _) (v := .int .i64 md) rfl (by kernel_rfl) (by kernel_rfl) (by kernel_rfl) (fun _ _ _ h => h) (Or.inl ⟨by rfl, ?_⟩) (by assumption) ?_
  · intro wX hSw
    (try dsimp only at hSw)
    go_simp
  simp only [Act.put, List.setIfInBounds_toArray, List.set_cons_succ, List.set_cons_zero]
  refine wpAnyH_ready (rs := [6]) (by kernel_rfl) (by simp) ?_
  refine AllReadyH.cons (o := Oper.mk (some 9) _ _ _ _ _) rfl (fun K hK => ?_) AllReadyH.nil
  go_simp
  refine (H1.out _ (HTW.out.below b1.out)).mono ?_
  rintro e w2 ⟨rfl, hb⟩
  have b2 := hide (b1.out.trans (hb.mono b1.out.size))
  clear hb
  obtain ⟨q1_0, q1_1, q1_2, q1_3, q1_4, q1_5, q1_6, q1_7, q1_8, q1_9, q1_10, q1_11, q1_12, q1_13⟩ := HC.out _ b2.out
  try simp only []
  refine hK.out _ _ ?_ (fun hHeld => ?_)
  · (try dsimp only)
    go_keep
  clear hK K
  refine wpAnyH_take (i := 7) (oi := Oper.mk (some 10) _ _ _ _ _) (v := .bool true) rfl (by kernel_rfl) (by kernel_rfl) (by kernel_rfl) (fun _ _ _ h => h) (Or.inl ⟨by rfl, ?_⟩) (by assumption) ?_
  · intro wX hSw
    (try dsimp only at hSw)
    go_simp
  simp only [Act.put, List.setIfInBounds_toArray, List.set_cons_succ, List.set_cons_zero]
  refine wpAnyH_take (i := 8) (oi := Oper.mk (some 11) _ _ _ _ _) (v := .bool true) rfl (by kernel_rfl) (by kernel_rfl) (by kernel_rfl) (fun _ _ _ h => h) (Or.inl ⟨by rfl, ?_⟩) (by assumption) ?_
  · intro wX hSw
    (try dsimp only at hSw)
    go_simp
  simp only [Act.put, List.setIfInBounds_toArray, List.set_cons_succ, List.set_cons_zero]
  refine wpAnyH_take (i := 9) (oi := Oper.mk (some 12) _ _ _ _ _) (v := .agg #[.int .i64 3, .int .i64 mf, .int .i64 xf, .int .i64 ms, .int .i64 xs, .bool st, .int .i64 cs, .bool ns, .string ts, .int .i64 es, .int .i64 md, .bool hd, .int .i64 im, .int .i64 ix]) rfl (by kernel_rfl) (by kernel_rfl) (by kernel_rfl) (fun _ _ _ h => h) (Or.inl ⟨by rfl, ?_⟩) (by assumption) ?_
  · intro wX hSw
    (try dsimp only at hSw)
    go_simp
  simp only [Act.put, List.setIfInBounds_toArray, List.set_cons_succ, List.set_cons_zero]
  refine wpAnyH_ready (rs := [10]) (by kernel_rfl) (by simp) ?_
  refine AllReadyH.cons (o := Oper.mk (some 13) _ _ _ _ _) rfl (fun K hK => ?_) AllReadyH.nil
  go_simp
  refine (H2.out _ (HTW.out.below b2.out)).mono ?_
  rintro e w3 ⟨rfl, hb⟩
  have b3 := hide (b2.out.trans (hb.mono b2.out.size))
  clear hb
  obtain ⟨q2_0, q2_1, q2_2, q2_3, q2_4, q2_5, q2_6, q2_7, q2_8, q2_9, q2_10, q2_11, q2_12, q2_13⟩ := HC.out _ b3.out
  try simp only []
  refine hK.out _ _ ?_ (fun hHeld => ?_)
  · (try dsimp only)
    go_keep
  clear hK K
  refine wpAnyH_take (i := 11) (oi := Oper.mk (some 14) _ _ _ _ _) (v := .bool true) rfl (by kernel_rfl) (by kernel_rfl) (by kernel_rfl) (fun _ _ _ h => h) (Or.inl ⟨by rfl, ?_⟩) (by assumption) ?_
  · intro wX hSw
    (try dsimp only at hSw)
    go_simp
  simp only [Act.put, List.setIfInBounds_toArray, List.set_cons_succ, List.set_cons_zero]
  refine wpAnyH_take (i := 12) (oi := Oper.mk (some 15) _ _ _ _ _) (v := .bool true) rfl (by kernel_rfl) (by kernel_rfl) (by kernel_rfl) (fun _ _ _ h => h) (Or.inl ⟨by rfl, ?_⟩) (by assumption) ?_
  · intro wX hSw
    (try dsimp only at hSw)
    go_simp
  simp only [Act.put, List.setIfInBounds_toArray, List.set_cons_succ, List.set_cons_zero]
  refine wpAnyH_take (i := 14) (oi := Oper.mk (some 17) _ _ _ _ _) (v := .pointer (some ⟨w.heap.size, 0, none⟩)) rfl (by kernel_rfl) (by kernel_rfl) (by kernel_rfl) (fun _ _ _ h => h) (Or.inl ⟨by rfl, ?_⟩) (by assumption) ?_
  · intro wX hSw
    (try dsimp only at hSw)
    go_simp
  simp only [Act.put, List.setIfInBounds_toArray, List.set_cons_succ, List.set_cons_zero]
  refine wpAnyH_take (i := 15) (oi := Oper.mk (some 18) _ _ _ _ _) (v := .int .i64 3) rfl (by kernel_rfl) (by kernel_rfl) (by kernel_rfl) (fun _ _ _ h => h) (Or.inl ⟨by rfl, ?_⟩) (by assumption) ?_
  · intro wX hSw
    (try dsimp only at hSw)
    go_simp
  simp only [Act.put, List.setIfInBounds_toArray, List.set_cons_succ, List.set_cons_zero]
  refine wpAnyH_take (i := 18) (oi := Oper.mk (some 21) _ _ _ _ _) (v := .agg #[.int .i64 3, .int .i64 mf, .int .i64 xf, .int .i64 ms, .int .i64 xs, .bool st, .int .i64 cs, .bool ns, .string ts, .int .i64 es, .int .i64 md, .bool hd, .int .i64 im, .int .i64 ix]) rfl (by kernel_rfl) (by kernel_rfl) (by kernel_rfl) (fun _ _ _ h => h) (Or.inl ⟨by rfl, ?_⟩) (by assumption) ?_
  · intro wX hSw
    (try dsimp only at hSw)
    go_simp
  simp only [Act.put, List.setIfInBounds_toArray, List.set_cons_succ, List.set_cons_zero]
  refine wpAnyH_ready (rs := [13]) (by kernel_rfl) (by simp) ?_
  refine AllReadyH.cons (o := Oper.mk (some 16) _ _ _ _ _) rfl (fun K hK => ?_) AllReadyH.nil
  go_simp
  refine (H3.out _ (HTW.out.below b3.out)).mono ?_
  rintro e w4 ⟨rfl, hb⟩
  have b4 := hide (b3.out.trans (hb.mono b3.out.size))
  clear hb
  obtain ⟨q3_0, q3_1, q3_2, q3_3, q3_4, q3_5, q3_6, q3_7, q3_8, q3_9, q3_10, q3_11, q3_12, q3_13⟩ := HC.out _ b4.out
  try simp only []
  refine hK.out _ _ ?_ (fun hHeld => ?_)
  · (try dsimp only)
    go_keep
  clear hK K
  refine wpAnyH_take (i := 16) (oi := Oper.mk (some 19) _ _ _ _ _) (v := .agg #[.func (.func 83) #[] #[], .func (.func 84) #[] #[], .func (.func 85) #[] #[]]) rfl (by kernel_rfl) (by kernel_rfl) (by kernel_rfl) (fun _ _ _ h => h) (Or.inl ⟨by rfl, ?_⟩) (by assumption) ?_
  · intro wX hSw
    (try dsimp only at hSw)
    go_simp
  simp only [Act.put, List.setIfInBounds_toArray, List.set_cons_succ, List.set_cons_zero]
  refine wpAnyH_take (i := 17) (oi := Oper.mk (some 20) _ _ _ _ _) (v := .func (.func 83) #[] #[]) rfl (by kernel_rfl) (by kernel_rfl) (by kernel_rfl) (fun _ _ _ h => h) (Or.inl ⟨by rfl, ?_⟩) (by assumption) ?_
  · intro wX hSw
    (try dsimp only at hSw)
    go_simp
  simp only [Act.put, List.setIfInBounds_toArray, List.set_cons_succ, List.set_cons_zero]
  refine wpAnyH_ready (rs := [19]) (by kernel_rfl) (by simp) ?_
  refine AllReadyH.cons (o := Oper.mk (some 22) _ _ _ _ _) rfl (fun K hK => ?_) AllReadyH.nil
  go_simp
  refine (H4.out _ (HTW.out.below b4.out)).mono ?_
  rintro e w5 ⟨rfl, hb⟩
  have b5 := hide (b4.out.trans (hb.mono b4.out.size))
  clear hb
  obtain ⟨q4_0, q4_1, q4_2, q4_3, q4_4, q4_5, q4_6, q4_7, q4_8, q4_9, q4_10, q4_11, q4_12, q4_13⟩ := HC.out _ b5.out
  try simp only []
  refine hK.out _ _ ?_ (fun hHeld => ?_)
  · (try dsimp only)
    go_keep
  clear hK K
  refine wpAnyH_take (i := 20) (oi := Oper.mk (some 23) _ _ _ _ _) (v := .bool v) rfl (by kernel_rfl) (by kernel_rfl) (by kernel_rfl) (fun _ _ _ h => h) (Or.inl ⟨by rfl, ?_⟩) (by assumption) ?_
  · intro wX hSw
    (try dsimp only at hSw)
    go_simp
  simp only [Act.put, List.setIfInBounds_toArray, List.set_cons_succ, List.set_cons_zero]
  refine wpAnyH_take (i := 21) (oi := Oper.mk (some 2) _ _ _ _ _) (v := .bool v) rfl (by kernel_rfl) (by kernel_rfl) (by kernel_rfl) (fun _ _ _ h => h) (Or.inl ⟨by rfl, ?_⟩) (by assumption) ?_
  · intro wX hSw
    (try dsimp only at hSw)
    go_simp
  simp only [Act.put, List.setIfInBounds_toArray, List.set_cons_succ, List.set_cons_zero]
  refine wpAnyH_done (by kernel_rfl) ?_ _
  have HBE := hide (HB0.out.trans (b5.out.mono HB0.out.size))
  go_wp2
  go_ret
  exact ⟨rfl, HBE.out⟩

set_option maxHeartbeats 2000000 in
theorem may_k4 (mf xf ms xs : Int) (st : Bool) (cs : Int) (ns : Bool) (ts : ByteArray) (es md : Int) (hd : Bool) (im ix : Int) (w : World) (htab : Tab w) (v : Bool) (h1 : 0 ≤ md ∧ md ≤ 7) (h2 : IntOk ⟨4, mf, xf, ms, xs, st, cs, ns, bys ts, es, md, hd, im, ix⟩) (h3 : ∀ W, Tab W → Calls Tryz.prog 86 #[prV 4 mf xf ms xs st cs ns ts es md hd im ix] W fun e w' => e = .returned (.bool v) ∧ Below W.heap.size W w') : Calls Tryz.prog 34 #[prV 4 mf xf ms xs st cs ns ts es md hd im ix] w fun e w' => e = .returned (.bool v) ∧ Below w.heap.size w w' := by
  have H0 := hide (fun W (hW : Tab W) => within_t 4 0 4 W (by omega) (by omega))
  have H1 := hide (fun W (hW : Tab W) => within_t md 0 7 W h1.1 h1.2)
  have H2 := hide (fun W (hW : Tab W) => mayInt_T 4 mf xf ms xs st cs ns ts es md hd im ix W h2)
  have H3 := hide (fun W (hW : Tab W) => kinds_any W)
  have H4 := hide (fun W (hW : Tab W) => h3 W hW)
  unfold kindsV at H3
  have HT := hide htab
  clear htab h1 h2 h3
  have Bp0 := hide (Blk.newAt w (w.heap.size) (rfl) #[.int .i64 4, .int .i64 mf, .int .i64 xf, .int .i64 ms, .int .i64 xs, .bool st, .int .i64 cs, .bool ns, .string ts, .int .i64 es, .int .i64 md, .bool hd, .int .i64 im, .int .i64 ix] 61)
  have HB0 : Hid (Below w.heap.size w (w.alloc (.cells #[.int .i64 4, .int .i64 mf, .int .i64 xf, .int .i64 ms, .int .i64 xs, .bool st, .int .i64 cs, .bool ns, .string ts, .int .i64 es, .int .i64 md, .bool hd, .int .i64 im, .int .i64 ix] 61))) := ((Below.refl _ _).alloc (Nat.le_refl _) _)
  have HTW := hide (HT.out.below HB0.out)
  obtain ⟨W, hW⟩ : ∃ W, W = (w.alloc (.cells #[.int .i64 4, .int .i64 mf, .int .i64 xf, .int .i64 ms, .int .i64 xs, .bool st, .int .i64 cs, .bool ns, .string ts, .int .i64 es, .int .i64 md, .bool hd, .int .i64 im, .int .i64 ix] 61)) := ⟨_, rfl⟩
  rw [← hW] at HB0 Bp0 HTW
  have HW := hide hW
  clear hW
  obtain ⟨yp0, yp1, yp2, yp3, yp4, yp5, yp6, yp7, yp8, yp9, yp10, yp11, yp12, yp13⟩ := Bp0.out.fourteen
  clear HT
  have b0 : Hid (Below W.heap.size W W.drew) := bdrewD W
  have HC : Hid (∀ w', Below W.heap.size W w' → w'.cell? ⟨w.heap.size, 0, none⟩ = some (.int .i64 4) ∧ w'.cell? ⟨w.heap.size, 1, none⟩ = some (.int .i64 mf) ∧ w'.cell? ⟨w.heap.size, 2, none⟩ = some (.int .i64 xf) ∧ w'.cell? ⟨w.heap.size, 3, none⟩ = some (.int .i64 ms) ∧ w'.cell? ⟨w.heap.size, 4, none⟩ = some (.int .i64 xs) ∧ w'.cell? ⟨w.heap.size, 5, none⟩ = some (.bool st) ∧ w'.cell? ⟨w.heap.size, 6, none⟩ = some (.int .i64 cs) ∧ w'.cell? ⟨w.heap.size, 7, none⟩ = some (.bool ns) ∧ w'.cell? ⟨w.heap.size, 8, none⟩ = some (.string ts) ∧ w'.cell? ⟨w.heap.size, 9, none⟩ = some (.int .i64 es) ∧ w'.cell? ⟨w.heap.size, 10, none⟩ = some (.int .i64 md) ∧ w'.cell? ⟨w.heap.size, 11, none⟩ = some (.bool hd) ∧ w'.cell? ⟨w.heap.size, 12, none⟩ = some (.int .i64 im) ∧ w'.cell? ⟨w.heap.size, 13, none⟩ = some (.int .i64 ix)) := fun w' hb => (Bp0.out.below hb Bp0.out.lt).fourteen
  go_enter Tryz.func34, Tryz.ntmps34
  have kx := kinds_at4
  have kf : ∀ X : World, (Instr.field 68 (.agg #[.func (.func 86) #[] #[], .func (.func 87) #[] #[], .func (.func 79) #[] #[]]) 0).run Tryz.prog X = .ok (.func (.func 86) #[] #[]) X := fun X => by kernel_rfl
  go_wp2_with fail
  simp only [← HW.out]
  refine wp_region_held_drew (S := (fun w' => w'.cell? ⟨w.heap.size, 0, none⟩ = some (.int .i64 4) ∧ w'.cell? ⟨w.heap.size, 1, none⟩ = some (.int .i64 mf) ∧ w'.cell? ⟨w.heap.size, 2, none⟩ = some (.int .i64 xf) ∧ w'.cell? ⟨w.heap.size, 3, none⟩ = some (.int .i64 ms) ∧ w'.cell? ⟨w.heap.size, 4, none⟩ = some (.int .i64 xs) ∧ w'.cell? ⟨w.heap.size, 5, none⟩ = some (.bool st) ∧ w'.cell? ⟨w.heap.size, 6, none⟩ = some (.int .i64 cs) ∧ w'.cell? ⟨w.heap.size, 7, none⟩ = some (.bool ns) ∧ w'.cell? ⟨w.heap.size, 8, none⟩ = some (.string ts) ∧ w'.cell? ⟨w.heap.size, 9, none⟩ = some (.int .i64 es) ∧ w'.cell? ⟨w.heap.size, 10, none⟩ = some (.int .i64 md) ∧ w'.cell? ⟨w.heap.size, 11, none⟩ = some (.bool hd) ∧ w'.cell? ⟨w.heap.size, 12, none⟩ = some (.int .i64 im) ∧ w'.cell? ⟨w.heap.size, 13, none⟩ = some (.int .i64 ix))) (by kernel_rfl) ?_ (fun hHeld => ?_)
  · (try dsimp only)
    go_keep
  refine wpAnyH_take (i := 0) (oi := Oper.mk (some 3) _ _ _ _ _) (v := .pointer (some ⟨w.heap.size, 0, none⟩)) rfl (by kernel_rfl) (by kernel_rfl) (by kernel_rfl) (fun _ _ _ h => h) (Or.inl ⟨by rfl, ?_⟩) (by assumption) ?_
  · intro wX hSw
    (try dsimp only at hSw)
    go_simp
  simp only [Act.put, List.setIfInBounds_toArray, List.set_cons_succ, List.set_cons_zero]
  refine wpAnyH_take (i := 1) (oi := Oper.mk (some 4) _ _ _ _ _) (v := .int .i64 4) rfl (by kernel_rfl) (by kernel_rfl) (by kernel_rfl) (fun _ _ _ h => h) (Or.inl ⟨by rfl, ?_⟩) (by assumption) ?_
  · intro wX hSw
    (try dsimp only at hSw)
    go_simp
  simp only [Act.put, List.setIfInBounds_toArray, List.set_cons_succ, List.set_cons_zero]
  refine wpAnyH_ready (rs := [2]) (by kernel_rfl) (by simp) ?_
  refine AllReadyH.cons (o := Oper.mk (some 5) _ _ _ _ _) rfl (fun K hK => ?_) AllReadyH.nil
  go_simp
  refine (H0.out _ (HTW.out.below b0.out)).mono ?_
  rintro e w1 ⟨rfl, hb⟩
  have b1 := hide (b0.out.trans (hb.mono b0.out.size))
  clear hb
  obtain ⟨q0_0, q0_1, q0_2, q0_3, q0_4, q0_5, q0_6, q0_7, q0_8, q0_9, q0_10, q0_11, q0_12, q0_13⟩ := HC.out _ b1.out
  try simp only []
  refine hK.out _ _ ?_ (fun hHeld => ?_)
  · (try dsimp only)
    go_keep
  clear hK K
  refine wpAnyH_take (i := 3) (oi := Oper.mk (some 6) _ _ _ _ _) (v := .bool true) rfl (by kernel_rfl) (by kernel_rfl) (by kernel_rfl) (fun _ _ _ h => h) (Or.inl ⟨by rfl, ?_⟩) (by assumption) ?_
  · intro wX hSw
    (try dsimp only at hSw)
    go_simp
  simp only [Act.put, List.setIfInBounds_toArray, List.set_cons_succ, List.set_cons_zero]
  refine wpAnyH_take (i := 4) (oi := Oper.mk (some 7) _ _ _ _ _) (v := .pointer (some ⟨w.heap.size, 10, none⟩)) rfl (by kernel_rfl) (by kernel_rfl) (by kernel_rfl) (fun _ _ _ h => h) (Or.inl ⟨by rfl, ?_⟩) (by assumption) ?_
  · intro wX hSw
    (try dsimp only at hSw)
    go_simp
  simp only [Act.put, List.setIfInBounds_toArray, List.set_cons_succ, List.set_cons_zero]
  refine wpAnyH_take (i := 5) (oi := Oper.mk (some 8) _ _ _ _ _) (v := .int .i64 md) rfl (by kernel_rfl) (by kernel_rfl) (by kernel_rfl) (fun _ _ _ h => h) (Or.inl ⟨by rfl, ?_⟩) (by assumption) ?_
  · intro wX hSw
    (try dsimp only at hSw)
    go_simp
  simp only [Act.put, List.setIfInBounds_toArray, List.set_cons_succ, List.set_cons_zero]
  refine wpAnyH_ready (rs := [6]) (by kernel_rfl) (by simp) ?_
  refine AllReadyH.cons (o := Oper.mk (some 9) _ _ _ _ _) rfl (fun K hK => ?_) AllReadyH.nil
  go_simp
  refine (H1.out _ (HTW.out.below b1.out)).mono ?_
  rintro e w2 ⟨rfl, hb⟩
  have b2 := hide (b1.out.trans (hb.mono b1.out.size))
  clear hb
  obtain ⟨q1_0, q1_1, q1_2, q1_3, q1_4, q1_5, q1_6, q1_7, q1_8, q1_9, q1_10, q1_11, q1_12, q1_13⟩ := HC.out _ b2.out
  try simp only []
  refine hK.out _ _ ?_ (fun hHeld => ?_)
  · (try dsimp only)
    go_keep
  clear hK K
  refine wpAnyH_take (i := 7) (oi := Oper.mk (some 10) _ _ _ _ _) (v := .bool true) rfl (by kernel_rfl) (by kernel_rfl) (by kernel_rfl) (fun _ _ _ h => h) (Or.inl ⟨by rfl, ?_⟩) (by assumption) ?_
  · intro wX hSw
    (try dsimp only at hSw)
    go_simp
  simp only [Act.put, List.setIfInBounds_toArray, List.set_cons_succ, List.set_cons_zero]
  refine wpAnyH_take (i := 8) (oi := Oper.mk (some 11) _ _ _ _ _) (v := .bool true) rfl (by kernel_rfl) (by kernel_rfl) (by kernel_rfl) (fun _ _ _ h => h) (Or.inl ⟨by rfl, ?_⟩) (by assumption) ?_
  · intro wX hSw
    (try dsimp only at hSw)
    go_simp
  simp only [Act.put, List.setIfInBounds_toArray, List.set_cons_succ, List.set_cons_zero]
  refine wpAnyH_take (i := 9) (oi := Oper.mk (some 12) _ _ _ _ _) (v := .agg #[.int .i64 4, .int .i64 mf, .int .i64 xf, .int .i64 ms, .int .i64 xs, .bool st, .int .i64 cs, .bool ns, .string ts, .int .i64 es, .int .i64 md, .bool hd, .int .i64 im, .int .i64 ix]) rfl (by kernel_rfl) (by kernel_rfl) (by kernel_rfl) (fun _ _ _ h => h) (Or.inl ⟨by rfl, ?_⟩) (by assumption) ?_
  · intro wX hSw
    (try dsimp only at hSw)
    go_simp
  simp only [Act.put, List.setIfInBounds_toArray, List.set_cons_succ, List.set_cons_zero]
  refine wpAnyH_ready (rs := [10]) (by kernel_rfl) (by simp) ?_
  refine AllReadyH.cons (o := Oper.mk (some 13) _ _ _ _ _) rfl (fun K hK => ?_) AllReadyH.nil
  go_simp
  refine (H2.out _ (HTW.out.below b2.out)).mono ?_
  rintro e w3 ⟨rfl, hb⟩
  have b3 := hide (b2.out.trans (hb.mono b2.out.size))
  clear hb
  obtain ⟨q2_0, q2_1, q2_2, q2_3, q2_4, q2_5, q2_6, q2_7, q2_8, q2_9, q2_10, q2_11, q2_12, q2_13⟩ := HC.out _ b3.out
  try simp only []
  refine hK.out _ _ ?_ (fun hHeld => ?_)
  · (try dsimp only)
    go_keep
  clear hK K
  refine wpAnyH_take (i := 11) (oi := Oper.mk (some 14) _ _ _ _ _) (v := .bool true) rfl (by kernel_rfl) (by kernel_rfl) (by kernel_rfl) (fun _ _ _ h => h) (Or.inl ⟨by rfl, ?_⟩) (by assumption) ?_
  · intro wX hSw
    (try dsimp only at hSw)
    go_simp
  simp only [Act.put, List.setIfInBounds_toArray, List.set_cons_succ, List.set_cons_zero]
  refine wpAnyH_take (i := 12) (oi := Oper.mk (some 15) _ _ _ _ _) (v := .bool true) rfl (by kernel_rfl) (by kernel_rfl) (by kernel_rfl) (fun _ _ _ h => h) (Or.inl ⟨by rfl, ?_⟩) (by assumption) ?_
  · intro wX hSw
    (try dsimp only at hSw)
    go_simp
  simp only [Act.put, List.setIfInBounds_toArray, List.set_cons_succ, List.set_cons_zero]
  refine wpAnyH_take (i := 14) (oi := Oper.mk (some 17) _ _ _ _ _) (v := .pointer (some ⟨w.heap.size, 0, none⟩)) rfl (by kernel_rfl) (by kernel_rfl) (by kernel_rfl) (fun _ _ _ h => h) (Or.inl ⟨by rfl, ?_⟩) (by assumption) ?_
  · intro wX hSw
    (try dsimp only at hSw)
    go_simp
  simp only [Act.put, List.setIfInBounds_toArray, List.set_cons_succ, List.set_cons_zero]
  refine wpAnyH_take (i := 15) (oi := Oper.mk (some 18) _ _ _ _ _) (v := .int .i64 4) rfl (by kernel_rfl) (by kernel_rfl) (by kernel_rfl) (fun _ _ _ h => h) (Or.inl ⟨by rfl, ?_⟩) (by assumption) ?_
  · intro wX hSw
    (try dsimp only at hSw)
    go_simp
  simp only [Act.put, List.setIfInBounds_toArray, List.set_cons_succ, List.set_cons_zero]
  refine wpAnyH_take (i := 18) (oi := Oper.mk (some 21) _ _ _ _ _) (v := .agg #[.int .i64 4, .int .i64 mf, .int .i64 xf, .int .i64 ms, .int .i64 xs, .bool st, .int .i64 cs, .bool ns, .string ts, .int .i64 es, .int .i64 md, .bool hd, .int .i64 im, .int .i64 ix]) rfl (by kernel_rfl) (by kernel_rfl) (by kernel_rfl) (fun _ _ _ h => h) (Or.inl ⟨by rfl, ?_⟩) (by assumption) ?_
  · intro wX hSw
    (try dsimp only at hSw)
    go_simp
  simp only [Act.put, List.setIfInBounds_toArray, List.set_cons_succ, List.set_cons_zero]
  refine wpAnyH_ready (rs := [13]) (by kernel_rfl) (by simp) ?_
  refine AllReadyH.cons (o := Oper.mk (some 16) _ _ _ _ _) rfl (fun K hK => ?_) AllReadyH.nil
  go_simp
  refine (H3.out _ (HTW.out.below b3.out)).mono ?_
  rintro e w4 ⟨rfl, hb⟩
  have b4 := hide (b3.out.trans (hb.mono b3.out.size))
  clear hb
  obtain ⟨q3_0, q3_1, q3_2, q3_3, q3_4, q3_5, q3_6, q3_7, q3_8, q3_9, q3_10, q3_11, q3_12, q3_13⟩ := HC.out _ b4.out
  try simp only []
  refine hK.out _ _ ?_ (fun hHeld => ?_)
  · (try dsimp only)
    go_keep
  clear hK K
  refine wpAnyH_take (i := 16) (oi := Oper.mk (some 19) _ _ _ _ _) (v := .agg #[.func (.func 86) #[] #[], .func (.func 87) #[] #[], .func (.func 79) #[] #[]]) rfl (by kernel_rfl) (by kernel_rfl) (by kernel_rfl) (fun _ _ _ h => h) (Or.inl ⟨by rfl, ?_⟩) (by assumption) ?_
  · intro wX hSw
    (try dsimp only at hSw)
    go_simp
  simp only [Act.put, List.setIfInBounds_toArray, List.set_cons_succ, List.set_cons_zero]
  refine wpAnyH_take (i := 17) (oi := Oper.mk (some 20) _ _ _ _ _) (v := .func (.func 86) #[] #[]) rfl (by kernel_rfl) (by kernel_rfl) (by kernel_rfl) (fun _ _ _ h => h) (Or.inl ⟨by rfl, ?_⟩) (by assumption) ?_
  · intro wX hSw
    (try dsimp only at hSw)
    go_simp
  simp only [Act.put, List.setIfInBounds_toArray, List.set_cons_succ, List.set_cons_zero]
  refine wpAnyH_ready (rs := [19]) (by kernel_rfl) (by simp) ?_
  refine AllReadyH.cons (o := Oper.mk (some 22) _ _ _ _ _) rfl (fun K hK => ?_) AllReadyH.nil
  go_simp
  refine (H4.out _ (HTW.out.below b4.out)).mono ?_
  rintro e w5 ⟨rfl, hb⟩
  have b5 := hide (b4.out.trans (hb.mono b4.out.size))
  clear hb
  obtain ⟨q4_0, q4_1, q4_2, q4_3, q4_4, q4_5, q4_6, q4_7, q4_8, q4_9, q4_10, q4_11, q4_12, q4_13⟩ := HC.out _ b5.out
  try simp only []
  refine hK.out _ _ ?_ (fun hHeld => ?_)
  · (try dsimp only)
    go_keep
  clear hK K
  refine wpAnyH_take (i := 20) (oi := Oper.mk (some 23) _ _ _ _ _) (v := .bool v) rfl (by kernel_rfl) (by kernel_rfl) (by kernel_rfl) (fun _ _ _ h => h) (Or.inl ⟨by rfl, ?_⟩) (by assumption) ?_
  · intro wX hSw
    (try dsimp only at hSw)
    go_simp
  simp only [Act.put, List.setIfInBounds_toArray, List.set_cons_succ, List.set_cons_zero]
  refine wpAnyH_take (i := 21) (oi := Oper.mk (some 2) _ _ _ _ _) (v := .bool v) rfl (by kernel_rfl) (by kernel_rfl) (by kernel_rfl) (fun _ _ _ h => h) (Or.inl ⟨by rfl, ?_⟩) (by assumption) ?_
  · intro wX hSw
    (try dsimp only at hSw)
    go_simp
  simp only [Act.put, List.setIfInBounds_toArray, List.set_cons_succ, List.set_cons_zero]
  refine wpAnyH_done (by kernel_rfl) ?_ _
  have HBE := hide (HB0.out.trans (b5.out.mono HB0.out.size))
  go_wp2
  go_ret
  exact ⟨rfl, HBE.out⟩

theorem may_T (k mf xf ms xs : Int) (st : Bool) (cs : Int) (ns : Bool) (ts : ByteArray) (es md : Int) (hd : Bool) (im ix : Int) (w : World) (htab : Tab w) (h : MayP ⟨k, mf, xf, ms, xs, st, cs, ns, bys ts, es, md, hd, im, ix⟩) : Calls Tryz.prog 34 #[prV k mf xf ms xs st cs ns ts es md hd im ix] w fun e w' => e = .returned (.bool true) ∧ Below w.heap.size w w' := by
  obtain ⟨h1, h2, h3⟩ := h
  rcases h3 with ⟨g, h3⟩ | ⟨g, h3⟩ | ⟨g, h3⟩ | ⟨g, h3⟩ | ⟨g, h3⟩ <;> simp only at g <;> subst g
  · exact may_k0 mf xf ms xs st cs ns ts es md hd im ix w htab true h1 h2 (fun W _ => fieldsOfAll_T 0 mf xf ms xs st cs ns ts es md hd im ix W h3)
  · exact may_k1 mf xf ms xs st cs ns ts es md hd im ix w htab true h1 h2 (fun W _ => fieldsOfFrac_T 1 mf xf ms xs st cs ns ts es md hd im ix W h3)
  · exact may_k2 mf xf ms xs st cs ns ts es md hd im ix w htab true h1 h2 (fun W _ => fieldsOfSig_T 2 mf xf ms xs st cs ns ts es md hd im ix W h3)
  · exact may_k3 mf xf ms xs st cs ns ts es md hd im ix w htab true h1 h2 (fun W _ => fieldsOfBoth_T 3 mf xf ms xs st cs ns ts es md hd im ix W h3)
  · exact may_k4 mf xf ms xs st cs ns ts es md hd im ix w htab true h1 h2 (fun W hW => fieldsOfStep_T 4 mf xf ms xs st cs ns ts es md hd im ix W hW h3)

theorem may_F (k mf xf ms xs : Int) (st : Bool) (cs : Int) (ns : Bool) (ts : ByteArray) (es md : Int) (hd : Bool) (im ix : Int) (w : World) (htab : Tab w) (h : ¬ MayP ⟨k, mf, xf, ms, xs, st, cs, ns, bys ts, es, md, hd, im, ix⟩) : Calls Tryz.prog 34 #[prV k mf xf ms xs st cs ns ts es md hd im ix] w fun e w' => e = .returned (.bool false) ∧ Below w.heap.size w w' := by
  by_cases h0 : 0 ≤ k ∧ k ≤ 4
  rotate_left
  · exact may_f0 k mf xf ms xs st cs ns ts es md hd im ix w htab h0
  by_cases h1 : 0 ≤ md ∧ md ≤ 7
  rotate_left
  · exact may_f1 k mf xf ms xs st cs ns ts es md hd im ix w htab h0 h1
  by_cases h2 : IntOk ⟨k, mf, xf, ms, xs, st, cs, ns, bys ts, es, md, hd, im, ix⟩
  rotate_left
  · exact may_f2 k mf xf ms xs st cs ns ts es md hd im ix w htab h0 h1 h2
  have hk : k = 0 ∨ k = 1 ∨ k = 2 ∨ k = 3 ∨ k = 4 := by omega
  rcases hk with rfl | rfl | rfl | rfl | rfl
  · exact may_k0 mf xf ms xs st cs ns ts es md hd im ix w htab false h1 h2 (fun W _ => fieldsOfAll_F 0 mf xf ms xs st cs ns ts es md hd im ix W (fun g => h ⟨h1, h2, .inl ⟨rfl, g⟩⟩))
  · exact may_k1 mf xf ms xs st cs ns ts es md hd im ix w htab false h1 h2 (fun W _ => fieldsOfFrac_F 1 mf xf ms xs st cs ns ts es md hd im ix W (fun g => h ⟨h1, h2, .inr (.inl ⟨rfl, g⟩)⟩))
  · exact may_k2 mf xf ms xs st cs ns ts es md hd im ix w htab false h1 h2 (fun W _ => fieldsOfSig_F 2 mf xf ms xs st cs ns ts es md hd im ix W (fun g => h ⟨h1, h2, .inr (.inr (.inl ⟨rfl, g⟩))⟩))
  · exact may_k3 mf xf ms xs st cs ns ts es md hd im ix w htab false h1 h2 (fun W _ => fieldsOfBoth_F 3 mf xf ms xs st cs ns ts es md hd im ix W (fun g => h ⟨h1, h2, .inr (.inr (.inr (.inl ⟨rfl, g⟩)))⟩))
  · exact may_k4 mf xf ms xs st cs ns ts es md hd im ix w htab false h1 h2 (fun W hW => fieldsOfStep_F 4 mf xf ms xs st cs ns ts es md hd im ix W hW (fun g => h ⟨h1, h2, .inr (.inr (.inr (.inr ⟨rfl, g⟩)))⟩))

set_option maxHeartbeats 1000000 in
theorem check_tP (k mf xf ms xs : Int) (st : Bool) (cs : Int) (ns : Bool) (ts : ByteArray) (es md : Int) (hd : Bool) (im ix : Int) (w : World) (htab : Tab w) (h : MayP ⟨k, mf, xf, ms, xs, st, cs, ns, bys ts, es, md, hd, im, ix⟩) : Calls Tryz.prog 12 #[prV k mf xf ms xs st cs ns ts es md hd im ix] w fun e w' => e = .returned (.int .i64 0) ∧ Below w.heap.size w w' := by
  have MY := hide (fun W (hW : Tab W) => may_T k mf xf ms xs st cs ns ts es md hd im ix W hW h)
  have HT := hide htab
  clear h htab
  have Bp0 := hide (Blk.newAt w (w.heap.size) (rfl) #[.int .i64 k, .int .i64 mf, .int .i64 xf, .int .i64 ms, .int .i64 xs, .bool st, .int .i64 cs, .bool ns, .string ts, .int .i64 es, .int .i64 md, .bool hd, .int .i64 im, .int .i64 ix] 30)
  have HB0 : Hid (Below w.heap.size w (w.alloc (.cells #[.int .i64 k, .int .i64 mf, .int .i64 xf, .int .i64 ms, .int .i64 xs, .bool st, .int .i64 cs, .bool ns, .string ts, .int .i64 es, .int .i64 md, .bool hd, .int .i64 im, .int .i64 ix] 30))) := ((Below.refl _ _).alloc (Nat.le_refl _) _)
  go_enter Tryz.func12, Tryz.ntmps12
  go_wp2_with fail
  refine (MY.out _ (HT.out.below HB0.out)).mono ?_
  rintro e w1 ⟨rfl, hb⟩
  have Bp1 := Blk.on Bp0 hb
  have HB1 := hide (HB0.out.trans (hb.mono HB0.out.size))
  clear hb Bp0 HB0 
  obtain ⟨yp0, yp1, yp2, yp3, yp4, yp5, yp6, yp7, yp8, yp9, yp10, yp11, yp12, yp13⟩ := Bp1.out.fourteen
  go_wp2
  go_ret
  exact ⟨rfl, HB1.out⟩

set_option maxHeartbeats 1000000 in
theorem check_fP (k mf xf ms xs : Int) (st : Bool) (cs : Int) (ns : Bool) (ts : ByteArray) (es md : Int) (hd : Bool) (im ix : Int) (w : World) (htab : Tab w) (h : ¬ MayP ⟨k, mf, xf, ms, xs, st, cs, ns, bys ts, es, md, hd, im, ix⟩) : Calls Tryz.prog 12 #[prV k mf xf ms xs st cs ns ts es md hd im ix] w fun e w' => e = .returned (.int .i64 70) ∧ Below w.heap.size w w' := by
  have MY := hide (fun W (hW : Tab W) => may_F k mf xf ms xs st cs ns ts es md hd im ix W hW h)
  have HT := hide htab
  clear h htab
  have Bp0 := hide (Blk.newAt w (w.heap.size) (rfl) #[.int .i64 k, .int .i64 mf, .int .i64 xf, .int .i64 ms, .int .i64 xs, .bool st, .int .i64 cs, .bool ns, .string ts, .int .i64 es, .int .i64 md, .bool hd, .int .i64 im, .int .i64 ix] 30)
  have HB0 : Hid (Below w.heap.size w (w.alloc (.cells #[.int .i64 k, .int .i64 mf, .int .i64 xf, .int .i64 ms, .int .i64 xs, .bool st, .int .i64 cs, .bool ns, .string ts, .int .i64 es, .int .i64 md, .bool hd, .int .i64 im, .int .i64 ix] 30))) := ((Below.refl _ _).alloc (Nat.le_refl _) _)
  go_enter Tryz.func12, Tryz.ntmps12
  go_wp2_with fail
  refine (MY.out _ (HT.out.below HB0.out)).mono ?_
  rintro e w1 ⟨rfl, hb⟩
  have Bp1 := Blk.on Bp0 hb
  have HB1 := hide (HB0.out.trans (hb.mono HB0.out.size))
  clear hb Bp0 HB0 
  obtain ⟨yp0, yp1, yp2, yp3, yp4, yp5, yp6, yp7, yp8, yp9, yp10, yp11, yp12, yp13⟩ := Bp1.out.fourteen
  go_wp2
  go_ret
  exact ⟨rfl, HB1.out⟩

theorem Check_any (k mf xf ms xs : Int) (st : Bool) (cs : Int) (ns : Bool) (ts : ByteArray) (es md : Int) (hd : Bool) (im ix : Int) (w : World) (htab : Tab w) : Calls Tryz.prog 12 #[prV k mf xf ms xs st cs ns ts es md hd im ix] w fun e w' => e = .returned (.int .i64 (checkP ⟨k, mf, xf, ms, xs, st, cs, ns, bys ts, es, md, hd, im, ix⟩)) ∧ Below w.heap.size w w' := by
  by_cases h : MayP ⟨k, mf, xf, ms, xs, st, cs, ns, bys ts, es, md, hd, im, ix⟩
  · rw [checkP_yes h]; exact check_tP k mf xf ms xs st cs ns ts es md hd im ix w htab h
  · rw [checkP_no h]; exact check_fP k mf xf ms xs st cs ns ts es md hd im ix w htab h

end Go.Proofs.YtobloamnaemfnaaGreatDoor
